
/- Slices of slices in memory, as deep as tables are. No program is named here. -/
import Derived.Test.YtjmjpdamhondkaaApd
namespace Go.Proofs.Ytjmjpdamhondkaa
set_option linter.unusedVariables false
set_option linter.unusedSimpArgs false
open Go.RowKit

/-- The value is a slice whose cells are these things, each as R tells. -/
def Ns {α : Type} (R : World → Value → α → Prop) (w : World) (v : Value) (l : List α) : Prop := ∃ vs, vs.length = l.length ∧ Sl w v vs ∧ ∀ i (h : i < l.length) (g : i < vs.length), R w vs[i] l[i]
theorem Ns.nil {α : Type} (R : World → Value → α → Prop) (w : World) : Ns R w (.slice none 0 0) [] := ⟨[], rfl, Sl.nil w, fun i h => by simp at h⟩
theorem Ns.later {α : Type} {R : World → Value → α → Prop} {w w' : World} {v : Value} {l : List α} (h : Ns R w v l) (hb : Below w.heap.size w w') (hR : ∀ u x, R w u x → R w' u x) : Ns R w' v l := by
  obtain ⟨vs, h1, h2, h3⟩ := h
  exact ⟨vs, h1, h2.later hb, fun i a b => hR _ _ (h3 i a b)⟩
theorem Ns.shape {α : Type} {R : World → Value → α → Prop} {w : World} {v : Value} {l : List α} (h : Ns R w v l) : ∃ a c, v = .slice a l.length c ∧ l.length ≤ c ∧ c ≤ maxLen := by
  obtain ⟨vs, h1, ⟨a, c, e, h2, h3, _⟩, _⟩ := h
  exact ⟨a, c, by rw [e, h1], by omega, h3⟩
/-- The cell at a place, and what it is. -/
theorem Ns.cell {α : Type} {R : World → Value → α → Prop} {w : World} {v : Value} {l : List α} (h : Ns R w v l) (hne : l ≠ []) : ∃ b off c, v = .slice (some ⟨b, off, none⟩) l.length c ∧ b < w.heap.size ∧ ∀ i (hi : i < l.length), ∃ u, w.cell? ⟨b, off + i, none⟩ = some u ∧ R w u l[i] := by
  obtain ⟨vs, h1, ⟨a, c, e, h2, h3, h4⟩, h5⟩ := h
  have hvs : vs ≠ [] := by
    intro ee; subst ee; simp at h1
    exact hne (List.eq_nil_of_length_eq_zero h1.symm)
  obtain ⟨b, off, rfl, hb, hc⟩ := h4 hvs
  refine ⟨b, off, c, by rw [e, h1], hb, fun i hi => ?_⟩
  have hi' : i < vs.length := by omega
  exact ⟨vs[i], hc i hi', h5 i hi hi'⟩

/-- Numbers; rows of numbers; tables of rows. -/
def In1 (w : World) (v : Value) (l : List Int) : Prop := Sl w v (l.map (Value.int .i64))
theorem In1.later {w w' : World} {v : Value} {l : List Int} (h : In1 w v l) (hb : Below w.heap.size w w') : In1 w' v l := Sl.later h hb
theorem In1.shape {w : World} {v : Value} {l : List Int} (h : In1 w v l) : ∃ a c, v = .slice a l.length c ∧ l.length ≤ c ∧ c ≤ maxLen := by
  obtain ⟨a, c, e, h1, h2, _⟩ := h
  rw [List.length_map] at e h1
  exact ⟨a, c, e, h1, h2⟩
def In2 (w : World) (v : Value) (l : List (List Int)) : Prop := Ns In1 w v l
theorem In2.later {w w' : World} {v : Value} {l : List (List Int)} (h : In2 w v l) (hb : Below w.heap.size w w') : In2 w' v l := Ns.later h hb fun _ _ h => In1.later h hb
def In3 (w : World) (v : Value) (l : List (List (List Int))) : Prop := Ns In2 w v l
theorem In3.later {w w' : World} {v : Value} {l : List (List (List Int))} (h : In3 w v l) (hb : Below w.heap.size w w') : In3 w' v l := Ns.later h hb fun _ _ h => In2.later h hb

/-- One more cell: where each cell's own memory is not the row's. -/
theorem Ns.snoc {α : Type} {R : World → Value → α → Prop} {w : World} {base : Nat} {e : TypeId} {v u : Value} {vs : List Value} {l : List α} {x : α} (ho : OwnV w base e v (vs ++ [u])) (hl : vs.length = l.length) (hR : ∀ i (h : i < l.length) (g : i < vs.length), R w vs[i] l[i]) (hx : R w u x) : Ns R w v (l ++ [x]) := by
  refine ⟨vs ++ [u], by simp [hl], ho.sl, fun i h g => ?_⟩
  simp only [List.length_append, List.length_cons, List.length_nil] at h g
  by_cases hi : i < l.length
  · rw [List.getElem_append_left (by omega), List.getElem_append_left hi]; exact hR i hi (by omega)
  · have e1 : i = l.length := by omega
    subst e1
    have e2 : (vs ++ [u])[l.length]'(by simp; omega) = u := by
      rw [List.getElem_append_right (by omega)]; simp [hl]
    have e3 : (l ++ [x])[l.length]'(by simp) = x := by simp
    rw [e2, e3]; exact hx

end Go.Proofs.Ytjmjpdamhondkaa
