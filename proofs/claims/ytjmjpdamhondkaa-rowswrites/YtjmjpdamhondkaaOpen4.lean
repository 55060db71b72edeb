
/- Tables that came in. -/
import Derived.Test.YtjmjpdamhondkaaRows
import Derived.Test.YtjmjpdamhondkaaOpen
import Derived.Test.YtjmjpdamhondkaaFits4
import Derived.Lib.SmallJoins
import Derived.Deep.Slices
namespace Go.Proofs.Ytjmjpdamhondkaa
set_option linter.unusedVariables false
set_option linter.unusedSimpArgs false
open Go.ChangeShapes Go.WideShapes Go.ChangeAt Go.RowKit

theorem slOf {W : World} {a : Addr} {len cap : Nat} (xs : List Value) (hx : xs.length = len) (hl : len ≤ cap) (hm : cap ≤ maxLen) (hc : ∀ i (h : i < xs.length), W.cell? (a.add i) = some xs[i]) : Sl W (.slice (some a) len cap) xs := by
  subst hx
  refine ⟨some a, cap, rfl, hl, hm, fun hne => ?_⟩
  have h0 := hc 0 (List.length_pos_iff.2 hne)
  obtain ⟨b, off, spot⟩ := a
  have hspot : spot = none := by simpa [Addr.add] using World.cell?_spot h0
  subst hspot
  refine ⟨b, off, rfl, by have := World.block_lt_of_cell? W _ h0; simpa [Addr.add] using this, fun i hi => ?_⟩
  have hplain : (⟨b, off, none⟩ : Addr).add i = ⟨b, off + i, none⟩ := by unfold Addr.add; split <;> simp_all
  rw [← hplain]; exact hc i hi

/-- A slice whose cells are opened one by one. -/
theorem openNs {α : Type} [Inhabited α] {R : World → Value → α → Prop} {H : Type} {enc : TypeId × Value → H} {W : World} {t e : TypeId} {v : Value} {n : Nat} {y : DataW H × List MemPlace} (ht : Try.prog.underlying t = some (.slice e)) (hc : Try.prog.cellsOf e = 1)
    (hR : ∀ n u y, DataW.trod enc Try.prog W 0 (fun _ => true) true n e [u] = some y → ∃ x, R W u x) (h : DataW.trod enc Try.prog W 0 (fun _ => true) true n t [v] = some y) : ∃ l, Ns R W v l := by
  rcases Go.Deep.open_slice1 ht hc h with ⟨hcs, _⟩ | ⟨a, len, cap, m, k, V, D, Pl, hcs, _, hl, hm, hmm, _, hx⟩
  · simp at hcs
    subst hcs
    exact ⟨[], Ns.nil _ _⟩
  · simp at hcs
    subst hcs
    simp only [if_true] at hmm
    obtain ⟨f, hf⟩ := Go.Deep.choose_lt (n := len) (p := fun i x => R W (V i) x) fun i hi => hR k (V i) _ (hx i (by omega)).2
    refine ⟨(List.range len).map f, (List.range len).map V, by simp, slOf _ (by simp) hl hm fun i hi => ?_, fun i hi gi => ?_⟩
    · simp only [List.length_map, List.length_range] at hi
      rw [(hx i (by omega)).1]; simp
    · simp only [List.length_map, List.length_range] at hi
      simp only [List.getElem_map, List.getElem_range]
      exact hf i hi

theorem openI1 {H : Type} {enc : TypeId × Value → H} {W : World} {v : Value} {n : Nat} {y : DataW H × List MemPlace}
    (h : DataW.trod enc Try.prog W 0 (fun _ => true) true n 62 [v] = some y) : ∃ l, In1 W v l ∧ ∀ x ∈ l, x < 9223372036854775808 := by
  rcases open_ints Try.underlying62 Try.underlying3 (by kernel_rfl) h with ⟨hcs, _⟩ | ⟨x, len, cap, zs, hcs, _, hl, hm, hz, hd, hcell, hwz⟩
  · simp at hcs
    subst hcs
    exact ⟨[], Sl.nil W, by simp⟩
  · simp at hcs
    subst hcs
    simp only [if_true] at hz
    have hlen : (zs.take len).length = len := by simp; omega
    refine ⟨zs.take len, slOf _ (by simp; omega) hl hm fun i hi => ?_, fun z hz' => ?_⟩
    · simp only [List.length_map, hlen] at hi
      rw [hcell i (by omega)]
      simp [List.getD, List.getElem?_eq_getElem (show i < zs.length by omega)]
    · have := hwz z (List.mem_of_mem_take hz')
      simp [Lit.wf, IntKind.wrap_i64] at this
      omega

theorem Ns.pure {α : Type} {R S : World → Value → α → Prop} {p : α → Prop} {w : World} {v : Value} {l : List α} (h : Ns R w v l) (hR : ∀ u x, R w u x → S w u x ∧ p x) : Ns S w v l ∧ ∀ x ∈ l, p x := by
  obtain ⟨vs, h1, h2, h3⟩ := h
  refine ⟨⟨vs, h1, h2, fun i a b => (hR _ _ (h3 i a b)).1⟩, fun x hx => ?_⟩
  obtain ⟨i, hi, rfl⟩ := List.getElem_of_mem hx
  exact (hR _ _ (h3 i hi (by omega))).2

theorem openI2 {H : Type} {enc : TypeId × Value → H} {W : World} {v : Value} {n : Nat} {y : DataW H × List MemPlace}
    (h : DataW.trod enc Try.prog W 0 (fun _ => true) true n 65 [v] = some y) : ∃ l, In2 W v l ∧ ∀ row ∈ l, ∀ x ∈ row, x < 9223372036854775808 := by
  obtain ⟨l, hl⟩ := openNs (R := fun W v l => In1 W v l ∧ ∀ x ∈ l, x < 9223372036854775808) Try.underlying65 (by kernel_rfl) (fun n u y h => openI1 h) h
  exact ⟨l, Ns.pure (S := In1) (p := fun row => ∀ x ∈ row, x < 9223372036854775808) hl fun u x h => h⟩
theorem openI3 {H : Type} {enc : TypeId × Value → H} {W : World} {v : Value} {n : Nat} {y : DataW H × List MemPlace}
    (h : DataW.trod enc Try.prog W 0 (fun _ => true) true n 24 [v] = some y) : ∃ T, In3 W v T ∧ SmallT T := by
  obtain ⟨l, hl⟩ := openNs (R := fun W v l => In2 W v l ∧ ∀ row ∈ l, ∀ x ∈ row, x < 9223372036854775808) Try.underlying24 (by kernel_rfl) (fun n u y h => openI2 h) h
  exact ⟨l, Ns.pure (S := In2) (p := fun l => ∀ row ∈ l, ∀ x ∈ row, x < 9223372036854775808) hl fun u x h => h⟩

/-- Tables as a value: what the walks ask. -/
def Tv (w : World) (v : Value) (T : Tabs) : Prop := ∃ sv, v = .agg #[.int .i64 T.entry, sv] ∧ In3 w sv T.rows ∧ SmallT T.rows ∧ T.entry < 9223372036854775808

theorem open_api_Tables {H : Type} {enc : TypeId × Value → H} {W : World} {base : Nat} {v : Value} {d : DataW H} {p : List MemPlace}
    (hv : Value.okWide Try.prog W .any base 26 v) (h : DataW.Trod enc Try.prog W 0 (fun _ => true) true 26 v d p) : ∃ T, Tv W v T := by
  obtain ⟨v0, v1, y0, y1, n, rfl, _, _, h0, h1⟩ := Go.Joins.open_agg2 Try.underlying26 (by kernel_rfl) (by kernel_rfl) hv h
  obtain ⟨T, hT, hS⟩ := openI3 h1
  obtain ⟨x, hx, _, hw⟩ := DataW.trod_int Try.underlying3 h0
  simp at hx
  subst hx
  refine ⟨⟨x, T⟩, v1, rfl, hT, hS, ?_⟩
  simp [Lit.wf, IntKind.wrap_i64] at hw
  show x < 9223372036854775808
  omega

end Go.Proofs.Ytjmjpdamhondkaa
