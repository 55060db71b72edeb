
/- A block of cells, whatever they are. No program is named here. -/
import Derived.Test.YtbfcdcdeohikpaaMem
namespace Go.Proofs.Ytbfcdcdeohikpaa
set_option linter.unusedVariables false
set_option linter.unusedSimpArgs false
open Go.RowKit

/-- In block g lie these cells. -/
def At (w : World) (g : Nat) (C : Array Value) (t : TypeId) : Prop := w.heap[g]? = some (.cells C t (0, 0))

theorem At.cell {w : World} {g : Nat} {C : Array Value} {t : TypeId} (h : At w g C t) : ∀ o, w.cell? ⟨g, o, none⟩ = C[o]? := by
  unfold At at h
  intro o
  simp [World.cell?, h]
theorem At.melt {w : World} {g : Nat} {C : Array Value} {t : TypeId} (h : At w g C t) : ∀ o, w.frozen? ⟨g, o, none⟩ = false := by
  unfold At at h
  intro o
  simp [World.frozen?, h]
theorem At.lt {w : World} {g : Nat} {C : Array Value} {t : TypeId} (h : At w g C t) : g < w.heap.size := (Array.getElem?_eq_some_iff.1 h).1
theorem At.below {w w' : World} {g B : Nat} {C : Array Value} {t : TypeId} (h : At w g C t) (hb : Below B w w') (hg : g < B) : At w' g C t := by
  unfold At at h ⊢
  rw [hb.block g hg]; exact h
theorem At.later {w w' : World} {g : Nat} {C : Array Value} {t : TypeId} (h : At w g C t) (hb : Below w.heap.size w w') : At w' g C t := h.below hb h.lt
theorem At.drewN {w : World} {g : Nat} {C : Array Value} {t : TypeId} (h : At w g C t) (n : Nat) : At (w.drewN n) g C t := h
theorem At.made (w : World) (C : Array Value) (t : TypeId) : At (w.alloc (.cells C t)) w.heap.size C t := by
  unfold At
  have := heap_alloc_new w (.cells C t)
  simpa using this
theorem At.next {w : World} {g : Nat} {C : Array Value} {t : TypeId} (h : At w g C t) (o : Obj) : At (w.alloc o) g C t := h.later ((Below.refl _ _).alloc (Nat.le_refl _) _)
theorem At.other {w : World} {g g' o : Nat} {C : Array Value} {t : TypeId} (h : At w g C t) (hg : g ≠ g') (u : Value) : At (w.setCell ⟨g', o, none⟩ u) g C t := by
  unfold At at h ⊢
  rw [Below.heap_setCell _ _ _ _ hg]; exact h
theorem At.set {w : World} {g : Nat} {C : Array Value} {t : TypeId} (h : At w g C t) (o : Nat) (u : Value) : At (w.setCell ⟨g, o, none⟩ u) g (C.setIfInBounds o u) t := by
  unfold At at h ⊢
  rw [setCell_eq_setRow w g o _ _ _ _ h, setRow_heap w g _ _ _ _ h]

/-- Three, and six cells of a block are laid anew. -/
theorem At.set3 {w : World} {g : Nat} {c0 c1 c2 : Value} {t : TypeId} (h : At w g #[c0, c1, c2] t) (x0 x1 x2 : Value) :
    At (((w.setCell ⟨g, 0, none⟩ x0).setCell ⟨g, 1, none⟩ x1).setCell ⟨g, 2, none⟩ x2) g #[x0, x1, x2] t := by
  have := ((h.set 0 x0).set 1 x1).set 2 x2
  simpa using this
theorem At.set4 {w : World} {g : Nat} {c0 c1 c2 c3 : Value} {t : TypeId} (h : At w g #[c0, c1, c2, c3] t) (x0 x1 x2 x3 : Value) :
    At ((((w.setCell ⟨g, 0, none⟩ x0).setCell ⟨g, 1, none⟩ x1).setCell ⟨g, 2, none⟩ x2).setCell ⟨g, 3, none⟩ x3) g #[x0, x1, x2, x3] t := by
  have := (((h.set 0 x0).set 1 x1).set 2 x2).set 3 x3
  simpa using this
theorem At.set6 {w : World} {g : Nat} {c0 c1 c2 c3 c4 c5 : Value} {t : TypeId} (h : At w g #[c0, c1, c2, c3, c4, c5] t) (x0 x1 x2 x3 x4 x5 : Value) :
    At ((((((w.setCell ⟨g, 0, none⟩ x0).setCell ⟨g, 1, none⟩ x1).setCell ⟨g, 2, none⟩ x2).setCell ⟨g, 3, none⟩ x3).setCell ⟨g, 4, none⟩ x4).setCell ⟨g, 5, none⟩ x5) g #[x0, x1, x2, x3, x4, x5] t := by
  have := (((((h.set 0 x0).set 1 x1).set 2 x2).set 3 x3).set 4 x4).set 5 x5
  simpa using this
theorem below_set3 {B g : Nat} {w w1 : World} (h : Below B w w1) (hg : B ≤ g) (x0 x1 x2 : Value) : Below B w (((w1.setCell ⟨g, 0, none⟩ x0).setCell ⟨g, 1, none⟩ x1).setCell ⟨g, 2, none⟩ x2) :=
  ((h.setCell hg _).setCell hg _).setCell hg _
theorem below_set4 {B g : Nat} {w w1 : World} (h : Below B w w1) (hg : B ≤ g) (x0 x1 x2 x3 : Value) : Below B w ((((w1.setCell ⟨g, 0, none⟩ x0).setCell ⟨g, 1, none⟩ x1).setCell ⟨g, 2, none⟩ x2).setCell ⟨g, 3, none⟩ x3) :=
  (((h.setCell hg _).setCell hg _).setCell hg _).setCell hg _
theorem below_set6 {B g : Nat} {w w1 : World} (h : Below B w w1) (hg : B ≤ g) (x0 x1 x2 x3 x4 x5 : Value) : Below B w ((((((w1.setCell ⟨g, 0, none⟩ x0).setCell ⟨g, 1, none⟩ x1).setCell ⟨g, 2, none⟩ x2).setCell ⟨g, 3, none⟩ x3).setCell ⟨g, 4, none⟩ x4).setCell ⟨g, 5, none⟩ x5) :=
  (((((h.setCell hg _).setCell hg _).setCell hg _).setCell hg _).setCell hg _).setCell hg _

end Go.Proofs.Ytbfcdcdeohikpaa
