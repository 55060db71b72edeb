
/- A type in a block of its own; the reader's next byte. -/
import Derived.Test.YtcjoidhbhffcgaaRule5
import Derived.Test.YtcjoidhbhffcgaaPacked
namespace Go.Proofs.Ytcjoidhbhffcgaa
set_option linter.unusedVariables false
set_option linter.unusedSimpArgs false
open Go.RowKit

/-- In block g lies a type. -/
def TyAt (w : World) (g : Nat) (k i d : Int) (r : Bool) : Prop := w.heap[g]? = some (.cells #[.int .i64 k, .int .i64 i, .int .i64 d, .bool r] 23 (0, 0))

theorem TyAt.cells {w : World} {g : Nat} {k i d : Int} {r : Bool} (h : TyAt w g k i d r) :
    w.cell? ⟨g, 0, none⟩ = some (.int .i64 k) ∧ w.cell? ⟨g, 1, none⟩ = some (.int .i64 i) ∧ w.cell? ⟨g, 2, none⟩ = some (.int .i64 d) ∧ w.cell? ⟨g, 3, none⟩ = some (.bool r) := by
  unfold TyAt at h
  simp [World.cell?, h]
theorem TyAt.melt {w : World} {g : Nat} {k i d : Int} {r : Bool} (h : TyAt w g k i d r) : ∀ o, w.frozen? ⟨g, o, none⟩ = false := by
  unfold TyAt at h
  intro o
  simp [World.frozen?, h]
theorem TyAt.lt {w : World} {g : Nat} {k i d : Int} {r : Bool} (h : TyAt w g k i d r) : g < w.heap.size := (Array.getElem?_eq_some_iff.1 h).1
theorem TyAt.below {w w' : World} {g B : Nat} {k i d : Int} {r : Bool} (h : TyAt w g k i d r) (hb : Below B w w') (hg : g < B) : TyAt w' g k i d r := by
  unfold TyAt at h ⊢
  rw [hb.block g hg]; exact h
theorem TyAt.later {w w' : World} {g : Nat} {k i d : Int} {r : Bool} (h : TyAt w g k i d r) (hb : Below w.heap.size w w') : TyAt w' g k i d r := h.below hb h.lt
theorem TyAt.only {w w' : World} {g rb : Nat} {k i d : Int} {r : Bool} (h : TyAt w g k i d r) (ho : Only rb w w') (hg : g ≠ rb) : TyAt w' g k i d r := by
  have := h.lt
  unfold TyAt at h ⊢
  rw [ho.block g this hg]; exact h
theorem TyAt.made (w : World) (k i d : Int) (r : Bool) : TyAt (w.alloc (.cells #[.int .i64 k, .int .i64 i, .int .i64 d, .bool r] 23)) w.heap.size k i d r := by
  unfold TyAt
  have := heap_alloc_new w (.cells #[.int .i64 k, .int .i64 i, .int .i64 d, .bool r] 23)
  simpa using this
theorem TyAt.other {w : World} {g g' o : Nat} {k i d : Int} {r : Bool} (h : TyAt w g k i d r) (hg : g ≠ g') (u : Value) : TyAt (w.setCell ⟨g', o, none⟩ u) g k i d r := by
  unfold TyAt at h ⊢
  rw [Below.heap_setCell _ _ _ _ hg]; exact h
theorem TyAt.set0 {w : World} {g : Nat} {k i d : Int} {r : Bool} (h : TyAt w g k i d r) (x : Int) : TyAt (w.setCell ⟨g, 0, none⟩ (.int .i64 x)) g x i d r := by
  unfold TyAt at h ⊢
  rw [setCell_eq_setRow w g 0 _ _ _ _ h, setRow_heap w g _ _ _ _ h]
  simp
theorem TyAt.set1 {w : World} {g : Nat} {k i d : Int} {r : Bool} (h : TyAt w g k i d r) (x : Int) : TyAt (w.setCell ⟨g, 1, none⟩ (.int .i64 x)) g k x d r := by
  unfold TyAt at h ⊢
  rw [setCell_eq_setRow w g 1 _ _ _ _ h, setRow_heap w g _ _ _ _ h]
  simp
theorem TyAt.set2 {w : World} {g : Nat} {k i d : Int} {r : Bool} (h : TyAt w g k i d r) (x : Int) : TyAt (w.setCell ⟨g, 2, none⟩ (.int .i64 x)) g k i x r := by
  unfold TyAt at h ⊢
  rw [setCell_eq_setRow w g 2 _ _ _ _ h, setRow_heap w g _ _ _ _ h]
  simp
theorem TyAt.set3 {w : World} {g : Nat} {k i d : Int} {r : Bool} (h : TyAt w g k i d r) (x : Bool) : TyAt (w.setCell ⟨g, 3, none⟩ (.bool x)) g k i d x := by
  unfold TyAt at h ⊢
  rw [setCell_eq_setRow w g 3 _ _ _ _ h, setRow_heap w g _ _ _ _ h]
  simp
theorem TyAt.set4 {w : World} {g : Nat} {k i d : Int} {r : Bool} (h : TyAt w g k i d r) (k' i' d' : Int) (r' : Bool) :
    TyAt ((((w.setCell ⟨g, 0, none⟩ (.int .i64 k')).setCell ⟨g, 1, none⟩ (.int .i64 i')).setCell ⟨g, 2, none⟩ (.int .i64 d')).setCell ⟨g, 3, none⟩ (.bool r')) g k' i' d' r' :=
  (((h.set0 k').set1 i').set2 d').set3 r'

theorem Only.setNew {rb : Nat} {a w : World} (h : Only rb a w) {g : Nat} (hg : a.heap.size ≤ g) (o : Nat) (u : Value) : Only rb a (w.setCell ⟨g, o, none⟩ u) :=
  ⟨h.os, h.tape, h.output, by have := h.size; simp [World.setCell]; exact this, fun k hk hne => by rw [Below.heap_setCell _ _ _ _ (show k ≠ g by omega)]; exact h.block k hk hne⟩
theorem Only.set4 {rb : Nat} {a w : World} (h : Only rb a w) {g : Nat} (hg : a.heap.size ≤ g) (x0 x1 x2 x3 : Value) :
    Only rb a ((((w.setCell ⟨g, 0, none⟩ x0).setCell ⟨g, 1, none⟩ x1).setCell ⟨g, 2, none⟩ x2).setCell ⟨g, 3, none⟩ x3) :=
  (((h.setNew hg _ _).setNew hg _ _).setNew hg _ _).setNew hg _ _
/-- What was made behind a world is not of it. -/
theorem Only.new {rb : Nat} {a w w' : World} (h : Only rb a w) (hb : Below w.heap.size w w') : Only rb a w' :=
  h.trans (Only.of_below hb)

/-- The dimensions of the type in a block. -/
def dimsAt (w : World) (g : Nat) : Nat := match w.cell? ⟨g, 2, none⟩ with
  | some (.int _ n) => n.toNat
  | _ => 0
theorem TyAt.dims {w : World} {g : Nat} {k i d : Int} {r : Bool} (h : TyAt w g k i d r) : dimsAt w g = d.toNat := by
  unfold dimsAt
  rw [h.cells.2.2.1]

/-- The byte that stands there, the error. -/
def byV (bs : List UInt8) (a : Nat) : Nat := if h : a < bs.length then bs[a].toNat else 0
def byE (bs : List UInt8) (a : Nat) : Nat := if a < bs.length then 0 else 1

theorem by_yes {bs : List UInt8} {a : Nat} (h : a < bs.length) : byV bs a = bs[a].toNat ∧ byE bs a = 0 ∧ byV bs a < 256 := by
  have := bs[a].toNat_lt
  simp [byV, byE, h]
  exact this
theorem by_no {bs : List UInt8} {a : Nat} (h : ¬ a < bs.length) : byV bs a = 0 ∧ byE bs a = 1 := by simp [byV, byE, h]

theorem num1_any {w : World} {rb : Nat} {bs : List UInt8} {a : Nat} (h : RdAt w rb bs a) :
    Calls Try.prog 56 #[.pointer (some ⟨rb, 0, none⟩), .int .i64 1] w fun e w' =>
      e = .returned (.tuple #[.int .u64 (byV bs a : Int), .int .i64 (byE bs a : Int)]) ∧ RdAt w' rb bs (a + (1 - byE bs a)) ∧ Only rb w w' := by
  have hle := h.le
  by_cases hl : a < bs.length
  · obtain ⟨g1, g2, g3⟩ := by_yes hl
    rw [g1, g2]
    refine (num_yes h 1 (by decide) (by omega) (by omega) (by omega)).mono ?_
    rintro e w' ⟨rfl, k1, k2⟩
    rw [seg_one bs a hl]
    exact ⟨by simp [leN], k1, k2⟩
  · obtain ⟨g1, g2⟩ := by_no hl
    rw [g1, g2]
    refine (num_short h 1 (by decide) (by omega)).mono ?_
    rintro e w' ⟨rfl, n, rfl⟩
    exact ⟨rfl, h.drewN n, (Only.refl _ _).drewN n⟩

end Go.Proofs.Ytcjoidhbhffcgaa
