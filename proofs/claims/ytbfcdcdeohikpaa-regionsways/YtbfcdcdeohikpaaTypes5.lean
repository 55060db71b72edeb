
/- Types as they are told in layer 5: what is plain, what may stand where, and the code's and the references' answers to that. -/
import Derived.Test.YtbfcdcdeohikpaaRows
import Derived.Test.YtbfcdcdeohikpaaLeaf
namespace Go.Proofs.Ytbfcdcdeohikpaa
set_option linter.unusedVariables false
set_option linter.unusedSimpArgs false
open Go.RowKit

/-- A type as a value. -/
def tyv (k i d : Int) (r : Bool) : Value := .agg #[.int .i64 k, .int .i64 i, .int .i64 d, .bool r]

def plainB (k i d : Int) (r : Bool) : Bool :=
  decide (0 ≤ d ∧ d ≤ 3 ∧ 0 ≤ i ∧ (k = 1 ∧ d = 0 ∧ r = false ∧ i = 0 ∨ (k = 2 ∨ k = 3 ∨ k = 4) ∧ i = 0 ∨ (k = 5 ∨ k = 6) ∧ i < 32 ∨ k = 7 ∧ i ≤ 7))
/-- What may stand there: 0 anywhere, 1 as a field's, 2 as a parameter's or a local's, 3 as what is answered. -/
def mayB (p : Nat) (k i d : Int) (r : Bool) : Bool :=
  if p = 1 then plainB k i d r && (k != 1) && !r else if p = 2 then plainB k i d r && (k != 1) else if p = 3 then plainB k i d r && !r else plainB k i d r

/-- A type: kind, index, dimensions, whether an address. -/
abbrev Ty := Int × Int × Int × Bool
def tv (t : Ty) : Value := .agg #[.int .i64 t.1, .int .i64 t.2.1, .int .i64 t.2.2.1, .bool t.2.2.2]
def plainT (t : Ty) : Bool := plainB t.1 t.2.1 t.2.2.1 t.2.2.2
def mayT (p : Nat) (t : Ty) : Bool := mayB p t.1 t.2.1 t.2.2.1 t.2.2.2

/-- What was there reads as before. -/
theorem bcell {W w1 : World} (hb : Below W.heap.size W w1) : (∀ b o, b < W.heap.size → w1.cell? ⟨b, o, none⟩ = W.cell? ⟨b, o, none⟩) ∧ (∀ b o, b < W.heap.size → w1.frozen? ⟨b, o, none⟩ = W.frozen? ⟨b, o, none⟩) :=
  ⟨fun b o h => hb.cell (p := ⟨b, o, none⟩) h, fun b o h => hb.frozen (p := ⟨b, o, none⟩) h⟩
/-- A box, and something behind it. -/
theorem below_box {w w1 : World} {o : Obj} (hb : Below (w.alloc o).heap.size (w.alloc o) w1) : Below w.heap.size w w1 :=
  ((Below.refl _ _).alloc (Nat.le_refl _) _).trans (hb.mono (by simp))

end Go.Proofs.Ytbfcdcdeohikpaa
