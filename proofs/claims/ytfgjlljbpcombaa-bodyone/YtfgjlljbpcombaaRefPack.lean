
/- Pack and Put of the references. -/
import Derived.Test.YtfgjlljbpcombaaRows
import Derived.Test.YtfgjlljbpcombaaWakes
import Derived.Test.YtfgjlljbpcombaaAppend
import Derived.Test.YtfgjlljbpcombaaPackMath
namespace Go.Proofs.Ytfgjlljbpcombaa
set_option linter.unusedVariables false
set_option linter.unusedSimpArgs false
open Go.RowKit

theorem below_of_nil {w w1 : World} {o : Obj} (h : (w.alloc o).grownBy w1 (Value.slice none 0 0).ownBlock) : Below w.heap.size w w1 :=
  ((Below.refl _ _).alloc (Nat.le_refl _) o).trans ⟨h.os, h.tape, h.output, h.size, fun k hk => h.block k (by simp; omega) (by simp [Value.ownBlock])⟩

theorem lit_eq (xs : List Int) (bs : List UInt8) (h : bs.map (fun b => (b.toNat : Int)) = xs) : (xs.map (Value.int .u8)).toArray = (u8s bs).toArray := by
  subst h; simp [u8s]

end Go.Proofs.Ytfgjlljbpcombaa
