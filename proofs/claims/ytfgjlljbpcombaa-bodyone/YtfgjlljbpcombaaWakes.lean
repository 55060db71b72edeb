
/- wakes of layer 1's statements: the examples hold. -/
import Derived.Test.YtfgjlljbpcombaaRows
import Derived.Test.YtfgjlljbpcombaaPack
import Derived.Test.YtfgjlljbpcombaaSame
namespace Go.Proofs.Ytfgjlljbpcombaa
set_option linter.unusedVariables false
set_option linter.unusedSimpArgs false
open Go.RowKit

theorem unp_ex : unp [192, 0, 64, 0] 0 = (16384, 4, 0) := by decide +kernel

theorem bs_lit (w : World) (bs : List UInt8) (C : Array Value) (e : TypeId) (n : Nat) (hC : C = (u8s bs).toArray) (hn : n = bs.length) (hm : bs.length ≤ maxLen) : Bs (w.alloc (.cells C e)) (.slice (some ⟨w.heap.size, 0, none⟩) n n) bs := by
  subst hC hn; exact Bs.made w bs e hm

end Go.Proofs.Ytfgjlljbpcombaa
