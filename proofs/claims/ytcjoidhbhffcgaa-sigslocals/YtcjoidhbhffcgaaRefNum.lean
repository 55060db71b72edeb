
/- Num of the references, and Take of the reader. -/
import Derived.Test.YtcjoidhbhffcgaaRows
import Derived.Test.YtcjoidhbhffcgaaPackMath
import Derived.Test.YtcjoidhbhffcgaaAppend
namespace Go.Proofs.Ytcjoidhbhffcgaa
set_option linter.unusedVariables false
set_option linter.unusedSimpArgs false
open Go.RowKit

theorem leN_seg_step (bs : List UInt8) (at_ k m : Nat) (h : at_ + k < bs.length) : leN (seg bs (at_ + k) (m + 1)) = 256 * leN (seg bs (at_ + k + 1) m) + bs[at_ + k].toNat := by
  rw [seg_cons bs (at_ + k) m h]; simp [leN]; omega

end Go.Proofs.Ytcjoidhbhffcgaa
