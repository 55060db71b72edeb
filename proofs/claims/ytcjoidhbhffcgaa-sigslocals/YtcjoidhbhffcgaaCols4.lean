
/- The small functions of rows and of its references: signs, Columns, width, Width, fits, Code, Coded. -/
import Derived.Test.YtcjoidhbhffcgaaRows
import Derived.Test.YtcjoidhbhffcgaaLeaf
import Derived.Test.YtcjoidhbhffcgaaRowPlain
namespace Go.Proofs.Ytcjoidhbhffcgaa
set_option linter.unusedVariables false
set_option linter.unusedSimpArgs false
open Go.RowKit

/-- The signs of a table's columns. -/
def sgL (n : Int) : List UInt8 :=
  if n = 0 then [50, 110, 99, 105, 105] else if n = 1 then [50, 110, 98] else if n = 2 then [52, 50, 50, 110, 98, 105] else if n = 3 then [105, 105] else if n = 4 then [98] else if n = 5 then [98] else []
def sgB (n : Int) : ByteArray := ⟨(sgL n).toArray⟩
def colsI (n : Int) : Int := if n = 0 then 5 else if n = 1 then 3 else if n = 2 then 6 else if n = 3 then 2 else if n = 4 then 1 else if n = 5 then 1 else 0

theorem ret_str {a b : ByteArray} (h : a = b) : Ending.returned (.string a) = .returned (.string b) := by rw [h]

theorem sgB_size (n : Int) : ((sgB n).size : Int) = colsI n := by
  unfold sgB sgL colsI
  repeat' split
  all_goals rfl

theorem colsI_nat (t : Nat) : colsI (t : Int) = (colsR t : Int) := by
  unfold colsI colsR
  split <;> simp_all <;> (repeat' split) <;> simp_all <;> omega

end Go.Proofs.Ytcjoidhbhffcgaa
