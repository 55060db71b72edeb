
/- The small functions of rows and of its references: signs, Columns, width, Width, fits, Code, Coded. -/
import Derived.Test.YtjmjpdamhondkaaRows
import Derived.Test.YtjmjpdamhondkaaLeaf
import Derived.Test.YtjmjpdamhondkaaRowPlain
namespace Go.Proofs.Ytjmjpdamhondkaa
set_option linter.unusedVariables false
set_option linter.unusedSimpArgs false
open Go.RowKit

/-- The signs of a table's columns. -/
def sgL (n : Int) : List UInt8 :=
  if n = 0 then [50, 110, 99, 105, 105] else if n = 1 then [50, 110, 98] else if n = 2 then [52, 50, 50, 110, 98, 105] else if n = 3 then [105, 105] else if n = 4 then [98] else if n = 5 then [98] else []
def sgB (n : Int) : ByteArray := ⟨(sgL n).toArray⟩
def colsI (n : Int) : Int := if n = 0 then 5 else if n = 1 then 3 else if n = 2 then 6 else if n = 3 then 2 else if n = 4 then 1 else if n = 5 then 1 else 0

theorem ret_str {a b : ByteArray} (h : a = b) : Ending.returned (.string a) = .returned (.string b) := by rw [h]

theorem signs_any (n : Int) (w : World) :
    Calls Try.prog 37 #[.int .i64 n] w fun e w' => e = .returned (.string (sgB n)) ∧ w' = w := by
  go_enter Try.func37, Try.ntmps37
  go_wp2
  all_goals (go_ret; exact ⟨ret_str (by simp only [beq_iff_eq, beq_eq_false_iff_ne, ne_eq] at *; simp [sgB, sgL, *]), rfl⟩)

theorem sgB_size (n : Int) : ((sgB n).size : Int) = colsI n := by
  unfold sgB sgL colsI
  repeat' split
  all_goals rfl

theorem columns_any (n : Int) (w : World) :
    Calls Try.prog 21 #[.int .i64 n] w fun e w' => e = .returned (.int .i64 (colsI n)) ∧ w' = w := by
  have hs := sgB_size n
  go_enter Try.func21, Try.ntmps21
  go_wp2_with (go_at_call 37; refine (signs_any _ _).mono ?_; rintro e wz ⟨rfl, hz⟩; subst wz)
  go_ret
  exact ⟨ret_int rfl, rfl⟩

theorem refColumns_any (n : Int) (w : World) :
    Calls Try.prog 22 #[.int .i64 n] w fun e w' => e = .returned (.int .i64 (colsI n)) ∧ w' = w := by
  go_enter Try.func22, Try.ntmps22
  go_wp2
  all_goals (go_ret; exact ⟨ret_int (by simp only [beq_iff_eq, beq_eq_false_iff_ne, ne_eq] at *; simp [colsI, *]), rfl⟩)

theorem colsI_nat (t : Nat) : colsI (t : Int) = (colsR t : Int) := by
  unfold colsI colsR
  split <;> simp_all <;> (repeat' split) <;> simp_all <;> omega

end Go.Proofs.Ytjmjpdamhondkaa
