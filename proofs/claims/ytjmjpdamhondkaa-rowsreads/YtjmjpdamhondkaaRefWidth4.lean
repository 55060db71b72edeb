
/- Width of the references. -/
import Derived.Test.YtjmjpdamhondkaaCols4
namespace Go.Proofs.Ytjmjpdamhondkaa
set_option linter.unusedVariables false
set_option linter.unusedSimpArgs false
open Go.RowKit

set_option maxHeartbeats 4000000 in
theorem refWidth_any (t c m : Nat) (hm : m ≤ 3) (w : World) :
    Calls Try.prog 29 #[.int .i64 (t : Int), .int .i64 (c : Int), .int .i64 (m : Int)] w fun e w' => e = .returned (.int .i64 (widR t c m : Int)) ∧ w' = w := by
  have hmc : m = 0 ∨ m = 1 ∨ m = 2 ∨ m = 3 := by omega
  rcases hmc with rfl | rfl | rfl | rfl
  all_goals
    go_enter Try.func29, Try.ntmps29
    go_wp2
    all_goals (go_ret; exact ⟨ret_int (by (try simp only [beq_iff_eq, beq_eq_false_iff_ne, ne_eq] at *); unfold widR; (repeat' split) <;> omega), rfl⟩)

end Go.Proofs.Ytjmjpdamhondkaa
