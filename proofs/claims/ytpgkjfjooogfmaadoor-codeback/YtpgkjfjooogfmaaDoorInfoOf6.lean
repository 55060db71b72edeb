
/- The code's switch of all, part by part. -/
import Derived.Test.YtpgkjfjooogfmaaDoorRows
import Derived.Test.YtpgkjfjooogfmaaDoorOpSpec
namespace Go.Proofs.YtpgkjfjooogfmaaDoor
set_option linter.unusedVariables false
set_option linter.unusedSimpArgs false
open Go.RowKit

set_option maxHeartbeats 8000000 in
theorem infoStack_any (n : Int) (hn : n ≤ 12) (w : World) :
    Calls Tryd.prog 60 #[.int .i64 n] w fun e w' => e = .returned (.agg #[.string (opS n), .int .i64 (opP n), .int .i64 (opW n)]) ∧ Below w.heap.size w w' := by
  go_enter Tryd.func60, Tryd.ntmps60
  go_wp2
  all_goals
    refine bodyPost_ret (v := _) (by simp [results, Tryd.results60, go_sem]; rfl) rfl ⟨?_, ?_⟩
    · simp only [beq_iff_eq, beq_eq_false_iff_ne, ne_eq] at *
      first
        | (subst n; rfl)
        | (have ho : ¬ (1 ≤ n ∧ n ≤ 75) := by omega
           exact ret_info (opS_out ho).symm (opP_out ho).symm (opW_out ho).symm)
    · exact (Below.refl _ _).alloc (Nat.le_refl _) _

set_option maxHeartbeats 8000000 in
theorem infoNumbers_any (n : Int) (h1 : 12 < n) (h2 : n ≤ 33) (w : World) :
    Calls Tryd.prog 61 #[.int .i64 n] w fun e w' => e = .returned (.agg #[.string (opS n), .int .i64 (opP n), .int .i64 (opW n)]) ∧ Below w.heap.size w w' := by
  go_enter Tryd.func61, Tryd.ntmps61
  go_wp2
  all_goals
    refine bodyPost_ret (v := _) (by simp [results, Tryd.results61, go_sem]; rfl) rfl ⟨?_, ?_⟩
    · simp only [beq_iff_eq, beq_eq_false_iff_ne, ne_eq] at *
      first
        | (subst n; rfl)
        | (have ho : ¬ (1 ≤ n ∧ n ≤ 75) := by omega
           exact ret_info (opS_out ho).symm (opP_out ho).symm (opW_out ho).symm)
    · exact (Below.refl _ _).alloc (Nat.le_refl _) _

set_option maxHeartbeats 8000000 in
theorem infoCalls_any (n : Int) (h1 : 33 < n) (h2 : n ≤ 47) (w : World) :
    Calls Tryd.prog 62 #[.int .i64 n] w fun e w' => e = .returned (.agg #[.string (opS n), .int .i64 (opP n), .int .i64 (opW n)]) ∧ Below w.heap.size w w' := by
  go_enter Tryd.func62, Tryd.ntmps62
  go_wp2
  all_goals
    refine bodyPost_ret (v := _) (by simp [results, Tryd.results62, go_sem]; rfl) rfl ⟨?_, ?_⟩
    · simp only [beq_iff_eq, beq_eq_false_iff_ne, ne_eq] at *
      first
        | (subst n; rfl)
        | (have ho : ¬ (1 ≤ n ∧ n ≤ 75) := by omega
           exact ret_info (opS_out ho).symm (opP_out ho).symm (opW_out ho).symm)
    · exact (Below.refl _ _).alloc (Nat.le_refl _) _

set_option maxHeartbeats 8000000 in
theorem infoMemory_any (n : Int) (h1 : 47 < n) (h2 : n ≤ 66) (w : World) :
    Calls Tryd.prog 63 #[.int .i64 n] w fun e w' => e = .returned (.agg #[.string (opS n), .int .i64 (opP n), .int .i64 (opW n)]) ∧ Below w.heap.size w w' := by
  go_enter Tryd.func63, Tryd.ntmps63
  go_wp2
  all_goals
    refine bodyPost_ret (v := _) (by simp [results, Tryd.results63, go_sem]; rfl) rfl ⟨?_, ?_⟩
    · simp only [beq_iff_eq, beq_eq_false_iff_ne, ne_eq] at *
      first
        | (subst n; rfl)
        | (have ho : ¬ (1 ≤ n ∧ n ≤ 75) := by omega
           exact ret_info (opS_out ho).symm (opP_out ho).symm (opW_out ho).symm)
    · exact (Below.refl _ _).alloc (Nat.le_refl _) _

set_option maxHeartbeats 8000000 in
theorem infoRest_any (n : Int) (h1 : 66 < n) (w : World) :
    Calls Tryd.prog 64 #[.int .i64 n] w fun e w' => e = .returned (.agg #[.string (opS n), .int .i64 (opP n), .int .i64 (opW n)]) ∧ Below w.heap.size w w' := by
  go_enter Tryd.func64, Tryd.ntmps64
  go_wp2
  all_goals
    refine bodyPost_ret (v := _) (by simp [results, Tryd.results64, go_sem]; rfl) rfl ⟨?_, ?_⟩
    · simp only [beq_iff_eq, beq_eq_false_iff_ne, ne_eq] at *
      first
        | (subst n; rfl)
        | (have ho : ¬ (1 ≤ n ∧ n ≤ 75) := by omega
           exact ret_info (opS_out ho).symm (opP_out ho).symm (opW_out ho).symm)
    · exact (Below.refl _ _).alloc (Nat.le_refl _) _

end Go.Proofs.YtpgkjfjooogfmaaDoor
