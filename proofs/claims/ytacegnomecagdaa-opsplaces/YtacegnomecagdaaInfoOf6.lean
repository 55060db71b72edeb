
/- The code's switch of all, part by part. -/
import Derived.Test.YtacegnomecagdaaRows
import Derived.Test.YtacegnomecagdaaOpSpec
namespace Go.Proofs.Ytacegnomecagdaa
set_option linter.unusedVariables false
set_option linter.unusedSimpArgs false
open Go.RowKit

set_option maxHeartbeats 8000000 in
theorem infoStack_any (n : Int) (hn : n ≤ 12) (w : World) :
    Calls Try.prog 21 #[.int .i64 n] w fun e w' => e = .returned (.agg #[.string (opS n), .int .i64 (opP n), .int .i64 (opW n)]) ∧ Below w.heap.size w w' := by
  go_enter Try.func21, Try.ntmps21
  go_wp2
  all_goals
    refine bodyPost_ret (v := _) (by simp [results, Try.results21, go_sem]; rfl) rfl ⟨?_, ?_⟩
    · simp only [beq_iff_eq, beq_eq_false_iff_ne, ne_eq] at *
      first
        | (subst n; rfl)
        | (have ho : ¬ (1 ≤ n ∧ n ≤ 75) := by omega
           exact ret_info (opS_out ho).symm (opP_out ho).symm (opW_out ho).symm)
    · exact (Below.refl _ _).alloc (Nat.le_refl _) _

set_option maxHeartbeats 8000000 in
theorem infoNumbers_any (n : Int) (h1 : 12 < n) (h2 : n ≤ 33) (w : World) :
    Calls Try.prog 22 #[.int .i64 n] w fun e w' => e = .returned (.agg #[.string (opS n), .int .i64 (opP n), .int .i64 (opW n)]) ∧ Below w.heap.size w w' := by
  go_enter Try.func22, Try.ntmps22
  go_wp2
  all_goals
    refine bodyPost_ret (v := _) (by simp [results, Try.results22, go_sem]; rfl) rfl ⟨?_, ?_⟩
    · simp only [beq_iff_eq, beq_eq_false_iff_ne, ne_eq] at *
      first
        | (subst n; rfl)
        | (have ho : ¬ (1 ≤ n ∧ n ≤ 75) := by omega
           exact ret_info (opS_out ho).symm (opP_out ho).symm (opW_out ho).symm)
    · exact (Below.refl _ _).alloc (Nat.le_refl _) _

set_option maxHeartbeats 8000000 in
theorem infoCalls_any (n : Int) (h1 : 33 < n) (h2 : n ≤ 47) (w : World) :
    Calls Try.prog 23 #[.int .i64 n] w fun e w' => e = .returned (.agg #[.string (opS n), .int .i64 (opP n), .int .i64 (opW n)]) ∧ Below w.heap.size w w' := by
  go_enter Try.func23, Try.ntmps23
  go_wp2
  all_goals
    refine bodyPost_ret (v := _) (by simp [results, Try.results23, go_sem]; rfl) rfl ⟨?_, ?_⟩
    · simp only [beq_iff_eq, beq_eq_false_iff_ne, ne_eq] at *
      first
        | (subst n; rfl)
        | (have ho : ¬ (1 ≤ n ∧ n ≤ 75) := by omega
           exact ret_info (opS_out ho).symm (opP_out ho).symm (opW_out ho).symm)
    · exact (Below.refl _ _).alloc (Nat.le_refl _) _

set_option maxHeartbeats 8000000 in
theorem infoMemory_any (n : Int) (h1 : 47 < n) (h2 : n ≤ 66) (w : World) :
    Calls Try.prog 24 #[.int .i64 n] w fun e w' => e = .returned (.agg #[.string (opS n), .int .i64 (opP n), .int .i64 (opW n)]) ∧ Below w.heap.size w w' := by
  go_enter Try.func24, Try.ntmps24
  go_wp2
  all_goals
    refine bodyPost_ret (v := _) (by simp [results, Try.results24, go_sem]; rfl) rfl ⟨?_, ?_⟩
    · simp only [beq_iff_eq, beq_eq_false_iff_ne, ne_eq] at *
      first
        | (subst n; rfl)
        | (have ho : ¬ (1 ≤ n ∧ n ≤ 75) := by omega
           exact ret_info (opS_out ho).symm (opP_out ho).symm (opW_out ho).symm)
    · exact (Below.refl _ _).alloc (Nat.le_refl _) _

set_option maxHeartbeats 8000000 in
theorem infoRest_any (n : Int) (h1 : 66 < n) (w : World) :
    Calls Try.prog 25 #[.int .i64 n] w fun e w' => e = .returned (.agg #[.string (opS n), .int .i64 (opP n), .int .i64 (opW n)]) ∧ Below w.heap.size w w' := by
  go_enter Try.func25, Try.ntmps25
  go_wp2
  all_goals
    refine bodyPost_ret (v := _) (by simp [results, Try.results25, go_sem]; rfl) rfl ⟨?_, ?_⟩
    · simp only [beq_iff_eq, beq_eq_false_iff_ne, ne_eq] at *
      first
        | (subst n; rfl)
        | (have ho : ¬ (1 ≤ n ∧ n ≤ 75) := by omega
           exact ret_info (opS_out ho).symm (opP_out ho).symm (opW_out ho).symm)
    · exact (Below.refl _ _).alloc (Nat.le_refl _) _

end Go.Proofs.Ytacegnomecagdaa
