
/- Named of the references; OpsNamed's answer. -/
import Derived.Test.YtacegnomecagdaaRefName6
namespace Go.Proofs.Ytacegnomecagdaa
set_option linter.unusedVariables false
set_option linter.unusedSimpArgs false
open Go.RowKit

set_option maxHeartbeats 1000000 in
theorem refNamed_any (s : ByteArray) (w : World) :
    Calls Try.prog 12 #[.string s] w fun e w' => e = .returned (.tuple #[.int .i64 (nmI s), .int .i64 (nmE s)]) ∧ w' = w := by
  go_enter Try.func12, Try.ntmps12
  go_wp2_with fail
  go_loop [4] (fun i => ∃ k : Nat, k ≤ 75 ∧ i = .int .i64 ((k : Int) + 1) ∧ Hid (∀ j : Nat, j < k → ((opS ((j : Int) + 1)).toList == s.toList) = false)) (fun i => 76 - (intOf i).toNat)
  case atStart => exact ⟨0, Nat.zero_le _, by go_num, fun j hj => absurd hj (Nat.not_lt_zero _)⟩
  case round =>
    obtain ⟨k, hk, rfl, HL⟩ := hrel
    by_cases hlt : k < 75
    · go_wp2_with fail
      refine (refOpName_any ((k : Int) + 1) _).mono ?_
      rintro e wz ⟨rfl, hz⟩
      subst wz
      cases hq : ((opS ((k : Int) + 1)).toList == s.toList) with
      | true =>
        have HF : Hid (nmF s = some k) := nmF_some hlt hq HL.out
        go_wp2_with fail
        go_ret2
        exact ⟨ret_int2 (by unfold nmI; rw [HF.out]) (by unfold nmE; rw [HF.out]), rfl⟩
      | false =>
        have HL1 : Hid (∀ j : Nat, j < k + 1 → ((opS ((j : Int) + 1)).toList == s.toList) = false) := fun j hj => by
          by_cases e : j = k
          · subst e; exact hq
          · exact HL.out j (by omega)
        go_wp2_with fail
        go_round
        case rel => exact ⟨k + 1, by omega, by go_num, HL1⟩
        case measure => simp [intOf]; omega
    · have e : k = 75 := by omega
      subst e
      have HF : Hid (nmF s = none) := nmF_none HL.out
      go_wp2_with fail
      go_ret2
      exact ⟨ret_int2 (by unfold nmI; rw [HF.out]) (by unfold nmE; rw [HF.out]), rfl⟩

end Go.Proofs.Ytacegnomecagdaa
