
/- The statements' examples hold. -/
import Derived.Test.YtacegnomecagdaaFits6
namespace Go.Proofs.Ytacegnomecagdaa
set_option linter.unusedVariables false
set_option linter.unusedSimpArgs false
open Go.RowKit

theorem opS_34 : opS 34 = ⟨#[98, 114]⟩ := rfl
theorem opP_34 : opP 34 = 5 := rfl
theorem opW_34 : opW 34 = 1 := rfl

set_option maxHeartbeats 1000000 in
theorem wakes6_any (w : World) :
    Calls Try.prog 8 #[] w fun e w' => e = .returned (.bool true) ∧ Below w.heap.size w w' := by
  have HO := of_in 34 (by omega) (by omega) w
  rw [opS_34, opP_34, opW_34] at HO
  have HFt : Hid (∀ W, Calls Try.prog 13 #[.agg #[.int .i64 34, .int .i64 (-1), .int .i64 0, .int .i64 0, .int .i64 0, .bool false]] W fun e w' => e = .returned (.int .i64 17) ∧ Below W.heap.size W w') := fun W =>
    fits_any 34 (-1) 0 0 0 false W
  go_enter Try.func8, Try.ntmps8
  go_wp2_with fail
  refine Calls.mono HO ?_
  rintro e w1 ⟨rfl, hb⟩
  have hbx : Below w1.heap.size w1 (w1.alloc (.cells #[.string ⟨#[98, 114]⟩, .int .i64 5, .int .i64 1] 24)) := (Below.refl _ _).alloc (Nat.le_refl _) _
  have hB := hb.trans (hbx.mono hb.size)
  clear hb hbx HO
  go_wp2_with fail
  refine (HFt.out _).mono ?_
  rintro e w2 ⟨rfl, hb⟩
  have hB2 := hB.trans (hb.mono hB.size)
  clear hb hB HFt
  go_wp2_with (go_at_call 15; refine (many_any _).mono ?_; rintro e wz ⟨rfl, hz⟩; subst wz)
  go_ret
  exact ⟨rfl, hB2⟩

end Go.Proofs.Ytacegnomecagdaa
