
/- OpsNamed: the walk. -/
import Derived.Test.YtacegnomecagdaaWakes6
import Derived.Test.YtacegnomecagdaaRefNamed6
namespace Go.Proofs.Ytacegnomecagdaa
set_option linter.unusedVariables false
set_option linter.unusedSimpArgs false
open Go.RowKit

set_option maxHeartbeats 1000000 in
theorem opsNamed_walk (s : ByteArray) (w : World) (hs : s.size ≤ 140737488351232) :
    Calls Try.prog 4 #[.string s] w fun e w' => e = .returned (.bool true) ∧ Below w.heap.size w w' := by
  clear hs
  go_enter Try.func4, Try.ntmps4
  go_wp2_with fail
  refine (wakes6_any _).mono ?_
  rintro e w1 ⟨rfl, hb1⟩
  go_wp2_with fail
  refine (named_any s _).mono ?_
  rintro e w2 ⟨rfl, hb⟩
  have hB := hb1.trans (hb.mono hb1.size)
  clear hb hb1
  go_wp2_with fail
  refine (refNamed_any s _).mono ?_
  rintro e wz ⟨rfl, hz⟩
  subst wz
  go_wp2_with fail
  go_ret
  exact ⟨ret_bool (by simp), hB⟩

end Go.Proofs.Ytacegnomecagdaa
