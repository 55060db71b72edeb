/- OctetNil: the walk. -/
import Derived.Test.YthghgagkkjnmhaaRows
import Derived.Test.YthghgagkkjnmhaaWakes
namespace Go.Proofs.Ythghgagkkjnmhaa
set_option linter.unusedVariables false
set_option linter.unusedSimpArgs false
open Go.RowKit

set_option maxRecDepth 100000 in
set_option maxHeartbeats 1000000 in
theorem octetNil_walk (a0 : Int) (w : World) (_w0 : (Lit.int .i64 a0).wf = true) :
    Calls Try.prog 7 #[.int .i64 a0] w fun e w' => e = .returned (.bool true) ∧ Below w.heap.size w w' := by
  go_enter Try.func7, Try.ntmps7
  go_wp2_with (first
    | (go_at_call 18; refine (num_nil _ _).mono ?_; rintro e wz ⟨rfl, hz⟩; subst wz)
    | (go_at_call 23; refine (packed_nil _).mono ?_; rintro e wz ⟨rfl, hz⟩; subst wz)
    | (go_at_call 25; refine (take_nil _ _).mono ?_; rintro e wz ⟨rfl, hz⟩; subst wz)
    | (go_at_call 17; refine (skip_nil _ _).mono ?_; rintro e wz ⟨rfl, hz⟩; subst wz)
    | (go_at_call 24; refine (done_nil _).mono ?_; rintro e wz ⟨rfl, hz⟩; subst wz)
    | (go_at_call 11; refine (at_nil _).mono ?_; rintro e wz ⟨rfl, hz⟩; subst wz)
    | (go_at_call 12; refine (left_nil _).mono ?_; rintro e wz ⟨rfl, hz⟩; subst wz)
    | (go_at_call 8; refine (wakes_any _).mono ?_; rintro e w1 ⟨rfl, hb⟩))
  go_ret
  exact ⟨rfl, by assumption⟩

end Go.Proofs.Ythghgagkkjnmhaa
