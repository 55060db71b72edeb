
/- The statements' examples hold. -/
import Derived.Test.YtcjoidhbhffcgaaPutSig5
import Derived.Test.YtcjoidhbhffcgaaConv
namespace Go.Proofs.Ytcjoidhbhffcgaa
set_option linter.unusedVariables false
set_option linter.unusedSimpArgs false
open Go.RowKit

theorem one_ty (w : World) (t : Ty) (g : Nat) (hg : g = w.heap.size) : Ts (w.alloc (.cells #[.int .i64 t.1, .int .i64 t.2.1, .int .i64 t.2.2.1, .bool t.2.2.2] 23)) (.slice (some ⟨g, 0, none⟩) 1 1) [t] := by
  subst hg
  refine ⟨_, 1, rfl, Nat.le_refl _, by unfold maxLen; omega, fun _ => ⟨w.heap.size, 0, rfl, by simp, fun i hi => ?_⟩⟩
  have : i = 0 := by simpa using hi
  subst this
  have h := (At.made w #[.int .i64 t.1, .int .i64 t.2.1, .int .i64 t.2.2.1, .bool t.2.2.2] 23).cell
  refine ⟨h 0, h 1, h 2, h 3⟩

set_option maxHeartbeats 1000000 in
theorem wakes5_any (w : World) :
    Calls Try.prog 8 #[] w fun e w' => e = .returned (.bool true) ∧ Below w.heap.size w w' := by
  have HE1 : Hid (encB 2 0 1 false = [29, 8]) := by show _ = _; decide
  have HE2 : Hid (sigL false [(2, 0, 0, false)] (1, 0, 0, false) = [0, 1, 1, 8] ∧ sigE [(2, 0, 0, false)] (1, 0, 0, false) = 0) := ⟨by decide, by decide⟩
  go_enter Try.func8, Try.ntmps8
  go_wp2_with fail
  refine (put_yes 2 0 1 false w (by decide)).mono ?_
  rintro e w1 ⟨v1, rfl, h1, hb1⟩
  rw [HE1.out] at h1
  have H1 : Hid (Bs w1 v1 [29, 8]) := h1.bs
  clear h1
  have HPS : Hid (Calls Try.prog 26 #[.agg #[.bool false, .slice (some ⟨w1.heap.size, 0, none⟩) 1 1, .int .i64 1, .int .i64 0, .int .i64 0, .bool false]] (w1.alloc (.cells #[.int .i64 2, .int .i64 0, .int .i64 0, .bool false] 23)) fun e w' => ∃ v', e = .returned (.tuple #[v', .int .i64 0]) ∧ Bs w' v' [0, 1, 1, 8] ∧ Below w1.heap.size w1 w') := by
    refine Calls.mono (putSig_any (one_ty w1 (2, 0, 0, false) _ rfl) false 1 0 0 false) ?_
    rintro e w' ⟨g1, g2, g3⟩
    obtain ⟨v', rfl, h⟩ := g1 HE2.out.2
    rw [HE2.out.1] at h
    exact ⟨v', rfl, h.bs, below_box g3⟩
  go_wp2_with fail
  refine Calls.mono HPS.out ?_
  rintro e w2 ⟨v2, rfl, h2, hb2⟩
  have hcv1 : (convert 26 9 v1).run Try.prog w2 = .ok (.string ⟨#[29, 8]⟩) w2 := convert_bs (H1.out.later hb2)
  have hcv2 : (convert 26 9 v2).run Try.prog w2 = .ok (.string ⟨#[0, 1, 1, 8]⟩) w2 := convert_bs h2
  have HB : Hid (Below w.heap.size w w2) := hb1.trans (hb2.mono hb1.size)
  clear h2 hb1 hb2 HPS
  go_wp2
  go_ret
  exact ⟨rfl, HB.out⟩

end Go.Proofs.Ytcjoidhbhffcgaa
