
/- The walk of RegionsCheck. -/
import Derived.Test.YtbfcdcdeohikpaaOpen9
namespace Go.Proofs.Ytbfcdcdeohikpaa
set_option linter.unusedVariables false
set_option linter.unusedSimpArgs false
open Go.RowKit
attribute [local go_sem ↓] Go.wp_at_zero Go.wp_at_succ

set_option maxHeartbeats 4000000 in
theorem regionsCheck_walk (n : Int) (v : Value) (l : List Cl) (w : World) (wf : (Lit.int .i64 n).wf = true) (h : Es clE9 w v l) :
    Calls Try.prog 3 #[.int .i64 n, v] w fun e w' => e = .returned (.bool true) ∧ Below w.heap.size w w' := by
  have HE : Hid (∀ W, Below w.heap.size w W → Es clE9 W v l) := fun W hW => h.later hW
  obtain ⟨va, vc, hv, _, _⟩ := h.shape
  have hll := h.len
  unfold maxLen at hll
  clear h
  subst hv
  go_enter Try.func3, Try.ntmps3
  go_wp2_with fail
  refine (wakes9_any w).mono ?_
  rintro e w1 ⟨rfl, hb1⟩
  have HB1 : Hid (Below w.heap.size w w1) := hb1
  clear hb1
  by_cases h50 : 50 < l.length
  · have h50' : (50 : Int) < (l.length : Int) := by omega
    go_wp2_with fail
    go_ret
    exact ⟨rfl, HB1.out⟩
  · have h50' : ¬ (50 : Int) < (l.length : Int) := by omega
    have HCo : Hid (Calls Try.prog 10 #[.slice va l.length vc] w1 fun e w' => ∃ v', e = .returned v' ∧ Es clE9 w' v' l ∧ Below w1.heap.size w1 w') := copied9_any (HE.out w1 HB1.out) (by omega)
    go_wp2_with fail
    refine Calls.mono HCo.out ?_
    rintro e w2 ⟨v2, rfl, he2, hb2⟩
    have HB2 : Hid (Below w.heap.size w w2) := bstep HB1.out hb2
    have HCk : Hid (Calls Try.prog 9 #[.int .i64 n, v2] w2 fun e w' => ∃ i x, e = .returned (.tuple #[.int .i64 i, .int .i64 x]) ∧ CheckR n l i x ∧ Below w2.heap.size w2 w') := check_any n he2
    clear he2 hb2 HCo
    go_wp2_with fail
    refine Calls.mono HCk.out ?_
    rintro e w3 ⟨i, x, rfl, hc, hb3⟩
    have HCh : Hid (CheckR n l i x) := hc
    have HB3 : Hid (Below w.heap.size w w3) := bstep HB2.out hb3
    have HRk : Hid (Calls Try.prog 11 #[.int .i64 n, .slice va l.length vc] w3 fun e w' => ∃ j y, e = .returned (.tuple #[.int .i64 j, .int .i64 y]) ∧ RCheckR n l j y ∧ Below w3.heap.size w3 w') := rcheck_any n (HE.out w3 HB3.out)
    clear hc hb3 HCk
    go_wp2_with fail
    refine Calls.mono HRk.out ?_
    rintro e w4 ⟨j, y, rfl, hr, hb4⟩
    obtain ⟨rfl, rfl⟩ := check_same HCh.out hr
    have HB4 : Hid (Below w.heap.size w w4) := bstep HB3.out hb4
    clear hr hb4 HRk HCh
    go_wp2_with fail
    go_ret
    exact ⟨rfl, HB4.out⟩

end Go.Proofs.Ytbfcdcdeohikpaa
