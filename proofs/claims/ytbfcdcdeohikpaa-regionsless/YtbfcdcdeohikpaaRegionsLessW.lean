
/- The walk of RegionsLess. -/
import Derived.Test.YtbfcdcdeohikpaaOpen9
namespace Go.Proofs.Ytbfcdcdeohikpaa
set_option linter.unusedVariables false
set_option linter.unusedSimpArgs false
open Go.RowKit
attribute [local go_sem ↓] Go.wp_at_zero Go.wp_at_succ

theorem rng_more {n : Int} {c : Cl} (h : rngB n c = true) : rngB (n + 1) c = true := by
  rw [rng_iff] at h ⊢
  obtain ⟨a1, a2, a3, a4, a5, a6, a7, a8, a9, a10⟩ := h
  exact ⟨a1, a2, a3, a4, by omega, a6, a7, by omega, fun hk => ⟨(a9 hk).1, (a9 hk).2.1, by have := (a9 hk).2.2; omega⟩, a10⟩
/-- The first ones of right clauses are right, in a longer code, too. -/
theorem RightL.less {n : Int} {l : List Cl} (h : RightL n l) (j : Nat) : RightL (n + 1) (l.take j) := by
  refine ⟨by rw [List.length_take]; have := h.1; omega, fun k hk => ?_⟩
  have hk2 : k < j ∧ k < l.length := by rw [List.length_take] at hk; omega
  have h0 := h.2 k hk2.2
  rw [clAt_eq n l k hk2.2] at h0
  obtain ⟨h1, h2, h3⟩ := cl_ok h0
  rw [clAt_eq (n + 1) (l.take j) k hk]
  have hg : (l.take j)[k] = l[k] := List.getElem_take
  have ht : (l.take j).take k = l.take k := by rw [List.take_take, Nat.min_eq_left (by omega)]
  rw [hg, ht]
  unfold clE
  rw [if_pos (rng_more h1), if_neg (by rw [h2]; decide), if_neg]
  rw [List.any_eq_true]
  rintro ⟨x, hx, hb⟩
  rw [h3 x hx] at hb
  exact absurd hb (by decide)

set_option maxHeartbeats 4000000 in
theorem regionsLess_walk (n : Int) (v : Value) (l : List Cl) (k : Int) (w : World) (wf : (Lit.int .i64 n).wf = true) (h : Es clE9 w v l) (wk : (Lit.int .u8 k).wf = true) :
    Calls Try.prog 7 #[.int .i64 n, v, .int .u8 k] w fun e w' => e = .returned (.bool true) ∧ Below w.heap.size w w' := by
  have HE : Hid (∀ W, Below w.heap.size w W → Es clE9 W v l) := fun W hW => h.later hW
  obtain ⟨va, vc, hv, _, _⟩ := h.shape
  have hll := h.len
  unfold maxLen at hll
  clear h
  subst hv
  obtain ⟨hn1, hn2⟩ := bounds_i64 wf
  obtain ⟨hk0, hk1⟩ := bounds_u8 wk
  go_enter Try.func7, Try.ntmps7
  go_wp2_with fail
  refine (wakes9_any w).mono ?_
  rintro e w1 ⟨rfl, hb1⟩
  have HB1 : Hid (Below w.heap.size w w1) := hb1
  clear hb1
  by_cases h20 : 20 < l.length
  · have h20' : (20 : Int) < (l.length : Int) := by omega
    go_wp2_with fail
    go_ret
    exact ⟨rfl, HB1.out⟩
  · have h20' : ¬ (20 : Int) < (l.length : Int) := by omega
    by_cases hN : 100000 < n
    · go_wp2_with fail
      go_ret
      exact ⟨rfl, HB1.out⟩
    · have HRi : Hid (Calls Try.prog 26 #[.int .i64 n, .slice va l.length vc] w1 fun e w' => ∃ r : Bool, e = .returned (.bool r) ∧ (r = true ↔ RightL n l) ∧ Below w1.heap.size w1 w') := right_any n (HE.out w1 HB1.out)
      go_wp2_with fail
      refine Calls.mono HRi.out ?_
      rintro e w2 ⟨r, rfl, hr, hb2⟩
      have HR : Hid (r = true ↔ RightL n l) := hr
      have HB2 : Hid (Below w.heap.size w w2) := bstep HB1.out hb2
      clear hr hb2 HRi
      cases r with
      | false =>
        go_wp2_with fail
        go_ret
        exact ⟨rfl, HB2.out⟩
      | true =>
        obtain ⟨j, hj⟩ : ∃ j : Nat, (j : Int) = k % ((l.length : Int) + 1) := ⟨(k % ((l.length : Int) + 1)).toNat, by have := Int.emod_nonneg k (by omega : (l.length : Int) + 1 ≠ 0); omega⟩
        have hjl : j ≤ l.length := by have := Int.emod_lt_of_pos k (by omega : 0 < (l.length : Int) + 1); omega
        obtain ⟨hs', hes⟩ := slice_toE (P := Try.prog) (HE.out w2 HB2.out) j hjl 22 44 Try.underlying22 Try.sizeClause
        have hs : ∀ (W : World) (kk : IntKind), (Instr.slice 22 (.slice va l.length vc) none (some (.int kk (k % ((l.length : Int) + 1)))) none).run Try.prog W = .ok (.slice va j vc) W := fun W kk => by rw [← hj]; exact hs' W kk
        have htm : k.tmod ((l.length : Int) + 1) = k % ((l.length : Int) + 1) := Int.tmod_eq_emod_of_nonneg (by omega)
        have HCo : Hid (Calls Try.prog 10 #[.slice va j vc] w2 fun e w' => ∃ v', e = .returned v' ∧ Es clE9 w' v' (l.take j) ∧ Below w2.heap.size w2 w') := copied9_any hes (by rw [List.length_take]; omega)
        have HRt : Hid (RightL (n + 1) (l.take j)) := (HR.out.1 rfl).less j
        have hnz : ((l.length : Int) + 1 == 0) = false := by rw [beq_eq_false_iff_ne]; omega
        have HJ : Hid ((j : Int) = k % ((l.length : Int) + 1)) := hj
        clear hs' hes hj
        go_wp2_with fail
        refine Calls.mono HCo.out ?_
        rintro e w3 ⟨v3, rfl, he3, hb3⟩
        have HB3 : Hid (Below w.heap.size w w3) := bstep HB2.out hb3
        have HCk : Hid (Calls Try.prog 9 #[.int .i64 (n + 1), v3] w3 fun e w' => ∃ i, e = .returned (.tuple #[.int .i64 i, .int .i64 0]) ∧ Below w3.heap.size w3 w') := by
          refine (check_any (n + 1) he3).mono ?_
          rintro e w' ⟨i, x, rfl, hc, hB⟩
          obtain rfl := (check_right hc).2 HRt.out
          exact ⟨i, rfl, hB⟩
        clear he3 hb3 HCo
        go_wp2_with fail
        refine Calls.mono HCk.out ?_
        rintro e w4 ⟨i, rfl, hb4⟩
        have HB4 : Hid (Below w.heap.size w w4) := bstep HB3.out hb4
        clear hb4 HCk
        go_wp2_with fail
        go_ret
        exact ⟨rfl, HB4.out⟩

end Go.Proofs.Ytbfcdcdeohikpaa
