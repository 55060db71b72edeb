
/- Chains compared, of the references; the chain of no clauses. -/
import Derived.Test.YtbfcdcdeohikpaaRefChain9
namespace Go.Proofs.Ytbfcdcdeohikpaa
set_option linter.unusedVariables false
set_option linter.unusedSimpArgs false
open Go.RowKit
attribute [local go_sem ↓] Go.wp_at_zero Go.wp_at_succ

theorem refChain_none (n : Int) (a : Option Addr) (cap : Nat) (w : World) :
    Calls Try.prog 15 #[.slice a 0 cap, .int .i64 n] w fun e w' => e = .returned (.slice none 0 0) ∧ Below w.heap.size w w' := by
  have HB : Hid (Below w.heap.size w (w.alloc (.cells #[.int .i64 0, .int .i64 0] 46))) := made_below _ _ _
  go_enter Try.func15, Try.ntmps15
  go_wp2_with fail
  refine wp_loop_rounds 1 ?_; rw [rounds_succ]
  go_wp2_with fail
  refine wp_loop_rounds 1 ?_; rw [rounds_succ]
  go_wp2_with fail
  go_ret
  exact ⟨rfl, HB.out⟩

theorem refChain_any {v : Value} {l : List Cl} {w : World} {m : Int} (h : Es clE9 w v l) (hr : RightL m l) (hm : m ≤ 100000) (n : Int) :
    Calls Try.prog 15 #[v, .int .i64 n] w fun e w' => ∃ v', e = .returned v' ∧ OwnE spE w' w.heap.size 46 v' (chR l n) ∧ Below w.heap.size w w' := by
  by_cases hne : l = []
  · subst hne
    obtain ⟨a, c, rfl, _, _⟩ := h.shape
    refine (refChain_none n a c w).mono ?_
    rintro e w' ⟨rfl, hB⟩
    exact ⟨_, rfl, OwnE.nil _ _ _ _, hB⟩
  · obtain ⟨b, off, cap, rfl, h1, h2, hb, hc⟩ := h.parts hne
    exact refChain_some hb hc hr hm h1 h2

theorem ne_rg (W : World) (a b : Sp) : (binOp .neq 46 (.agg #[.int .i64 a.1, .int .i64 a.2]) (.agg #[.int .i64 b.1, .int .i64 b.2])).run Try.prog W = .ok (.bool (!decide (a = b))) W := by
  obtain ⟨a1, a2⟩ := a
  obtain ⟨b1, b2⟩ := b
  have : decide ((a1, a2) = (b1, b2)) = (a1 == b1 && a2 == b2) := by rw [Bool.eq_iff_iff]; simp
  rw [this]
  simp [go_sem]
  cases h1 : (a1 == b1) <;> cases h2 : (a2 == b2) <;> simp_all [go_sem]

theorem same_diff (a b : Option Addr) (na ca nb cb i k : Nat) (hna : na ≤ 1000) (hnb : nb ≤ 1000) (hi : i ≤ na) (hk : k ≤ nb) (hd : na - i ≠ nb - k) (w : World) :
    Calls Try.prog 40 #[.slice a na ca, .int .i64 (i : Int), .slice b nb cb, .int .i64 (k : Int)] w fun e w' => e = .returned (.bool false) ∧ w' = w := by
  have h : (((na : Int) - (i : Int)) == ((nb : Int) - (k : Int))) = false := by rw [beq_eq_false_iff_ne]; omega
  have h' : ¬ ((na : Int) - (i : Int)) = ((nb : Int) - (k : Int)) := by omega
  clear hd
  go_enter Try.func40, Try.ntmps40
  go_wp2
  go_ret
  exact ⟨rfl, rfl⟩
theorem same_end (a b : Option Addr) (na ca nb cb : Nat) (hna : na ≤ 1000) (hnb : nb ≤ 1000) (w : World) :
    Calls Try.prog 40 #[.slice a na ca, .int .i64 (na : Int), .slice b nb cb, .int .i64 (nb : Int)] w fun e w' => e = .returned (.bool true) ∧ w' = w := by
  go_enter Try.func40, Try.ntmps40
  go_wp2
  refine wp_loop_rounds 1 ?_; rw [rounds_succ]
  go_wp2
  go_ret
  exact ⟨rfl, rfl⟩

set_option maxHeartbeats 2000000 in
theorem same_some {ba oa ca bb ob cb i k : Nat} {la lb : List Sp} {w : World} (hba : ba < w.heap.size) (hbb : bb < w.heap.size) (ha : ∀ j (hj : j < la.length), El spE w ba (oa + j * 2) la[j]) (hb : ∀ j (hj : j < lb.length), El spE w bb (ob + j * 2) lb[j])
    (hna : la.length ≤ 1000) (hnb : lb.length ≤ 1000) (hi : i ≤ la.length) (hk : k ≤ lb.length) (hd : la.length - i = lb.length - k) :
    Calls Try.prog 40 #[.slice (some ⟨ba, oa, none⟩) la.length ca, .int .i64 (i : Int), .slice (some ⟨bb, ob, none⟩) lb.length cb, .int .i64 (k : Int)] w fun e w' => e = .returned (.bool (decide (la.drop i = lb.drop k))) ∧ Below w.heap.size w w' := by
  have HA : Hid (∀ j (hj : j < la.length), ∀ W, Below w.heap.size w W → Two9 W ba (oa + j * 2) la[j]) := fun j hj W hW => ((ha j hj).below hW hba).two
  have HB : Hid (∀ j (hj : j < lb.length), ∀ W, Below w.heap.size w W → Two9 W bb (ob + j * 2) lb[j]) := fun j hj W hW => ((hb j hj).below hW hbb).two
  have h : (((la.length : Int) - (i : Int)) == ((lb.length : Int) - (k : Int))) = true := by rw [beq_iff_eq]; omega
  have HD : Hid (la.length - i = lb.length - k) := hd
  clear ha hb hd
  go_enter Try.func40, Try.ntmps40
  go_wp2
  go_loopw [9] (fun z wr => ∃ q : Nat, i + q ≤ la.length ∧ z = .int .i64 (q : Int) ∧ Below w.heap.size w wr ∧ Hid ((la.drop i).take q = (lb.drop k).take q)) (fun z _ => la.length - (intOf z).toNat)
  case atStart => exact ⟨0, by omega, rfl, Below.refl _ _, by show _ = _; simp⟩
  case round =>
    obtain ⟨q, hq, rfl, hB, HZ⟩ := hrel
    have HBL : Hid (Below w.heap.size w wr) := hB
    by_cases hql : i + q < la.length
    · have hkq : k + q < lb.length := by have := HD.out; omega
      have n1 : (i : Int) + (q : Int) < (la.length : Int) := by omega
      have n2 : (k : Int) + (q : Int) < (lb.length : Int) := by omega
      have n3 : (0 : Int) ≤ (i : Int) + (q : Int) := by omega
      have n4 : (0 : Int) ≤ (k : Int) + (q : Int) := by omega
      have n5 : ((i : Int) + (q : Int)).toNat = i + q := by omega
      have n6 : ((k : Int) + (q : Int)).toNat = k + q := by omega
      have e1 : IntKind.i64.wrap ((i : Int) + (q : Int)) = (i : Int) + (q : Int) := by simp [IntKind.wrap, IntKind.bits, IntKind.signed]; omega
      have e2 : IntKind.i64.wrap ((k : Int) + (q : Int)) = (k : Int) + (q : Int) := by simp [IntKind.wrap, IntKind.bits, IntKind.signed]; omega
      obtain ⟨c0, c1⟩ := HA.out (i + q) hql wr hB
      obtain ⟨d0, d1⟩ := HB.out (k + q) hkq wr hB
      have t1 : (la.drop i).take (q + 1) = (la.drop i).take q ++ [la[i + q]] := by
        rw [List.take_succ_eq_append_getElem (by rw [List.length_drop]; omega), List.getElem_drop]
      have t2 : (lb.drop k).take (q + 1) = (lb.drop k).take q ++ [lb[k + q]] := by
        rw [List.take_succ_eq_append_getElem (by rw [List.length_drop]; omega), List.getElem_drop]
      have HY : Hid (la[i + q] = lb[k + q] → (la.drop i).take (q + 1) = (lb.drop k).take (q + 1)) := fun he => by rw [t1, t2, HZ.out, he]
      have HN : Hid (la[i + q] ≠ lb[k + q] → la.drop i ≠ lb.drop k) := fun hne he => by
        apply hne
        have h1 := congrArg (fun t => t.take (q + 1)) he
        simp only [t1, t2, HZ.out] at h1
        have := List.append_cancel_left h1
        simpa using this
      have hne0 := fun W => ne_rg W la[i + q] lb[k + q]
      clear t1 t2
      generalize la[i + q] = x at *
      generalize lb[k + q] = y at *
      clear hB
      by_cases hxy : x = y
      · have hne : ∀ W : World, (binOp .neq 46 (.agg #[.int .i64 x.1, .int .i64 x.2]) (.agg #[.int .i64 y.1, .int .i64 y.2])).run Try.prog W = .ok (.bool false) W := fun W => by rw [hne0, decide_eq_true hxy]; rfl
        have HS : Hid ((la.drop i).take (q + 1) = (lb.drop k).take (q + 1)) := HY.out hxy
        clear hne0 hxy
        go_wp2_with fail
        go_quiet (fail)
        go_wp2_with fail
        go_roundw
        case rel => exact ⟨q + 1, by omega, by go_num, bstep HBL.out (Below.drewN (Below.refl _ _) _), HS.out⟩
        case measure => simp [intOf]; omega
      · have hne : ∀ W : World, (binOp .neq 46 (.agg #[.int .i64 x.1, .int .i64 x.2]) (.agg #[.int .i64 y.1, .int .i64 y.2])).run Try.prog W = .ok (.bool true) W := fun W => by rw [hne0, decide_eq_false hxy]; rfl
        have HS : Hid (la.drop i ≠ lb.drop k) := HN.out hxy
        clear hne0 hxy
        go_wp2_with fail
        go_quiet (fail)
        go_wp2_with fail
        go_ret
        exact ⟨ret_bool (decide_eq_false HS.out).symm, bstep HBL.out (Below.drewN (Below.refl _ _) _)⟩
    · have n1 : ¬ (i : Int) + (q : Int) < (la.length : Int) := by omega
      have HS : Hid (la.drop i = lb.drop k) := by
        show _ = _
        have := HZ.out
        rw [List.take_of_length_le (by rw [List.length_drop]; omega), List.take_of_length_le (by rw [List.length_drop]; have := HD.out; omega)] at this
        exact this
      clear hB
      go_wp2
      go_ret
      exact ⟨ret_bool (decide_eq_true HS.out).symm, HBL.out⟩

theorem same9_any {va vb : Value} {la lb : List Sp} {w : World} (ha : Es spE w va la) (hb : Es spE w vb lb) (hna : la.length ≤ 1000) (hnb : lb.length ≤ 1000) (i k : Nat) (hi : i ≤ la.length) (hk : k ≤ lb.length) :
    Calls Try.prog 40 #[va, .int .i64 (i : Int), vb, .int .i64 (k : Int)] w fun e w' => e = .returned (.bool (decide (la.drop i = lb.drop k))) ∧ Below w.heap.size w w' := by
  by_cases hd : la.length - i = lb.length - k
  · by_cases he : la.length = i
    · obtain ⟨a, ca, rfl, _, _⟩ := ha.shape
      obtain ⟨b, cb, rfl, _, _⟩ := hb.shape
      have hk' : lb.length = k := by omega
      subst he hk'
      refine (same_end a b la.length ca lb.length cb hna hnb w).mono ?_
      rintro e w' ⟨rfl, rfl⟩
      exact ⟨by rw [List.drop_length, List.drop_length]; rfl, Below.refl _ _⟩
    · have ne1 : la ≠ [] := by intro e; subst e; simp at hi he; omega
      have ne2 : lb ≠ [] := by intro e; subst e; simp at hk hd; omega
      obtain ⟨ba, oa, ca, rfl, _, _, hba, hca⟩ := ha.parts ne1
      obtain ⟨bb, ob, cb, rfl, _, _, hbb, hcb⟩ := hb.parts ne2
      exact same_some hba hbb hca hcb hna hnb hi hk hd
  · obtain ⟨a, ca, rfl, _, _⟩ := ha.shape
    obtain ⟨b, cb, rfl, _, _⟩ := hb.shape
    refine (same_diff a b la.length ca lb.length cb i k hna hnb hi hk hd w).mono ?_
    rintro e w' ⟨rfl, rfl⟩
    refine ⟨ret_bool (decide_eq_false fun he => hd ?_).symm, Below.refl _ _⟩
    have := congrArg List.length he
    rwa [List.length_drop, List.length_drop] at this

theorem Same9_any {va vb : Value} {la lb : List Sp} {w : World} (ha : Es spE w va la) (hb : Es spE w vb lb) (hna : la.length ≤ 1000) (hnb : lb.length ≤ 1000) :
    Calls Try.prog 14 #[va, vb] w fun e w' => e = .returned (.bool (decide (la = lb))) ∧ Below w.heap.size w w' := by
  have HS : Hid (Calls Try.prog 40 #[va, .int .i64 0, vb, .int .i64 0] w fun e w' => e = .returned (.bool (decide (la = lb))) ∧ Below w.heap.size w w') := same9_any ha hb hna hnb 0 0 (Nat.zero_le _) (Nat.zero_le _)
  clear ha hb
  go_enter Try.func14, Try.ntmps14
  go_wp2_with fail
  refine Calls.mono HS.out ?_
  rintro e w1 ⟨rfl, hb1⟩
  go_wp2
  go_ret
  exact ⟨rfl, hb1⟩

end Go.Proofs.Ytbfcdcdeohikpaa
