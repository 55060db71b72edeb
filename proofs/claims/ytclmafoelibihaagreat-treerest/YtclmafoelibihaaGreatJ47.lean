/- Texts joined: RefMethod10. -/
import Derived.Test.YtclmafoelibihaaGreatJ46
/- Whether a method is formed: the references'. -/
namespace Go.Proofs.YtclmafoelibihaaGreat
set_option linter.unusedVariables false
set_option linter.unusedSimpArgs false
open Go.RowKit
attribute [local go_sem ↓] Go.wp_at_zero Go.wp_at_succ

/-- But for its owner. -/
def rmB (n nf nm : Nat) (x : MD) : Bool := fineB x.nm.data.toList && witB x.fl 31 && witB x.mx 12 && decide (x.ps.length ≤ 6) && decide (x.ls.length ≤ 12) && mB 3 n x.rt && (x.ps.all (mB 2 n) && (x.ls.all (mB 2 n) && cdB n nf nm x))
theorem all_mB (p n : Nat) (l : List Ty) : l.all (mB p n) = (l.all (mayT p) && l.all (ownB n)) := by
  induction l with
  | nil => rfl
  | cons t r ih => rw [List.all_cons, List.all_cons, List.all_cons, ih]; unfold mB; cases mayT p t <;> cases ownB n t <;> simp
theorem rm_eq (n nf nm : Nat) (x : MD) : mdB n nf nm x = (numB x.ow n && rmB n nf nm x) := by
  have h1 : decide (sigE x.ps x.rt = 0) = (decide (x.ps.length ≤ 6) && (mayT 3 x.rt && x.ps.all (mayT 2))) := by
    unfold sigE
    by_cases h : 6 < x.ps.length
    · rw [if_pos h]; simp; omega
    · rw [if_neg h, decide_eq_true (show x.ps.length ≤ 6 by omega)]
      cases mayT 3 x.rt <;> cases x.ps.all (mayT 2) <;> simp
  have h2 : decide (locE x.ls = 0) = (decide (x.ls.length ≤ 12) && x.ls.all (mayT 2)) := by
    unfold locE
    by_cases h : 12 < x.ls.length
    · rw [if_pos h]; simp; omega
    · rw [if_neg h, decide_eq_true (show x.ls.length ≤ 12 by omega)]
      cases x.ls.all (mayT 2) <;> simp
  unfold mdB rmB cdB
  rw [h1, h2, all_mB, all_mB]
  unfold mB
  generalize fineB x.nm.data.toList = a1
  generalize numB x.ow n = a2
  generalize witB x.fl 31 = a3
  generalize witB x.mx 12 = a4
  generalize decide (x.ps.length ≤ 6) = a5
  generalize mayT 3 x.rt = a6
  generalize x.ps.all (mayT 2) = a7
  generalize ownB n x.rt = a8
  generalize x.ps.all (ownB n) = a9
  generalize decide (x.ls.length ≤ 12) = b1
  generalize x.ls.all (mayT 2) = b2
  generalize x.ls.all (ownB n) = b3
  generalize (decide (x.co.length ≤ 160) && x.co.all (insB n nf nm x.co.length)) = b4
  generalize (rgtB x.co.length x.cl && x.cl.all (catB n)) = b5
  cases a1 <;> cases a2 <;> cases a3 <;> cases a4 <;> cases a5 <;> cases a6 <;> cases a7 <;> cases a8 <;> cases a9 <;> simp [Bool.and_assoc, Bool.and_comm, Bool.and_left_comm]

set_option maxHeartbeats 8000000 in
set_option maxRecDepth 100000 in
theorem refFormedMethod_any (g : Img) (x : MD) {w : World} (hx : x.ok w) (hnm : x.nm.size ≤ maxLen) (hm1 : g.ts.length ≤ maxLen) (hm2 : g.fs.length ≤ maxLen) (hm3 : g.ms.length ≤ maxLen) :
    Calls Tryz.prog 60 #[mdV x, imV g] w fun e w' => e = .returned (.bool (rmB g.ts.length g.fs.length g.ms.length x)) ∧ Below w.heap.size w w' := by
  obtain ⟨w0, hw0⟩ : ∃ W, W = (w.alloc (.cells (mdA x) 48)).alloc (.cells (imA g) 26) := ⟨_, rfl⟩
  have HW0 : Hid (w0 = _) := hw0
  obtain ⟨hb0, hat⟩ := two_boxes hw0
  have HB0 : Hid (Below w.heap.size w w0) := hb0
  have HAT : Hid (∀ W, Below w0.heap.size w0 W → At W w.heap.size (mdA x) 48 ∧ At W (w.heap.size + 1) (imA g) 26) := hat
  have HXp : Hid (∀ W, Below w0.heap.size w0 W → Es tyE W (.slice x.pa x.ps.length x.pc) x.ps) := fun W hW => hx.ps.later (bstep hb0 hW)
  have HXl : Hid (∀ W, Below w0.heap.size w0 W → Es tyE W (.slice x.la x.ls.length x.lc) x.ls) := fun W hW => hx.ls.later (bstep hb0 hW)
  have HCd : Hid (∀ W, Below w0.heap.size w0 W → Calls Tryz.prog 109 #[.agg (mdA x), .agg (imA g)] W fun e w' => e = .returned (.bool (cdB g.ts.length g.fs.length g.ms.length x)) ∧ Below W.heap.size W w') := fun W hW => refFormedCode_any g x (hx.later (bstep hb0 hW)) hm1 hm2 hm3
  have hlp := hx.ps.len
  have hll := hx.ls.len
  unfold maxLen at hlp hll hm1 hm2 hm3
  obtain ⟨hA1, hA2⟩ := hat w0 (Below.refl _ _)
  have c1 := hA1.cell
  have c2 := hA2.cell
  have HF : Hid (rmB g.ts.length g.fs.length g.ms.length x = (fineB x.nm.data.toList && witB x.fl 31 && witB x.mx 12 && decide (x.ps.length ≤ 6) && decide (x.ls.length ≤ 12) && mB 3 g.ts.length x.rt && (x.ps.all (mB 2 g.ts.length) && (x.ls.all (mB 2 g.ts.length) && cdB g.ts.length g.fs.length g.ms.length x)))) := rfl
  have HFn : Hid (Calls Tryz.prog 58 #[.string x.nm] w0 fun e w' => e = .returned (.bool (fineB x.nm.data.toList)) ∧ w' = w0) := refFine_any x.nm hnm w0
  have HMr : Hid (Calls Tryz.prog 59 #[.agg #[.int .i64 x.rt.1, .int .i64 x.rt.2.1, .int .i64 x.rt.2.2.1, .bool x.rt.2.2.2], .int .i64 3, .int .i64 g.ts.length] w0 fun e w' => e = .returned (.bool (mB 3 g.ts.length x.rt)) ∧ Below w0.heap.size w0 w') := refMay_any (p := 3) (.inr (.inr rfl)) x.rt g.ts.length w0
  unfold mdA at c1 HW0 HCd
  unfold imA at c2 HW0 HCd
  clear hw0 hb0 hat hA1 hA2 hx hnm
  unfold mdV imV
  go_enter Tryz.func60, Tryz.ntmps60
  go_wp2_with (rw [← HW0.out])
  refine Calls.mono HFn.out ?_
  rintro e wz ⟨rfl, hz⟩
  subst wz
  cases hfi : fineB x.nm.data.toList with
  | false =>
    go_wp2_with fail
    go_ret
    exact ⟨ret_bool (by rw [HF.out, hfi]; simp), HB0.out⟩
  | true =>
  by_cases h1 : x.fl < 0
  · have hq : witB x.fl 31 = false := by unfold witB; simp; omega
    go_wp2_with fail
    go_ret
    exact ⟨ret_bool (by rw [HF.out, hq]; simp), HB0.out⟩
  by_cases h2 : 31 < x.fl
  · have hq : witB x.fl 31 = false := by unfold witB; simp; omega
    go_wp2_with fail
    go_ret
    exact ⟨ret_bool (by rw [HF.out, hq]; simp), HB0.out⟩
  have hw1 : witB x.fl 31 = true := by unfold witB; simp; omega
  by_cases h3 : x.mx < 0
  · have hq : witB x.mx 12 = false := by unfold witB; simp; omega
    go_wp2_with fail
    go_ret
    exact ⟨ret_bool (by rw [HF.out, hq]; simp), HB0.out⟩
  by_cases h4 : 12 < x.mx
  · have hq : witB x.mx 12 = false := by unfold witB; simp; omega
    go_wp2_with fail
    go_ret
    exact ⟨ret_bool (by rw [HF.out, hq]; simp), HB0.out⟩
  have hw2 : witB x.mx 12 = true := by unfold witB; simp; omega
  by_cases h5 : 6 < x.ps.length
  · have h5' : (6 : Int) < (x.ps.length : Int) := by omega
    have hq : decide (x.ps.length ≤ 6) = false := by simp; omega
    go_wp2_with fail
    go_ret
    exact ⟨ret_bool (by rw [HF.out, hq]; simp), HB0.out⟩
  have h5' : ¬ (6 : Int) < (x.ps.length : Int) := by omega
  by_cases h6 : 12 < x.ls.length
  · have h6' : (12 : Int) < (x.ls.length : Int) := by omega
    have hq : decide (x.ls.length ≤ 12) = false := by simp; omega
    go_wp2_with fail
    go_ret
    exact ⟨ret_bool (by rw [HF.out, hq]; simp), HB0.out⟩
  have h6' : ¬ (12 : Int) < (x.ls.length : Int) := by omega
  have HG : Hid (rmB g.ts.length g.fs.length g.ms.length x = (mB 3 g.ts.length x.rt && (x.ps.all (mB 2 g.ts.length) && (x.ls.all (mB 2 g.ts.length) && cdB g.ts.length g.fs.length g.ms.length x)))) := by
    show _ = _
    rw [HF.out, hfi, hw1, hw2, decide_eq_true (show x.ps.length ≤ 6 by omega), decide_eq_true (show x.ls.length ≤ 12 by omega)]; simp
  clear hfi hw1 hw2 HF
  go_wp2_with fail
  refine Calls.mono HMr.out ?_
  rintro e w1 ⟨rfl, hb1⟩
  have HB1 : Hid (Below w0.heap.size w0 w1) := hb1
  clear c1 c2 HMr hb1
  obtain ⟨hA1, hA2⟩ := HAT.out w1 HB1.out
  have c1 := hA1.cell
  have c2 := hA2.cell
  unfold mdA at c1
  unfold imA at c2
  clear hA1 hA2
  cases hmr : mB 3 g.ts.length x.rt with
  | false =>
    go_wp2_with fail
    go_ret
    exact ⟨ret_bool (by rw [HG.out, hmr]; rfl), bstep HB0.out HB1.out⟩
  | true =>
  have HG1 : Hid (rmB g.ts.length g.fs.length g.ms.length x = (x.ps.all (mB 2 g.ts.length) && (x.ls.all (mB 2 g.ts.length) && cdB g.ts.length g.fs.length g.ms.length x))) := by show _ = _; rw [HG.out, hmr]; rfl
  clear hmr HG
  go_wp2_with fail
  clear c1 c2
  go_loopw [6] (fun z wr => ∃ q : Nat, q ≤ x.ps.length ∧ z = .int .i64 q ∧ Below w0.heap.size w0 wr ∧ Hid ((x.ps.take q).all (mB 2 g.ts.length) = true)) (fun z _ => x.ps.length - (intOf z).toNat)
  case atStart => exact ⟨0, Nat.zero_le _, rfl, HB1.out, by show _ = _; simp⟩
  case round =>
    obtain ⟨q, hq, rfl, hB, HA⟩ := hrel
    have HBr : Hid (Below w0.heap.size w0 wr) := hB
    obtain ⟨hA1, hA2⟩ := HAT.out wr hB
    have c1 := hA1.cell
    have c2 := hA2.cell
    unfold mdA at c1
    unfold imA at c2
    clear hA1 hA2
    by_cases hql : q < x.ps.length
    · obtain ⟨b, off, hfa, hb, h6x, h7, hc⟩ := (HXp.out wr hB).at hql
      obtain ⟨k0, k1, k2, k3⟩ := (show El tyE wr b (off + q * 4) x.ps[q] from hc q hql).cells_Y
      have HY : Hid (mB 2 g.ts.length x.ps[q] = true → (x.ps.take (q + 1)).all (mB 2 g.ts.length) = true) := fun h => all_step hql HA.out h
      have HN : Hid (mB 2 g.ts.length x.ps[q] = false → rmB g.ts.length g.fs.length g.ms.length x = false) := fun h => by rw [HG1.out, all_no hql h]; rfl
      have HMy : Hid (Calls Tryz.prog 59 #[.agg #[.int .i64 x.ps[q].1, .int .i64 x.ps[q].2.1, .int .i64 x.ps[q].2.2.1, .bool x.ps[q].2.2.2], .int .i64 2, .int .i64 g.ts.length] wr fun e w' => e = .returned (.bool (mB 2 g.ts.length x.ps[q])) ∧ Below wr.heap.size wr w') := refMay_any (p := 2) (.inr (.inl rfl)) x.ps[q] g.ts.length wr
      generalize x.ps[q] = y at *
      unfold maxLen at h7
      rw [hfa] at c1
      clear hfa hc hB
      go_wp2_with fail
      refine Calls.mono HMy.out ?_
      rintro e w2 ⟨rfl, hb2⟩
      have HB2 : Hid (Below w0.heap.size w0 w2) := bstep HBr.out hb2
      clear c1 c2 k0 k1 k2 k3 HMy hb2
      cases hm : mB 2 g.ts.length y with
      | false =>
        have HN2 : Hid _ := HN.out hm
        go_wp2_with fail
        go_ret
        exact ⟨ret_bool HN2.out.symm, bstep HB0.out HB2.out⟩
      | true =>
        have HY2 : Hid _ := HY.out hm
        clear HY HN
        go_wp2_with fail
        go_roundw
        case rel => exact ⟨q + 1, by omega, by go_num, HB2.out, HY2.out⟩
        case measure => simp [intOf]; omega
    · have HG2 : Hid (rmB g.ts.length g.fs.length g.ms.length x = (x.ls.all (mB 2 g.ts.length) && cdB g.ts.length g.fs.length g.ms.length x)) := by show _ = _; rw [HG1.out, all_done hql HA.out]; rfl
      clear HA hB
      go_wp2_with fail
      clear c1 c2
      go_loopw [7] (fun z wr2 => ∃ q : Nat, q ≤ x.ls.length ∧ z = .int .i64 q ∧ Below w0.heap.size w0 wr2 ∧ Hid ((x.ls.take q).all (mB 2 g.ts.length) = true)) (fun z _ => x.ls.length - (intOf z).toNat)
      case atStart => exact ⟨0, Nat.zero_le _, rfl, HBr.out, by show _ = _; simp⟩
      case round =>
        obtain ⟨q, hq, rfl, hB, HA⟩ := hrel
        have HBs : Hid (Below w0.heap.size w0 wr) := hB
        obtain ⟨hA1, hA2⟩ := HAT.out wr hB
        have c1 := hA1.cell
        have c2 := hA2.cell
        unfold mdA at c1
        unfold imA at c2
        clear hA1 hA2
        by_cases hql2 : q < x.ls.length
        · obtain ⟨b, off, hfa, hb, h6x, h7, hc⟩ := (HXl.out wr hB).at hql2
          obtain ⟨k0, k1, k2, k3⟩ := (show El tyE wr b (off + q * 4) x.ls[q] from hc q hql2).cells_Y
          have HY : Hid (mB 2 g.ts.length x.ls[q] = true → (x.ls.take (q + 1)).all (mB 2 g.ts.length) = true) := fun h => all_step hql2 HA.out h
          have HN : Hid (mB 2 g.ts.length x.ls[q] = false → rmB g.ts.length g.fs.length g.ms.length x = false) := fun h => by rw [HG2.out, all_no hql2 h]; rfl
          have HMy : Hid (Calls Tryz.prog 59 #[.agg #[.int .i64 x.ls[q].1, .int .i64 x.ls[q].2.1, .int .i64 x.ls[q].2.2.1, .bool x.ls[q].2.2.2], .int .i64 2, .int .i64 g.ts.length] wr fun e w' => e = .returned (.bool (mB 2 g.ts.length x.ls[q])) ∧ Below wr.heap.size wr w') := refMay_any (p := 2) (.inr (.inl rfl)) x.ls[q] g.ts.length wr
          generalize x.ls[q] = y at *
          unfold maxLen at h7
          rw [hfa] at c1
          clear hfa hc hB
          go_wp2_with fail
          refine Calls.mono HMy.out ?_
          rintro e w2 ⟨rfl, hb2⟩
          have HB2 : Hid (Below w0.heap.size w0 w2) := bstep HBs.out hb2
          clear c1 c2 k0 k1 k2 k3 HMy hb2
          cases hm : mB 2 g.ts.length y with
          | false =>
            have HN2 : Hid _ := HN.out hm
            go_wp2_with fail
            go_ret
            exact ⟨ret_bool HN2.out.symm, bstep HB0.out HB2.out⟩
          | true =>
            have HY2 : Hid _ := HY.out hm
            clear HY HN
            go_wp2_with fail
            go_roundw
            case rel => exact ⟨q + 1, by omega, by go_num, HB2.out, HY2.out⟩
            case measure => simp [intOf]; omega
        · have HG3 : Hid (rmB g.ts.length g.fs.length g.ms.length x = cdB g.ts.length g.fs.length g.ms.length x) := by show _ = _; rw [HG2.out, all_done hql2 HA.out]; rfl
          have HC2 := HCd.out wr hB
          clear HA hB
          go_wp2_with fail
          refine Calls.mono HC2 ?_
          rintro e w2 ⟨rfl, hb2⟩
          have HB2 : Hid (Below w0.heap.size w0 w2) := bstep HBs.out hb2
          clear hb2 c1 c2 HC2
          go_wp2
          go_ret
          exact ⟨ret_bool HG3.out.symm, bstep HB0.out HB2.out⟩

end Go.Proofs.YtclmafoelibihaaGreat
