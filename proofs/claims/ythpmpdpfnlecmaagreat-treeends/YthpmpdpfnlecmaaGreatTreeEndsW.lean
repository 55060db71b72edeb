
/- The walk of TreeEnds. -/
import Derived.Test.YthpmpdpfnlecmaaGreatK09
import Derived.Test.YthpmpdpfnlecmaaGreatK23
import Derived.Test.YthpmpdpfnlecmaaGreatK35
import Derived.Test.YthpmpdpfnlecmaaGreatK14
import Derived.Deep.QuietTactic
import Derived.BigQuiet
namespace Go.Proofs.YthpmpdpfnlecmaaGreat
set_option linter.unusedVariables false
set_option linter.unusedSimpArgs false
open Go.RowKit
attribute [local go_sem ↓] Go.wp_at_zero Go.wp_at_succ

set_option maxHeartbeats 4000000 in
theorem treeEnds_walk (v : Value) (g : Img) (a : Int) (w : World) (h : ImV w v g) (ha : (Lit.int .u8 a).wf = true) :
    Calls Tryz.prog 4 #[v, .int .u8 a] w fun e w' => e = .returned (.bool true) ∧ Below w.heap.size w w' := by
  obtain ⟨rfl, hg, hnm⟩ := h
  have hau := Go.bounds_u8 ha
  obtain ⟨w0, hw0⟩ : ∃ W, W = w.alloc (.cells (imC g) 26) := ⟨_, rfl⟩
  have HW0 : Hid (w0 = _) := hw0
  obtain ⟨hb0, hgb⟩ := GB.made hg hw0
  have HB0 : Hid (Below w.heap.size w w0) := hb0
  have HG : Hid (GB w0 w.heap.size g) := hgb
  have HC4 : Hid (∀ W, Below w0.heap.size w0 W → W.cell? ⟨w.heap.size, 0, none⟩ = some (.slice g.ta g.ts.length g.tc) ∧ W.cell? ⟨w.heap.size, 1, none⟩ = some (.slice g.fa g.fs.length g.fc) ∧ W.cell? ⟨w.heap.size, 2, none⟩ = some (.slice g.ma g.ms.length g.mc) ∧ W.cell? ⟨w.heap.size, 3, none⟩ = some (.int .i64 g.en)) := fun W hW => (hgb.later hW).cells
  have HLo : Hid (∀ W, Below w0.heap.size w0 W → Calls Tryz.prog 10 #[.agg (imC g)] W fun e w' => e = .returned (.bool (longI g)) ∧ Below W.heap.size W w') := fun W hW => longI_any (hgb.im.later hW)
  have HWe : Hid (∀ W, Below w0.heap.size w0 W → Calls Tryz.prog 11 #[.agg (imC g)] W fun e w' => e = .returned (.bool (welB g)) ∧ Below W.heap.size W w') := fun W hW => refWell_any (hgb.im.later hW) hnm
  have htl := hg.ts.len
  unfold maxLen at htl
  unfold imC at HW0 HLo HWe
  clear hw0 hb0 hgb hg hnm ha
  unfold imV
  go_enter Tryz.func4, Tryz.ntmps4
  go_wp2_with (rw [← HW0.out])
  refine Calls.mono (wakes11_any w0) ?_
  rintro e w1 ⟨rfl, hb1⟩
  have HB1 : Hid (Below w0.heap.size w0 w1) := hb1
  obtain ⟨c0, c1, c2, c3⟩ := HC4.out w1 HB1.out
  clear hb1
  go_wp2_with fail
  refine Calls.mono (HLo.out w1 HB1.out) ?_
  rintro e w2 ⟨rfl, hb2⟩
  have HB2 : Hid (Below w0.heap.size w0 w2) := bstep HB1.out hb2
  clear hb2 c0 c1 c2 c3
  obtain ⟨c0, c1, c2, c3⟩ := HC4.out w2 HB2.out
  cases hl : longI g with
  | true =>
    clear hl
    go_wp2_with fail
    go_ret
    exact ⟨rfl, bstep HB0.out HB2.out⟩
  | false =>
    clear hl
    rcases Nat.eq_zero_or_pos g.ts.length with hz | hz
    · have hzi : (g.ts.length : Int) = 0 := by omega
      clear hz
      go_wp2_with fail
      go_ret
      exact ⟨rfl, bstep HB0.out HB2.out⟩
    · have hzi : ¬ (g.ts.length : Int) = 0 := by omega
      have hzn : ¬ g.ts.length = 0 := by omega
      have hzl : ¬ g.ts = [] := by intro e; rw [e] at hz; simp at hz
      have hzd : decide ((g.ts.length : Int) = 0) = false := decide_eq_false hzi
      go_wp2_with fail
      refine Calls.mono (HWe.out w2 HB2.out) ?_
      rintro e w3 ⟨rfl, hb3⟩
      have HB3 : Hid (Below w0.heap.size w0 w3) := bstep HB2.out hb3
      clear hb3 c0 c1 c2 c3
      obtain ⟨c0, c1, c2, c3⟩ := HC4.out w3 HB3.out
      cases hwe : welB g with
      | false =>
        clear hwe
        go_wp2_with fail
        go_ret
        exact ⟨rfl, bstep HB0.out HB3.out⟩
      | true =>
        have HWl : Hid (Wel g) := Wel.of hwe
        obtain ⟨r, hr, htm, hrn⟩ := drawn_num hau.1 hz
        have hnz : ((g.ts.length : Int) == 0) = false := by rw [beq_eq_false_iff_ne]; omega
        have HRn : Hid (numB (r : Int) g.ts.length = true) := hrn
        have HUp : Hid (Calls Tryz.prog 14 #[.agg (imC g), .int .i64 r] w3 fun e w' => ∃ v, e = .returned v ∧ OwnI w' w3.heap.size v (upL g (r : Int)) ∧ Below w3.heap.size w3 w') := up_any (HG.out.im.later HB3.out) HWl.out.im (wf_num (by have := (im_len HWl.out.im).1; omega) hrn)
        unfold imC at HUp
        clear hwe hrn HLo HWe
        go_wp2_with fail
        refine Calls.mono HUp.out ?_
        rintro e w4 ⟨uv, rfl, ho4, hb4⟩
        have HB4 : Hid (Below w0.heap.size w0 w4) := bstep HB3.out hb4
        have hcons := upL_cons HWl.out HRn.out
        have hlast := upL_last HWl.out HRn.out (by rw [hcons]; simp)
        have HNum : Hid (∀ x ∈ upL g (r : Int), numB x g.ts.length = true) := fun x hx => up_num hx
        have HKu : Hid (∀ x ∈ (upL g (r : Int)).drop 1, kndI g x = 0) := up_kind HWl.out _ _ HRn.out (Nat.le_refl _)
        have HFa : Hid (∀ W, Below w0.heap.size w0 W → Calls Tryz.prog 15 #[.agg (imC g), .int .i64 r] W fun e w' => ∃ v l, e = .returned v ∧ l.Perm (facL g (r : Int)) ∧ OwnI w' W.heap.size v l ∧ Below W.heap.size W w') := fun W hW => faces_any (HG.out.im.later hW) HWl.out.im (wf_num (by have := (im_len HWl.out.im).1; omega) HRn.out)
        have HKd : Hid (∀ W (t : Int), Below w0.heap.size w0 W → Calls Tryz.prog 16 #[.agg (imC g), .int .i64 t] W fun e w' => e = .returned (.int .i64 (kndI g t)) ∧ Below W.heap.size W w') := fun W t hW => kind_any t (HG.out.im.later hW) (FlOk.of HWl.out.im)
        unfold imC at HFa HKd
        have hlen : (upL g (r : Int)).length ≤ 32 := by have := (upL_nd g (r : Int)).len; have := (im_len HWl.out.im).1; omega
        obtain ⟨tb, off, hta, h8, h9, hty⟩ := HG.out.ty (by intro e; rw [e] at hz; simp at hz)
        obtain ⟨U, hU⟩ : ∃ U, U = upL g (r : Int) := ⟨_, rfl⟩
        rw [← hU] at ho4 hcons hlen HNum HKu
        have hUne : U ≠ [] := by rw [hcons]; simp
        have hU0 : 0 < U.length := List.length_pos_iff.2 hUne
        have hU00 : U[0] = (r : Int) := by simp only [hcons]; rfl
        have hlast2 : exI g U[U.length - 1] = -1 := by
          rw [← List.getLast_eq_getElem hUne]
          subst hU; exact hlast
        obtain ⟨m, hm⟩ : ∃ m, m + 1 = U.length := ⟨U.length - 1, by omega⟩
        have hml : m < U.length := by omega
        have hUm : exI g U[m] = -1 := by
          have : U.length - 1 = m := by omega
          simpa only [this] using hlast2
        obtain ⟨k, hkk, hkl⟩ := num_nat (HNum.out _ (List.getElem_mem hml))
        rw [hkk, exI_at hkl] at hUm
        obtain ⟨d0, hd⟩ := hty w4 HB4.out
        obtain ⟨e0, e1, e2, e3⟩ := hd k hkl
        rw [hUm] at e2
        obtain ⟨ub, uc, huv, g1, g2, g3, g4, hcells⟩ := ho4.parts hUne
        have f0 := hcells 0 hU0
        have fm := hcells m hml
        rw [hU00] at f0
        rw [hkk] at fm
        have HUI : Hid (∀ W, Below w4.heap.size w4 W → Is W (.slice (some ⟨ub, 0, none⟩) U.length uc) U) := fun W hW => by
          have := ho4.is.later hW
          rw [huv] at this; exact this
        subst huv
        have hm1 : ((U.length : Int) - 1) = (m : Int) := by omega
        have hmi : (m : Int) < (U.length : Int) := by omega
        have hki : (k : Int) < (g.ts.length : Int) := by omega
        have hui : ¬ (U.length : Int) = 0 := by omega
        have hud : decide ((U.length : Int) = 0) = false := decide_eq_false hui
        have hub : ((U.length : Int) == 0) = false := by rw [beq_eq_false_iff_ne]; exact hui
        have hu0i : (0 : Int) < (U.length : Int) := by omega
        obtain ⟨c0, c1, c2, c3⟩ := HC4.out w4 HB4.out
        rw [hta] at c0 HFa HKd HC4
        unfold maxLen at h9 g2
        clear hb4 ho4 hcons hlast hlast2 hty hd hcells hUne hU00 hU hm e0 e1 e3 d0 HUp
        go_wp2_with fail
        go_quiet (fail)
        go_wp2_with fail
        have HB4n : Hid (Below w0.heap.size w0 (w4.drewN nq)) := Below.drewN HB4.out nq
        have HUIn : Hid (∀ W, Below (w4.drewN nq).heap.size (w4.drewN nq) W → Is W (.slice (some ⟨ub, 0, none⟩) U.length uc) U) := fun W hW => HUI.out W (bstep (Below.drewN (Below.refl _ _) nq) hW)
        refine Calls.mono (HFa.out _ HB4n.out) ?_
        clear c0 c1 c2 c3 e2 f0 fm HB4 HFa HUI
        revert HB4n HUIn
        generalize w4.drewN nq = w5
        intro HB5 HUI
        rintro e w6 ⟨fv, l, rfl, hp, ho6, hb6⟩
        have HB6 : Hid (Below w0.heap.size w0 w6) := bstep HB5.out hb6
        have HU6 : Hid (∀ W, Below w6.heap.size w6 W → Is W (.slice (some ⟨ub, 0, none⟩) U.length uc) U) := fun W hW => HUI.out W (bstep hb6 hW)
        have HLk : Hid (∀ x ∈ l, kndI g x = 2) := fun x hx => fac_kind HWl.out (hp.mem_iff.1 hx)
        obtain ⟨fa, fc, hfv, hf1, hf2⟩ := (show Is w6 fv l from ho6.is).shape
        have HFi : Hid (∀ W, Below w6.heap.size w6 W → Is W (.slice fa l.length fc) l) := fun W hW => by
          have := ho6.is.later hW
          rw [hfv] at this; exact this
        subst hfv
        unfold maxLen at hf2
        clear hp ho6 hb6 HUI HB5
        go_wp2_with fail
        go_loopw [8, 63] (fun _ z wr => ∃ q : Nat, q ≤ l.length ∧ z = .int .i64 q ∧ Hid (Below w6.heap.size w6 wr)) (fun _ z _ => l.length - (intOf z).toNat)
        case atStart => exact ⟨0, Nat.zero_le _, rfl, Below.refl _ _⟩
        case round =>
          obtain ⟨q, hq, rfl, HB⟩ := hrel
          by_cases hql : q < l.length
          · obtain ⟨lb, loff, hla, hlb, _, h6, h7, hc⟩ := (HFi.out wr HB.out).at hql
            have cq := hc q hql
            have HK2 : Hid (kndI g l[q] = 2) := HLk.out _ (List.getElem_mem hql)
            have hqi : (q : Int) < (l.length : Int) := by omega
            obtain ⟨c0, c1, c2, c3⟩ := HC4.out wr (bstep HB6.out HB.out)
            subst hla
            clear hc
            generalize l[q] = x at *
            go_wp2_with fail
            refine Calls.mono (HKd.out wr x (bstep HB6.out HB.out)) ?_
            rintro e w7 ⟨rfl, hb7⟩
            have HB7 : Hid (Below w6.heap.size w6 w7) := bstep HB.out hb7
            rw [HK2.out]
            clear hb7 cq c0 c1 c2 c3
            go_wp2_with fail
            go_roundw
            case rel => exact ⟨q + 1, by omega, by go_num, HB7.out⟩
            case measure => simp [intOf]; omega
          · have hqi : ¬ (q : Int) < (l.length : Int) := by omega
            have HB8 : Hid (Below w0.heap.size w0 wr) := bstep HB6.out HB.out
            obtain ⟨a', ca', hs, hE, _, _⟩ := slice_fromE (P := Tryz.prog) (HU6.out wr HB.out).toEs 1 (by omega) 31 3 Tryz.underlying31 (by kernel_rfl)
            have hEi : Is wr (.slice a' (U.length - 1) ca') (U.drop 1) := hE.toIs
            have hdl : (U.drop 1).length = U.length - 1 := by simp
            rw [← hdl] at hs hEi
            have HDi : Hid (∀ W, Below wr.heap.size wr W → Is W (.slice a' (U.drop 1).length ca') (U.drop 1)) := fun W hW => hEi.later hW
            have hdc := hEi.shape
            have hd32 : (U.drop 1).length ≤ 32 := by rw [hdl]; omega
            clear hE hEi hdl hdc HFi HLk HB6 HU6
            generalize U.drop 1 = D at *
            have hs1 : ∀ (W : World) (kk : IntKind), (Instr.slice 31 (.slice (some ⟨ub, 0, none⟩) U.length uc) (some (.int kk 1)) none none).run Tryz.prog W = .ok (.slice a' D.length ca') W := fun W kk => hs W kk
            clear hs
            go_wp2_with fail
            obtain ⟨wo, hwo⟩ : ∃ W, W = wr := ⟨_, rfl⟩
            subst hwo
            go_loopw [10, 75] (fun _ z wr => ∃ q : Nat, q ≤ D.length ∧ z = .int .i64 q ∧ Hid (Below wo.heap.size wo wr)) (fun _ z _ => D.length - (intOf z).toNat)
            case atStart => exact ⟨0, Nat.zero_le _, rfl, Below.refl _ _⟩
            case round =>
              obtain ⟨i, hi, rfl, HBi⟩ := hrel
              by_cases hil : i < D.length
              · obtain ⟨lb, loff, hla, hlb, _, h6, h7, hc⟩ := (HDi.out wr HBi.out).at hil
                have cq := hc i hil
                have HK2 : Hid (kndI g D[i] = 0) := HKu.out _ (List.getElem_mem hil)
                have hii : (i : Int) < (D.length : Int) := by omega
                obtain ⟨c0, c1, c2, c3⟩ := HC4.out wr (bstep HB8.out HBi.out)
                subst hla
                clear hc
                generalize D[i] = x at *
                go_wp2_with fail
                refine Calls.mono (HKd.out wr x (bstep HB8.out HBi.out)) ?_
                rintro e w7 ⟨rfl, hb7⟩
                have HB7 : Hid (Below wo.heap.size wo w7) := bstep HBi.out hb7
                rw [HK2.out]
                clear hb7 cq c0 c1 c2 c3
                go_wp2_with fail
                go_roundw
                case rel => exact ⟨i + 1, by omega, by go_num, HB7.out⟩
                case measure => simp [intOf]; omega
              · have hii : ¬ (i : Int) < (D.length : Int) := by omega
                have HB9 : Hid (Below w0.heap.size w0 wr) := bstep HB8.out HBi.out
                go_wp2_with fail
                go_ret
                exact ⟨rfl, bstep HB0.out HB9.out⟩

end Go.Proofs.YthpmpdpfnlecmaaGreat
