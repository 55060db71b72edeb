
/- The walk of TreeRest. -/
import Derived.Test.YthpmpdpfnlecmaaGreatK09
import Derived.Test.YthpmpdpfnlecmaaGreatK23
import Derived.Test.YthpmpdpfnlecmaaGreatK35
import Derived.Test.YthpmpdpfnlecmaaGreatK14
import Derived.Deep.QuietTactic
import Derived.BigQuiet
namespace Go.Proofs.YthpmpdpfnlecmaaGreat
set_option linter.unusedVariables false
set_option linter.unusedSimpArgs false
open Go.RowKit
attribute [local go_sem ↓] Go.wp_at_zero Go.wp_at_succ

theorem same11_any {va vb : Value} {xs ys : List Int} {w : World} (ha : Is w va xs) (hb : Is w vb ys) :
    Calls Tryz.prog 17 #[va, vb] w fun e w' => e = .returned (.bool (decide (xs = ys))) ∧ Below w.heap.size w w' := by
  have HS : Hid (Calls Tryz.prog 41 #[va, vb] w fun e w' => e = .returned (.bool (decide (xs = ys))) ∧ ∃ n, w' = w.drewN n) := sameI_any ha hb
  clear ha hb
  go_enter Tryz.func17, Tryz.ntmps17
  go_wp2_with fail
  refine Calls.mono HS.out ?_
  rintro e w1 ⟨rfl, n, rfl⟩
  go_wp2
  go_ret
  exact ⟨rfl, Below.drewN (Below.refl _ _) n⟩

set_option maxHeartbeats 4000000 in
theorem treeRest_walk (v : Value) (g : Img) (a : Int) (w : World) (h : ImV w v g) (ha : (Lit.int .u8 a).wf = true) :
    Calls Tryz.prog 5 #[v, .int .u8 a] w fun e w' => e = .returned (.bool true) ∧ Below w.heap.size w w' := by
  obtain ⟨rfl, hg, hnm⟩ := h
  have hau := Go.bounds_u8 ha
  obtain ⟨w0, hw0⟩ : ∃ W, W = w.alloc (.cells (imC g) 26) := ⟨_, rfl⟩
  have HW0 : Hid (w0 = _) := hw0
  obtain ⟨hb0, hgb⟩ := GB.made hg hw0
  have HB0 : Hid (Below w.heap.size w w0) := hb0
  have HG : Hid (GB w0 w.heap.size g) := hgb
  have HC4 : Hid (∀ W, Below w0.heap.size w0 W → W.cell? ⟨w.heap.size, 0, none⟩ = some (.slice g.ta g.ts.length g.tc) ∧ W.cell? ⟨w.heap.size, 1, none⟩ = some (.slice g.fa g.fs.length g.fc) ∧ W.cell? ⟨w.heap.size, 2, none⟩ = some (.slice g.ma g.ms.length g.mc) ∧ W.cell? ⟨w.heap.size, 3, none⟩ = some (.int .i64 g.en)) := fun W hW => (hgb.later hW).cells
  have HLo : Hid (∀ W, Below w0.heap.size w0 W → Calls Tryz.prog 10 #[.agg (imC g)] W fun e w' => e = .returned (.bool (longI g)) ∧ Below W.heap.size W w') := fun W hW => longI_any (hgb.im.later hW)
  have HWe : Hid (∀ W, Below w0.heap.size w0 W → Calls Tryz.prog 11 #[.agg (imC g)] W fun e w' => e = .returned (.bool (welB g)) ∧ Below W.heap.size W w') := fun W hW => refWell_any (hgb.im.later hW) hnm
  have htl := hg.ts.len
  unfold maxLen at htl
  unfold imC at HW0 HLo HWe
  clear hw0 hb0 hgb hg hnm ha
  unfold imV
  go_enter Tryz.func5, Tryz.ntmps5
  go_wp2_with (rw [← HW0.out])
  refine Calls.mono (wakes11_any w0) ?_
  rintro e w1 ⟨rfl, hb1⟩
  have HB1 : Hid (Below w0.heap.size w0 w1) := hb1
  obtain ⟨c0, c1, c2, c3⟩ := HC4.out w1 HB1.out
  clear hb1
  go_wp2_with fail
  refine Calls.mono (HLo.out w1 HB1.out) ?_
  rintro e w2 ⟨rfl, hb2⟩
  have HB2 : Hid (Below w0.heap.size w0 w2) := bstep HB1.out hb2
  clear hb2 c0 c1 c2 c3
  obtain ⟨c0, c1, c2, c3⟩ := HC4.out w2 HB2.out
  cases hl : longI g with
  | true =>
    clear hl
    go_wp2_with fail
    go_ret
    exact ⟨rfl, bstep HB0.out HB2.out⟩
  | false =>
    clear hl
    rcases Nat.eq_zero_or_pos g.ts.length with hz | hz
    · have hzi : (g.ts.length : Int) = 0 := by omega
      clear hz
      go_wp2_with fail
      go_ret
      exact ⟨rfl, bstep HB0.out HB2.out⟩
    · have hzi : ¬ (g.ts.length : Int) = 0 := by omega
      have hzn : ¬ g.ts.length = 0 := by omega
      have hzl : ¬ g.ts = [] := by intro e; rw [e] at hz; simp at hz
      have hzd : decide ((g.ts.length : Int) = 0) = false := decide_eq_false hzi
      go_wp2_with fail
      refine Calls.mono (HWe.out w2 HB2.out) ?_
      rintro e w3 ⟨rfl, hb3⟩
      have HB3 : Hid (Below w0.heap.size w0 w3) := bstep HB2.out hb3
      clear hb3 c0 c1 c2 c3
      obtain ⟨c0, c1, c2, c3⟩ := HC4.out w3 HB3.out
      cases hwe : welB g with
      | false =>
        clear hwe
        go_wp2_with fail
        go_ret
        exact ⟨rfl, bstep HB0.out HB3.out⟩
      | true =>
        have HWl : Hid (Wel g) := Wel.of hwe
        obtain ⟨r, hr, htm, hrn⟩ := drawn_num hau.1 hz
        have hnz : ((g.ts.length : Int) == 0) = false := by rw [beq_eq_false_iff_ne]; omega
        have HRn : Hid (numB (r : Int) g.ts.length = true) := hrn
        have HUp : Hid (Calls Tryz.prog 14 #[.agg (imC g), .int .i64 r] w3 fun e w' => ∃ v, e = .returned v ∧ OwnI w' w3.heap.size v (upL g (r : Int)) ∧ Below w3.heap.size w3 w') := up_any (HG.out.im.later HB3.out) HWl.out.im (wf_num (by have := (im_len HWl.out.im).1; omega) hrn)
        unfold imC at HUp
        clear hwe hrn HLo HWe
        go_wp2_with fail
        refine Calls.mono HUp.out ?_
        rintro e w4 ⟨uv, rfl, ho4, hb4⟩
        have HB4 : Hid (Below w0.heap.size w0 w4) := bstep HB3.out hb4
        have hcons := upL_cons HWl.out HRn.out
        rw [exI_at hr] at hcons
        have HEx : Hid (exI g (r : Int) = g.ts[r].ex) := exI_at hr
        have hwx : Wf g.ts[r].ex := by
          have := (im_type HWl.out.im hr).1
          have h32 := (im_len HWl.out.im).1
          rcases this with h | h
          · rw [h]; exact wf_of (by omega)
          · exact wf_num (by omega) h
        have HUx : Hid (∀ W, Below w0.heap.size w0 W → Calls Tryz.prog 14 #[.agg (imC g), .int .i64 g.ts[r].ex] W fun e w' => ∃ v, e = .returned v ∧ OwnI w' W.heap.size v (upL g g.ts[r].ex) ∧ Below W.heap.size W w') := fun W hW => up_any (HG.out.im.later hW) HWl.out.im hwx
        have HFa : Hid (∀ W, Below w0.heap.size w0 W → Calls Tryz.prog 15 #[.agg (imC g), .int .i64 r] W fun e w' => ∃ v l, e = .returned v ∧ l.Perm (facL g (r : Int)) ∧ OwnI w' W.heap.size v l ∧ Below W.heap.size W w') := fun W hW => faces_any (HG.out.im.later hW) HWl.out.im (wf_num (by have := (im_len HWl.out.im).1; omega) HRn.out)
        have HFx : Hid (∀ W, Below w0.heap.size w0 W → Calls Tryz.prog 15 #[.agg (imC g), .int .i64 g.ts[r].ex] W fun e w' => ∃ v l, e = .returned v ∧ l.Perm (facL g g.ts[r].ex) ∧ OwnI w' W.heap.size v l ∧ Below W.heap.size W w') := fun W hW => faces_any (HG.out.im.later hW) HWl.out.im hwx
        have HFE : Hid (∀ f, f ∈ facL g g.ts[r].ex → f ∈ facL g (r : Int)) := fun f hf => fac_ext HWl.out HRn.out (by rw [HEx.out]; exact hf)
        unfold imC at HFa HFx HUx
        have hlen : (upL g (r : Int)).length ≤ 32 := by have := (upL_nd g (r : Int)).len; have := (im_len HWl.out.im).1; omega
        obtain ⟨tb, off, hta, h8, h9, hty⟩ := HG.out.ty (by intro e; rw [e] at hz; simp at hz)
        obtain ⟨U, hU⟩ : ∃ U, U = upL g (r : Int) := ⟨_, rfl⟩
        rw [← hU] at ho4 hcons hlen
        have hUne : U ≠ [] := by rw [hcons]; simp
        have hU0 : 0 < U.length := List.length_pos_iff.2 hUne
        have hD : U.drop 1 = upL g g.ts[r].ex := by rw [hcons]; rfl
        have HTY : Hid (∀ W, Below w0.heap.size w0 W → W.cell? ⟨tb, off + r * 4 + 2, none⟩ = some (.int .i64 g.ts[r].ex)) := fun W hW => ((hty W hW).2 r hr).2.2.1
        obtain ⟨ub, uc, huv, g1, g2, g3, g4, hcells⟩ := ho4.parts hUne
        have HUI : Hid (∀ W, Below w4.heap.size w4 W → Is W (.slice (some ⟨ub, 0, none⟩) U.length uc) U) := fun W hW => by
          have := ho4.is.later hW
          rw [huv] at this; exact this
        subst huv
        obtain ⟨a', ca', hs, hE, _, _⟩ := slice_fromE (P := Tryz.prog) (HUI.out w4 (Below.refl _ _)).toEs 1 (by omega) 31 3 Tryz.underlying31 (by kernel_rfl)
        have hEi : Is w4 (.slice a' (U.length - 1) ca') (U.drop 1) := hE.toIs
        have hdl : (U.drop 1).length = U.length - 1 := by simp
        rw [← hdl] at hs hEi
        have hs1 : ∀ (W : World) (kk : IntKind), (Instr.slice 31 (.slice (some ⟨ub, 0, none⟩) U.length uc) (some (.int kk 1)) none none).run Tryz.prog W = .ok (.slice a' (U.drop 1).length ca') W := fun W kk => hs W kk
        rw [hD] at hEi hs1
        generalize hX : g.ts[r].ex = X at *
        have HSm : Hid (∀ W vx, Below w4.heap.size w4 W → Is W vx (upL g X) → Calls Tryz.prog 17 #[.slice a' (upL g X).length ca', vx] W fun e w' => e = .returned (.bool true) ∧ Below W.heap.size W w') := fun W vx hW hv => by
          have := same11_any (hEi.later hW) hv
          simpa using this
        have hri : (r : Int) < (g.ts.length : Int) := by omega
        have hui : ¬ (U.length : Int) = 0 := by omega
        have hub : ((U.length : Int) == 0) = false := by rw [beq_eq_false_iff_ne]; exact hui
        rw [hta] at HFa HFx HUx HC4
        have HK : Hid (∀ W, Below w4.heap.size w4 W → W.cell? ⟨w.heap.size, 0, none⟩ = some (.slice (some ⟨tb, off, none⟩) g.ts.length g.tc) ∧ W.cell? ⟨w.heap.size, 1, none⟩ = some (.slice g.fa g.fs.length g.fc) ∧ W.cell? ⟨w.heap.size, 2, none⟩ = some (.slice g.ma g.ms.length g.mc) ∧ W.cell? ⟨w.heap.size, 3, none⟩ = some (.int .i64 g.en) ∧ W.cell? ⟨tb, off + r * 4 + 2, none⟩ = some (.int .i64 X)) := fun W hW => by
          have h4 := HC4.out W (bstep HB4.out hW)
          exact ⟨h4.1, h4.2.1, h4.2.2.1, h4.2.2.2, HTY.out W (bstep HB4.out hW)⟩
        obtain ⟨c0, c1, c2, c3, c4⟩ := HK.out w4 (Below.refl _ _)
        unfold maxLen at h9 g2
        clear hb4 ho4 hcons hty hcells hUne hU hE hEi hdl hs HUp hD
        generalize upL g X = D at *
        go_wp2_with fail
        go_region_held3 (fun W : World => W.cell? ⟨w.heap.size, 0, none⟩ = some (.slice (some ⟨tb, off, none⟩) g.ts.length g.tc) ∧ W.cell? ⟨w.heap.size, 1, none⟩ = some (.slice g.fa g.fs.length g.fc) ∧ W.cell? ⟨w.heap.size, 2, none⟩ = some (.slice g.ma g.ms.length g.mc) ∧ W.cell? ⟨w.heap.size, 3, none⟩ = some (.int .i64 g.en) ∧ W.cell? ⟨tb, off + r * 4 + 2, none⟩ = some (.int .i64 X))
          (first | (exact HK.out _ hBd) | (exact HK.out _ hBc) | (exact HK.out _ (bdrew _)))
          (first | (go_at_call 14; refine (HUx.out _ (bstep HB4.out (bdrew _))).mono ?_; rintro e w6 ⟨xv, rfl, hx, hb6⟩; have hBc : Below w4.heap.size w4 w6 := bstep (bdrew _) hb6) | (go_at_call 17; refine (HSm.out _ _ hBc hx.is).mono ?_; rintro e w7 ⟨rfl, hb7⟩; have hBd : Below w4.heap.size w4 w7 := bstep hBc hb7))
        rename_i hheld
        clear hheld
        have HB7 : Hid (Below w0.heap.size w0 w7) := bstep HB4.out hBd
        have HT7 : Hid (∀ W, Below w7.heap.size w7 W → W.cell? ⟨w.heap.size, 0, none⟩ = some (.slice (some ⟨tb, off, none⟩) g.ts.length g.tc) ∧ W.cell? ⟨w.heap.size, 1, none⟩ = some (.slice g.fa g.fs.length g.fc) ∧ W.cell? ⟨w.heap.size, 2, none⟩ = some (.slice g.ma g.ms.length g.mc) ∧ W.cell? ⟨w.heap.size, 3, none⟩ = some (.int .i64 g.en) ∧ W.cell? ⟨tb, off + r * 4 + 2, none⟩ = some (.int .i64 X)) := fun W hW => HK.out W (bstep hBd hW)
        clear hx hb6 hb7 hBc hBd c0 c1 c2 c3 c4 HSm HUI HK HB4 HUx
        obtain ⟨c0, c1, c2, c3, c4⟩ := HT7.out w7 (Below.refl _ _)
        go_wp2_with fail
        refine Calls.mono (HFa.out _ HB7.out) ?_
        rintro e w8 ⟨fv, l, rfl, hp, ho8, hb8⟩
        have HB8 : Hid (Below w0.heap.size w0 w8) := bstep HB7.out hb8
        have HT8 : Hid (∀ W, Below w8.heap.size w8 W → W.cell? ⟨w.heap.size, 0, none⟩ = some (.slice (some ⟨tb, off, none⟩) g.ts.length g.tc) ∧ W.cell? ⟨w.heap.size, 1, none⟩ = some (.slice g.fa g.fs.length g.fc) ∧ W.cell? ⟨w.heap.size, 2, none⟩ = some (.slice g.ma g.ms.length g.mc) ∧ W.cell? ⟨w.heap.size, 3, none⟩ = some (.int .i64 g.en) ∧ W.cell? ⟨tb, off + r * 4 + 2, none⟩ = some (.int .i64 X)) := fun W hW => HT7.out W (bstep hb8 hW)
        have HL : Hid (∀ f, f ∈ facL g X → l.contains f = true) := fun f hf => List.contains_iff_mem.2 (hp.mem_iff.2 (HFE.out f hf))
        have HFv : Hid (∀ W, Below w8.heap.size w8 W → Is W fv l) := fun W hW => ho8.is.later hW
        clear c0 c1 c2 c3 c4 hp ho8 hb8 HT7 HFa HFE
        obtain ⟨c0, c1, c2, c3, c4⟩ := HT8.out w8 (Below.refl _ _)
        go_wp2_with fail
        go_region_held3 (fun W : World => W.cell? ⟨w.heap.size, 0, none⟩ = some (.slice (some ⟨tb, off, none⟩) g.ts.length g.tc) ∧ W.cell? ⟨w.heap.size, 1, none⟩ = some (.slice g.fa g.fs.length g.fc) ∧ W.cell? ⟨w.heap.size, 2, none⟩ = some (.slice g.ma g.ms.length g.mc) ∧ W.cell? ⟨w.heap.size, 3, none⟩ = some (.int .i64 g.en) ∧ W.cell? ⟨tb, off + r * 4 + 2, none⟩ = some (.int .i64 X))
          (first | (exact HT8.out _ hBc) | (exact HT8.out _ (bdrew _)))
          (first | (go_at_call 15; refine (HFx.out _ (bstep HB8.out (bdrew _))).mono ?_; rintro e w9 ⟨xv, l2, rfl, hp2, ho9, hb9⟩; have hBc : Below w8.heap.size w8 w9 := bstep (bdrew _) hb9; obtain ⟨xa, xc, hxv, hx1, hx2⟩ := (show Is w9 xv l2 from ho9.is).shape; subst hxv))
        rename_i hheld
        clear hheld
        have HB9 : Hid (Below w0.heap.size w0 w9) := bstep HB8.out hBc
        have HL2 : Hid (∀ x ∈ l2, l.contains x = true) := fun x hx => HL.out x (hp2.mem_iff.1 hx)
        have HFv9 : Hid (∀ W, Below w9.heap.size w9 W → Is W fv l) := fun W hW => HFv.out W (bstep hBc hW)
        have HXi : Hid (∀ W, Below w9.heap.size w9 W → Is W (.slice xa l2.length xc) l2) := fun W hW => ho9.is.later hW
        unfold maxLen at hx2
        clear hp2 ho9 hb9 hBc c0 c1 c2 c3 c4 HL HFv HT8 HB8 HFx
        go_wp2_with fail
        go_loopw [9, 63] (fun _ z wr => ∃ q : Nat, q ≤ l2.length ∧ z = .int .i64 q ∧ Hid (Below w9.heap.size w9 wr)) (fun _ z _ => l2.length - (intOf z).toNat)
        case atStart => exact ⟨0, Nat.zero_le _, rfl, Below.refl _ _⟩
        case round =>
          obtain ⟨q, hq, rfl, HB⟩ := hrel
          by_cases hql : q < l2.length
          · obtain ⟨lb, loff, hla, hlb, _, h6, h7, hc⟩ := (HXi.out wr HB.out).at hql
            have cq := hc q hql
            have HK2 : Hid (l.contains l2[q] = true) := HL2.out _ (List.getElem_mem hql)
            have hqi : (q : Int) < (l2.length : Int) := by omega
            subst hla
            clear hc
            generalize l2[q] = x at *
            go_wp2_with fail
            refine Calls.mono (refHas_any (HFv9.out wr HB.out) x) ?_
            rintro e wz ⟨rfl, hz'⟩
            subst wz
            rw [HK2.out]
            clear cq
            go_wp2_with fail
            go_roundw
            case rel => exact ⟨q + 1, by omega, by go_num, HB.out⟩
            case measure => simp [intOf]; omega
          · have hqi : ¬ (q : Int) < (l2.length : Int) := by omega
            have HBz : Hid (Below w0.heap.size w0 wr) := bstep HB9.out HB.out
            go_wp2_with fail
            go_ret
            exact ⟨rfl, bstep HB0.out HBz.out⟩

end Go.Proofs.YthpmpdpfnlecmaaGreat
