
/- The walk of FitOrder. -/
import Derived.Test.YtapocgcdjkbnhaaDoorQ12
import Derived.Test.YtapocgcdjkbnhaaDoorQ24
import Derived.Deep.DeepCutAuto
import Derived.BigRegion
namespace Go.Proofs.YtapocgcdjkbnhaaDoor
set_option linter.unusedVariables false
set_option linter.unusedSimpArgs false
open Go.RowKit
attribute [local go_sem ↓] Go.wp_at_zero Go.wp_at_succ

set_option maxHeartbeats 16000000 in
set_option maxRecDepth 20000 in
theorem fitOrder_walk (v : Value) (g : Img) (vl : Value) (l : Ty3) (w : World) (hd : Wd14 w) (h : ImV w v g) (hvl : vl = tv3 l) :
    Calls Tryd.prog 3 #[v, vl] w fun e w' => e = .returned (.bool true) ∧ Below w.heap.size w w' := by
  obtain ⟨rfl, hg, hnm⟩ := h
  subst hvl
  obtain ⟨a, b, c⟩ := l
  obtain ⟨w0, HW0, HB0, HC, HI⟩ := fit3_head hg (a, b, c)
  have HWk : Hid (Ans 6 #[] w0 (.bool true)) := wakes14_any (hd.later HB0.out)
  have HLo : Hid (∀ W, Below w0.heap.size w0 W → Ans 7 #[imA4 g] W (.bool (longI g))) := fun W hW => longI_any (HI.out W hW)
  have HWe : Hid (∀ W, Below w0.heap.size w0 W → Ans 8 #[imA4 g] W (.bool (welB g))) := fun W hW => refWell_any (HI.out W hW) hnm
  have HTh : Hid (∀ W i, Below w0.heap.size w0 W → Ans 9 #[imA4 g, .int .i64 i] W (.bool (numB i g.ts.length))) := fun W i hW => refThere_any i (HI.out W hW)
  have hth : ∀ {t : Ty}, welB g = true → ThrT g t → t.1 = 5 → Wf t.2.1 := fun hw ht h => wf_num (by have := (im_len (Wel.of hw).im).1; omega) (ht h)
  have HFt : Hid (∀ W (x y : Ty), Below w0.heap.size w0 W → welB g = true → ThrT g x → Ans 10 #[imA4 g, .agg #[.int .i64 x.1, .int .i64 x.2.1, .int .i64 x.2.2.1, .bool x.2.2.2], .agg #[.int .i64 y.1, .int .i64 y.2.1, .int .i64 y.2.2.1, .bool y.2.2.2]] W (.bool (fitT g x y))) := fun W x y hW hw hx => fits14_any (HI.out W hW) (Wel.of hw).im ((hd.later HB0.out).later hW) (hth hw hx)
  have HAA : Hid (fitT g a a = true) := fit_self g a
  have HAn : Hid (welB g = true → ThrT g a → ThrT g b → fitT g a b = true → fitT g b a = true → decide (a = b) = false → (decide (a.1 = 8) || decide (a.1 = 4)) = true ∧ (decide (b.1 = 8) || decide (b.1 = 4)) = true) := fun hw ta tb h1 h2 hn => by
    rcases fit_anti (Wel.of hw) ta tb h1 h2 with h | ⟨h3, h4⟩
    · rw [decide_eq_true h] at hn; cases hn
    · exact ⟨by simpa using h3, by simpa using h4⟩
  have HTr : Hid (welB g = true → fitT g a b = true → fitT g b c = true → fitT g a c = true) := fun hw h1 h2 => fit_trans (Wel.of hw) h1 h2
  have HNa : Hid (∀ W, Ans 11 #[.agg #[.int .i64 a.1, .int .i64 a.2.1, .int .i64 a.2.2.1, .bool a.2.2.2]] W (.bool (decide (a.1 = 8) || decide (a.1 = 4)))) := fun W => null14_any a W
  have HNb : Hid (∀ W, Ans 11 #[.agg #[.int .i64 b.1, .int .i64 b.2.1, .int .i64 b.2.2.1, .bool b.2.2.2]] W (.bool (decide (b.1 = 8) || decide (b.1 = 4)))) := fun W => null14_any b W
  have hq : ∀ W : World, (binOp .eql 28 (.agg #[.int .i64 a.1, .int .i64 a.2.1, .int .i64 a.2.2.1, .bool a.2.2.2]) (.agg #[.int .i64 b.1, .int .i64 b.2.1, .int .i64 b.2.2.1, .bool b.2.2.2])).run Tryd.prog W = .ok (.bool (decide (a = b))) W := fun W => eq_ty2 W a b
  have HTA : ∀ t : Ty, Hid (ThrT g t → (t.1 = 5 → numB t.2.1 g.ts.length = true)) := fun t h => h
  obtain ⟨ak, ai, ad, ar⟩ := a
  obtain ⟨bk, bi, bd, br⟩ := b
  obtain ⟨ck, ci, cd, cr⟩ := c
  obtain ⟨⟨c0, c1, c2, c3⟩, ⟨d0, d1, d2, d3⟩, ⟨d4, d5, d6, d7⟩, ⟨d8, d9, d10, d11⟩⟩ := HC.out w0 (Below.refl _ _)
  have HC4 : Hid (∀ W, Below w0.heap.size w0 W → Im4 W w.heap.size g) := fun W hW => (HC.out W hW).1
  have HCL : Hid (∀ W, Below w0.heap.size w0 W → Ty12 W (w.heap.size + 1) ((ak, ai, ad, ar), (bk, bi, bd, br), (ck, ci, cd, cr))) := fun W hW => (HC.out W hW).2
  unfold Im4 at HC4
  unfold Ty12 at HCL
  unfold imA4 at HLo HWe HTh HFt
  unfold tyA3 at HW0
  unfold imV tv3
  clear hg hnm hd HI hth HC HTA
  simp only at HW0 HCL d0 d1 d2 d3 d4 d5 d6 d7 d8 d9 d10 d11 ⊢
  have i0 : ∀ w : World, (Instr.index 29 (.agg #[.int .i64 ak, .int .i64 ai, .int .i64 ad, .bool ar, .int .i64 bk, .int .i64 bi, .int .i64 bd, .bool br, .int .i64 ck, .int .i64 ci, .int .i64 cd, .bool cr]) (.int .i64 0)).run Tryd.prog w = .ok (.agg #[.int .i64 ak, .int .i64 ai, .int .i64 ad, .bool ar]) w := fun _ => by kernel_rfl
  have i1 : ∀ w : World, (Instr.index 29 (.agg #[.int .i64 ak, .int .i64 ai, .int .i64 ad, .bool ar, .int .i64 bk, .int .i64 bi, .int .i64 bd, .bool br, .int .i64 ck, .int .i64 ci, .int .i64 cd, .bool cr]) (.int .i64 1)).run Tryd.prog w = .ok (.agg #[.int .i64 bk, .int .i64 bi, .int .i64 bd, .bool br]) w := fun _ => by kernel_rfl
  have i2 : ∀ w : World, (Instr.index 29 (.agg #[.int .i64 ak, .int .i64 ai, .int .i64 ad, .bool ar, .int .i64 bk, .int .i64 bi, .int .i64 bd, .bool br, .int .i64 ck, .int .i64 ci, .int .i64 cd, .bool cr]) (.int .i64 2)).run Tryd.prog w = .ok (.agg #[.int .i64 ck, .int .i64 ci, .int .i64 cd, .bool cr]) w := fun _ => by kernel_rfl
  go_enter Tryd.func3, Tryd.ntmps3
  go_wp2_with (rw [← HW0.out])
  refine Calls.mono HWk.out ?_
  rintro e w1 ⟨rfl, hb1⟩
  have HB1 : Hid (Below w0.heap.size w0 w1) := hb1
  clear hb1 c0 c1 c2 c3 d0 d1 d2 d3 d4 d5 d6 d7 d8 d9 d10 d11 HWk
  obtain ⟨c0, c1, c2, c3⟩ := HC4.out w1 HB1.out
  obtain ⟨⟨d0, d1, d2, d3⟩, ⟨d4, d5, d6, d7⟩, ⟨d8, d9, d10, d11⟩⟩ := HCL.out w1 HB1.out
  go_wp2_with fail
  refine Calls.mono (HLo.out w1 HB1.out) ?_
  rintro e w2 ⟨rfl, hb2⟩
  have HB2 : Hid (Below w0.heap.size w0 w2) := bstep HB1.out hb2
  clear hb2 c0 c1 c2 c3 d0 d1 d2 d3 d4 d5 d6 d7 d8 d9 d10 d11
  obtain ⟨c0, c1, c2, c3⟩ := HC4.out w2 HB2.out
  obtain ⟨⟨d0, d1, d2, d3⟩, ⟨d4, d5, d6, d7⟩, ⟨d8, d9, d10, d11⟩⟩ := HCL.out w2 HB2.out
  cases hl : longI g with
  | true =>
    clear hl
    go_wp2_with fail
    go_ret
    exact ⟨rfl, bstep HB0.out HB2.out⟩
  | false =>
  clear hl
  go_wp2_with fail
  refine Calls.mono (HWe.out w2 HB2.out) ?_
  rintro e w3 ⟨rfl, hb3⟩
  have HB3 : Hid (Below w0.heap.size w0 w3) := bstep HB2.out hb3
  clear hb3 c0 c1 c2 c3 d0 d1 d2 d3 d4 d5 d6 d7 d8 d9 d10 d11
  obtain ⟨c0, c1, c2, c3⟩ := HC4.out w3 HB3.out
  obtain ⟨⟨d0, d1, d2, d3⟩, ⟨d4, d5, d6, d7⟩, ⟨d8, d9, d10, d11⟩⟩ := HCL.out w3 HB3.out
  cases hwe : welB g with
  | false =>
    clear hwe
    go_wp2_with fail
    go_ret
    exact ⟨rfl, bstep HB0.out HB3.out⟩
  | true =>
  have HWl : Hid (welB g = true) := hwe
  clear hwe HLo HWe
  go_wp2_with fail
  clear c0 c1 c2 c3 d0 d1 d2 d3 d4 d5 d6 d7 d8 d9 d10 d11
  go_loopw [6, 20] (fun _ z wr => ∃ q : Nat, (q = 0 ∧ z = .int .i64 0 ∨ q = 1 ∧ z = .int .i64 1 ∨ q = 2 ∧ z = .int .i64 2 ∨ q = 3 ∧ z = .int .i64 3) ∧ Hid (Below w0.heap.size w0 wr) ∧ Hid (0 < q → ThrT g (ak, ai, ad, ar)) ∧ Hid (1 < q → ThrT g (bk, bi, bd, br)) ∧ Hid (2 < q → ThrT g (ck, ci, cd, cr))) (fun _ z _ => 3 - (intOf z).toNat)
  case atStart => exact ⟨0, Or.inl ⟨rfl, rfl⟩, HB3.out, (show _ → _ from fun h => absurd h (by omega)), (show _ → _ from fun h => absurd h (by omega)), (show _ → _ from fun h => absurd h (by omega))⟩
  case round =>
    obtain ⟨q, hq, HB, H0, H1, H2⟩ := hrel
    obtain ⟨c0, c1, c2, c3⟩ := HC4.out wr HB.out
    rcases hq with ⟨rfl, rfl⟩ | ⟨rfl, rfl⟩ | ⟨rfl, rfl⟩ | ⟨rfl, rfl⟩
    · cases hk5 : (ak == 5) with
      | false =>
        have HN : Hid (ThrT g (ak, ai, ad, ar)) := fun h => absurd h (by simpa using hk5)
        have HBx : Hid (Below w0.heap.size w0 (wr.alloc (.cells #[.int .i64 ak, .int .i64 ai, .int .i64 ad, .bool ar] 28))) := bstep HB.out (made_below _ _ _)
        go_wp2_with fail
        go_roundw
        case rel => exact ⟨1, Or.inr (Or.inl ⟨rfl, by go_num⟩), HBx.out, (show _ → _ from fun _ => HN.out), (show _ → _ from fun h => absurd h (by omega)), (show _ → _ from fun h => absurd h (by omega))⟩
        case measure => simp [intOf]
      | true =>
        have HBx : Hid (Below w0.heap.size w0 (wr.alloc (.cells #[.int .i64 ak, .int .i64 ai, .int .i64 ad, .bool ar] 28))) := bstep HB.out (made_below _ _ _)
        obtain ⟨k0, k1, k2, k3⟩ := HC4.out _ HBx.out
        go_wp2_with fail
        refine Calls.mono (HTh.out _ ai HBx.out) ?_
        rintro e w5 ⟨rfl, hb5⟩
        have HB5 : Hid (Below w0.heap.size w0 w5) := bstep HBx.out hb5
        clear hb5 k0 k1 k2 k3 c0 c1 c2 c3
        cases hn : numB ai g.ts.length with
        | false =>
          clear hn
          go_wp2_with fail
          go_ret
          exact ⟨rfl, bstep HB0.out HB5.out⟩
        | true =>
          have HN : Hid (ThrT g (ak, ai, ad, ar)) := fun _ => hn
          clear hn
          go_wp2_with fail
          go_roundw
          case rel => exact ⟨1, Or.inr (Or.inl ⟨rfl, by go_num⟩), HB5.out, (show _ → _ from fun _ => HN.out), (show _ → _ from fun h => absurd h (by omega)), (show _ → _ from fun h => absurd h (by omega))⟩
          case measure => simp [intOf]
    · cases hk5 : (bk == 5) with
      | false =>
        have HN : Hid (ThrT g (bk, bi, bd, br)) := fun h => absurd h (by simpa using hk5)
        have HBx : Hid (Below w0.heap.size w0 (wr.alloc (.cells #[.int .i64 bk, .int .i64 bi, .int .i64 bd, .bool br] 28))) := bstep HB.out (made_below _ _ _)
        go_wp2_with fail
        go_roundw
        case rel => exact ⟨2, Or.inr (Or.inr (Or.inl ⟨rfl, by go_num⟩)), HBx.out, (show _ → _ from fun h => H0.out (by omega)), (show _ → _ from fun _ => HN.out), (show _ → _ from fun h => absurd h (by omega))⟩
        case measure => simp [intOf]
      | true =>
        have HBx : Hid (Below w0.heap.size w0 (wr.alloc (.cells #[.int .i64 bk, .int .i64 bi, .int .i64 bd, .bool br] 28))) := bstep HB.out (made_below _ _ _)
        obtain ⟨k0, k1, k2, k3⟩ := HC4.out _ HBx.out
        go_wp2_with fail
        refine Calls.mono (HTh.out _ bi HBx.out) ?_
        rintro e w5 ⟨rfl, hb5⟩
        have HB5 : Hid (Below w0.heap.size w0 w5) := bstep HBx.out hb5
        clear hb5 k0 k1 k2 k3 c0 c1 c2 c3
        cases hn : numB bi g.ts.length with
        | false =>
          clear hn
          go_wp2_with fail
          go_ret
          exact ⟨rfl, bstep HB0.out HB5.out⟩
        | true =>
          have HN : Hid (ThrT g (bk, bi, bd, br)) := fun _ => hn
          clear hn
          go_wp2_with fail
          go_roundw
          case rel => exact ⟨2, Or.inr (Or.inr (Or.inl ⟨rfl, by go_num⟩)), HB5.out, (show _ → _ from fun h => H0.out (by omega)), (show _ → _ from fun _ => HN.out), (show _ → _ from fun h => absurd h (by omega))⟩
          case measure => simp [intOf]
    · cases hk5 : (ck == 5) with
      | false =>
        have HN : Hid (ThrT g (ck, ci, cd, cr)) := fun h => absurd h (by simpa using hk5)
        have HBx : Hid (Below w0.heap.size w0 (wr.alloc (.cells #[.int .i64 ck, .int .i64 ci, .int .i64 cd, .bool cr] 28))) := bstep HB.out (made_below _ _ _)
        go_wp2_with fail
        go_roundw
        case rel => exact ⟨3, Or.inr (Or.inr (Or.inr ⟨rfl, by go_num⟩)), HBx.out, (show _ → _ from fun h => H0.out (by omega)), (show _ → _ from fun h => H1.out (by omega)), (show _ → _ from fun _ => HN.out)⟩
        case measure => simp [intOf]
      | true =>
        have HBx : Hid (Below w0.heap.size w0 (wr.alloc (.cells #[.int .i64 ck, .int .i64 ci, .int .i64 cd, .bool cr] 28))) := bstep HB.out (made_below _ _ _)
        obtain ⟨k0, k1, k2, k3⟩ := HC4.out _ HBx.out
        go_wp2_with fail
        refine Calls.mono (HTh.out _ ci HBx.out) ?_
        rintro e w5 ⟨rfl, hb5⟩
        have HB5 : Hid (Below w0.heap.size w0 w5) := bstep HBx.out hb5
        clear hb5 k0 k1 k2 k3 c0 c1 c2 c3
        cases hn : numB ci g.ts.length with
        | false =>
          clear hn
          go_wp2_with fail
          go_ret
          exact ⟨rfl, bstep HB0.out HB5.out⟩
        | true =>
          have HN : Hid (ThrT g (ck, ci, cd, cr)) := fun _ => hn
          clear hn
          go_wp2_with fail
          go_roundw
          case rel => exact ⟨3, Or.inr (Or.inr (Or.inr ⟨rfl, by go_num⟩)), HB5.out, (show _ → _ from fun h => H0.out (by omega)), (show _ → _ from fun h => H1.out (by omega)), (show _ → _ from fun _ => HN.out)⟩
          case measure => simp [intOf]
    · have HTa : Hid (ThrT g (ak, ai, ad, ar)) := H0.out (by omega)
      have HTb : Hid (ThrT g (bk, bi, bd, br)) := H1.out (by omega)
      have HTc : Hid (ThrT g (ck, ci, cd, cr)) := H2.out (by omega)
      clear H0 H1 H2
      clear c0 c1 c2 c3
      go_upto_region 11 with fail
      go_cut [7, 8, 9] (fun s7 s8 s9 wx => ∃ pa pb pc : Nat, s7 = .pointer (some ⟨pa, 0, none⟩) ∧ s8 = .pointer (some ⟨pb, 0, none⟩) ∧ s9 = .pointer (some ⟨pc, 0, none⟩) ∧ Hid (Below w0.heap.size w0 wx) ∧ Hid (∀ W, Below wx.heap.size wx W → Ty4 W pa (ak, ai, ad, ar) ∧ Ty4 W pb (bk, bi, bd, br) ∧ Ty4 W pc (ck, ci, cd, cr)))
      case first =>
        have hlt : w.heap.size + 1 < wr.heap.size := by
          have h1 := HB.out.size
          have h2 : w0.heap.size = w.heap.size + 2 := by rw [HW0.out]; simp
          omega
        obtain ⟨⟨d0, d1, d2, d3⟩, ⟨d4, d5, d6, d7⟩, ⟨d8, d9, d10, d11⟩⟩ := HCL.out wr HB.out
        have m1 : ∀ X o, (wr.alloc X).cell? ⟨w.heap.size + 1, o, none⟩ = wr.cell? ⟨w.heap.size + 1, o, none⟩ := fun X o => World.cell?_alloc_past X _ o hlt
        have m2 : ∀ X Y o, ((wr.alloc X).alloc Y).cell? ⟨w.heap.size + 1, o, none⟩ = wr.cell? ⟨w.heap.size + 1, o, none⟩ := fun X Y o => by rw [World.cell?_alloc_past Y _ o (by simp; omega), m1]
        have m3 : ∀ X Y Z o, (((wr.alloc X).alloc Y).alloc Z).cell? ⟨w.heap.size + 1, o, none⟩ = wr.cell? ⟨w.heap.size + 1, o, none⟩ := fun X Y Z o => by rw [World.cell?_alloc_past Z _ o (by simp; omega), m2]
        clear HTa HTb HTc HWl HTh HFt HC4 HCL HW0 HB0 HB1 HB2 HB3
        go_region
        all_goals go_wp2_with fail
        all_goals go_meet
        all_goals
          first
          | (obtain ⟨hb, h⟩ := three_boxes (w := wr) (a := (ak, ai, ad, ar)) (b := (bk, bi, bd, br)) (c := (ck, ci, cd, cr)) (n := 1) rfl; exact ⟨_, _, _, rfl, rfl, rfl, bstep HB.out hb, fun W hW => ⟨(h W hW).1, (h W hW).2.1, (h W hW).2.2⟩⟩)
          | (obtain ⟨hb, h⟩ := three_boxes (w := wr) (a := (ak, ai, ad, ar)) (b := (ck, ci, cd, cr)) (c := (bk, bi, bd, br)) (n := 1) rfl; exact ⟨_, _, _, rfl, rfl, rfl, bstep HB.out hb, fun W hW => ⟨(h W hW).1, (h W hW).2.2, (h W hW).2.1⟩⟩)
          | (obtain ⟨hb, h⟩ := three_boxes (w := wr) (a := (bk, bi, bd, br)) (b := (ak, ai, ad, ar)) (c := (ck, ci, cd, cr)) (n := 1) rfl; exact ⟨_, _, _, rfl, rfl, rfl, bstep HB.out hb, fun W hW => ⟨(h W hW).2.1, (h W hW).1, (h W hW).2.2⟩⟩)
          | (obtain ⟨hb, h⟩ := three_boxes (w := wr) (a := (bk, bi, bd, br)) (b := (ck, ci, cd, cr)) (c := (ak, ai, ad, ar)) (n := 1) rfl; exact ⟨_, _, _, rfl, rfl, rfl, bstep HB.out hb, fun W hW => ⟨(h W hW).2.2, (h W hW).1, (h W hW).2.1⟩⟩)
          | (obtain ⟨hb, h⟩ := three_boxes (w := wr) (a := (ck, ci, cd, cr)) (b := (ak, ai, ad, ar)) (c := (bk, bi, bd, br)) (n := 1) rfl; exact ⟨_, _, _, rfl, rfl, rfl, bstep HB.out hb, fun W hW => ⟨(h W hW).2.1, (h W hW).2.2, (h W hW).1⟩⟩)
          | (obtain ⟨hb, h⟩ := three_boxes (w := wr) (a := (ck, ci, cd, cr)) (b := (bk, bi, bd, br)) (c := (ak, ai, ad, ar)) (n := 1) rfl; exact ⟨_, _, _, rfl, rfl, rfl, bstep HB.out hb, fun W hW => ⟨(h W hW).2.2, (h W hW).2.1, (h W hW).1⟩⟩)
      case rest =>
      obtain ⟨pa, pb, pc, rfl, rfl, rfl, HBc, HTy⟩ := hcut
      have HX_wc : Hid (Below wc.heap.size wc wc) := Below.refl _ _
      have HFaa : Hid (∀ W, Below w0.heap.size w0 W → Ans 10 #[.agg #[.slice g.ta g.ts.length g.tc, .slice g.fa g.fs.length g.fc, .slice g.ma g.ms.length g.mc, .int .i64 g.en], .agg #[.int .i64 ak, .int .i64 ai, .int .i64 ad, .bool ar], .agg #[.int .i64 ak, .int .i64 ai, .int .i64 ad, .bool ar]] W (.bool (fitT g (ak, ai, ad, ar) (ak, ai, ad, ar)))) := fun W hW => HFt.out W (ak, ai, ad, ar) (ak, ai, ad, ar) hW HWl.out HTa.out
      have HFab : Hid (∀ W, Below w0.heap.size w0 W → Ans 10 #[.agg #[.slice g.ta g.ts.length g.tc, .slice g.fa g.fs.length g.fc, .slice g.ma g.ms.length g.mc, .int .i64 g.en], .agg #[.int .i64 ak, .int .i64 ai, .int .i64 ad, .bool ar], .agg #[.int .i64 bk, .int .i64 bi, .int .i64 bd, .bool br]] W (.bool (fitT g (ak, ai, ad, ar) (bk, bi, bd, br)))) := fun W hW => HFt.out W (ak, ai, ad, ar) (bk, bi, bd, br) hW HWl.out HTa.out
      have HFba : Hid (∀ W, Below w0.heap.size w0 W → Ans 10 #[.agg #[.slice g.ta g.ts.length g.tc, .slice g.fa g.fs.length g.fc, .slice g.ma g.ms.length g.mc, .int .i64 g.en], .agg #[.int .i64 bk, .int .i64 bi, .int .i64 bd, .bool br], .agg #[.int .i64 ak, .int .i64 ai, .int .i64 ad, .bool ar]] W (.bool (fitT g (bk, bi, bd, br) (ak, ai, ad, ar)))) := fun W hW => HFt.out W (bk, bi, bd, br) (ak, ai, ad, ar) hW HWl.out HTb.out
      have HFbc : Hid (∀ W, Below w0.heap.size w0 W → Ans 10 #[.agg #[.slice g.ta g.ts.length g.tc, .slice g.fa g.fs.length g.fc, .slice g.ma g.ms.length g.mc, .int .i64 g.en], .agg #[.int .i64 bk, .int .i64 bi, .int .i64 bd, .bool br], .agg #[.int .i64 ck, .int .i64 ci, .int .i64 cd, .bool cr]] W (.bool (fitT g (bk, bi, bd, br) (ck, ci, cd, cr)))) := fun W hW => HFt.out W (bk, bi, bd, br) (ck, ci, cd, cr) hW HWl.out HTb.out
      have HFac : Hid (∀ W, Below w0.heap.size w0 W → Ans 10 #[.agg #[.slice g.ta g.ts.length g.tc, .slice g.fa g.fs.length g.fc, .slice g.ma g.ms.length g.mc, .int .i64 g.en], .agg #[.int .i64 ak, .int .i64 ai, .int .i64 ad, .bool ar], .agg #[.int .i64 ck, .int .i64 ci, .int .i64 cd, .bool cr]] W (.bool (fitT g (ak, ai, ad, ar) (ck, ci, cd, cr)))) := fun W hW => HFt.out W (ak, ai, ad, ar) (ck, ci, cd, cr) hW HWl.out HTa.out
      have HAn2 : Hid _ := HAn.out HWl.out HTa.out HTb.out
      have HTr2 : Hid _ := HTr.out HWl.out
      clear HFt HAn HTr HTa HTb HTc HTh HCL HB HWl
      try simp only at HNa
      try simp only at HNb
      try simp only at hq
      try simp only at HAn2
      generalize fitT g (ak, ai, ad, ar) (bk, bi, bd, br) = fab at *
      generalize fitT g (bk, bi, bd, br) (ak, ai, ad, ar) = fba at *
      generalize fitT g (bk, bi, bd, br) (ck, ci, cd, cr) = fbc at *
      generalize fitT g (ak, ai, ad, ar) (ck, ci, cd, cr) = fac at *
      generalize decide ((ak, ai, ad, ar) = (bk, bi, bd, br)) = eab at *
      generalize (decide (ak = 8) || decide (ak = 4)) = na at *
      generalize (decide (bk = 8) || decide (bk = 4)) = nb at *
      rw [HAA.out] at HFaa
      obtain ⟨c0, c1, c2, c3⟩ := HC4.out wc HBc.out
      obtain ⟨⟨p0, p1, p2, p3⟩, ⟨q0, q1, q2, q3⟩, ⟨r0, r1, r2, r3⟩⟩ := HTy.out wc HX_wc.out
      simp only at p0 p1 p2 p3 q0 q1 q2 q3 r0 r1 r2 r3
      go_wp2_with fail
      refine Calls.mono (HFaa.out wc (bstep HBc.out HX_wc.out)) ?_
      rintro e x1 ⟨rfl, hb⟩
      have HX_x1 : Hid (Below wc.heap.size wc x1) := bstep HX_wc.out hb
      clear hb c0 c1 c2 c3 p0 p1 p2 p3 q0 q1 q2 q3 r0 r1 r2 r3
      obtain ⟨c0, c1, c2, c3⟩ := HC4.out x1 (bstep HBc.out HX_x1.out)
      obtain ⟨⟨p0, p1, p2, p3⟩, ⟨q0, q1, q2, q3⟩, ⟨r0, r1, r2, r3⟩⟩ := HTy.out x1 HX_x1.out
      go_wp2_with fail
      refine Calls.mono (HFab.out x1 (bstep HBc.out HX_x1.out)) ?_
      rintro e x2 ⟨rfl, hb⟩
      have HX_x2 : Hid (Below wc.heap.size wc x2) := bstep HX_x1.out hb
      clear hb c0 c1 c2 c3 p0 p1 p2 p3 q0 q1 q2 q3 r0 r1 r2 r3
      obtain ⟨c0, c1, c2, c3⟩ := HC4.out x2 (bstep HBc.out HX_x2.out)
      obtain ⟨⟨p0, p1, p2, p3⟩, ⟨q0, q1, q2, q3⟩, ⟨r0, r1, r2, r3⟩⟩ := HTy.out x2 HX_x2.out
      cases fab with
      | false =>
        go_wp2_with fail
        refine Calls.mono (HFab.out x2 (bstep HBc.out HX_x2.out)) ?_
        rintro e x3 ⟨rfl, hb⟩
        have HX_x3 : Hid (Below wc.heap.size wc x3) := bstep HX_x2.out hb
        clear hb c0 c1 c2 c3 p0 p1 p2 p3 q0 q1 q2 q3 r0 r1 r2 r3
        obtain ⟨c0, c1, c2, c3⟩ := HC4.out x3 (bstep HBc.out HX_x3.out)
        obtain ⟨⟨p0, p1, p2, p3⟩, ⟨q0, q1, q2, q3⟩, ⟨r0, r1, r2, r3⟩⟩ := HTy.out x3 HX_x3.out
        go_wp2_with fail
        go_ret
        exact ⟨rfl, bstep HB0.out (bstep HBc.out HX_x3.out)⟩
      | true =>
      go_wp2_with fail
      refine Calls.mono (HFba.out x2 (bstep HBc.out HX_x2.out)) ?_
      rintro e x4 ⟨rfl, hb⟩
      have HX_x4 : Hid (Below wc.heap.size wc x4) := bstep HX_x2.out hb
      clear hb c0 c1 c2 c3 p0 p1 p2 p3 q0 q1 q2 q3 r0 r1 r2 r3
      obtain ⟨c0, c1, c2, c3⟩ := HC4.out x4 (bstep HBc.out HX_x4.out)
      obtain ⟨⟨p0, p1, p2, p3⟩, ⟨q0, q1, q2, q3⟩, ⟨r0, r1, r2, r3⟩⟩ := HTy.out x4 HX_x4.out
      cases fba with
      | false =>
        go_wp2_with fail
        refine Calls.mono (HFab.out x4 (bstep HBc.out HX_x4.out)) ?_
        rintro e x5 ⟨rfl, hb⟩
        have HX_x5 : Hid (Below wc.heap.size wc x5) := bstep HX_x4.out hb
        clear hb c0 c1 c2 c3 p0 p1 p2 p3 q0 q1 q2 q3 r0 r1 r2 r3
        obtain ⟨c0, c1, c2, c3⟩ := HC4.out x5 (bstep HBc.out HX_x5.out)
        obtain ⟨⟨p0, p1, p2, p3⟩, ⟨q0, q1, q2, q3⟩, ⟨r0, r1, r2, r3⟩⟩ := HTy.out x5 HX_x5.out
        go_wp2_with fail
        refine Calls.mono (HFbc.out x5 (bstep HBc.out HX_x5.out)) ?_
        rintro e x6 ⟨rfl, hb⟩
        have HX_x6 : Hid (Below wc.heap.size wc x6) := bstep HX_x5.out hb
        clear hb c0 c1 c2 c3 p0 p1 p2 p3 q0 q1 q2 q3 r0 r1 r2 r3
        obtain ⟨c0, c1, c2, c3⟩ := HC4.out x6 (bstep HBc.out HX_x6.out)
        obtain ⟨⟨p0, p1, p2, p3⟩, ⟨q0, q1, q2, q3⟩, ⟨r0, r1, r2, r3⟩⟩ := HTy.out x6 HX_x6.out
        cases fbc with
        | false =>
          go_wp2_with fail
          go_ret
          exact ⟨rfl, bstep HB0.out (bstep HBc.out HX_x6.out)⟩
        | true =>
          have HT3 : Hid (fac = true) := HTr2.out (by trivial) (by trivial)
          go_wp2_with fail
          refine Calls.mono (HFac.out x6 (bstep HBc.out HX_x6.out)) ?_
          rintro e x7 ⟨rfl, hb⟩
          have HX_x7 : Hid (Below wc.heap.size wc x7) := bstep HX_x6.out hb
          clear hb c0 c1 c2 c3 p0 p1 p2 p3 q0 q1 q2 q3 r0 r1 r2 r3
          obtain ⟨c0, c1, c2, c3⟩ := HC4.out x7 (bstep HBc.out HX_x7.out)
          obtain ⟨⟨p0, p1, p2, p3⟩, ⟨q0, q1, q2, q3⟩, ⟨r0, r1, r2, r3⟩⟩ := HTy.out x7 HX_x7.out
          rw [HT3.out]
          go_wp2_with fail
          go_ret
          exact ⟨rfl, bstep HB0.out (bstep HBc.out HX_x7.out)⟩
      | true =>
      cases eab with
      | true =>
        go_wp2_with fail
        refine Calls.mono (HFab.out x4 (bstep HBc.out HX_x4.out)) ?_
        rintro e x8 ⟨rfl, hb⟩
        have HX_x8 : Hid (Below wc.heap.size wc x8) := bstep HX_x4.out hb
        clear hb c0 c1 c2 c3 p0 p1 p2 p3 q0 q1 q2 q3 r0 r1 r2 r3
        obtain ⟨c0, c1, c2, c3⟩ := HC4.out x8 (bstep HBc.out HX_x8.out)
        obtain ⟨⟨p0, p1, p2, p3⟩, ⟨q0, q1, q2, q3⟩, ⟨r0, r1, r2, r3⟩⟩ := HTy.out x8 HX_x8.out
        go_wp2_with fail
        refine Calls.mono (HFbc.out x8 (bstep HBc.out HX_x8.out)) ?_
        rintro e x9 ⟨rfl, hb⟩
        have HX_x9 : Hid (Below wc.heap.size wc x9) := bstep HX_x8.out hb
        clear hb c0 c1 c2 c3 p0 p1 p2 p3 q0 q1 q2 q3 r0 r1 r2 r3
        obtain ⟨c0, c1, c2, c3⟩ := HC4.out x9 (bstep HBc.out HX_x9.out)
        obtain ⟨⟨p0, p1, p2, p3⟩, ⟨q0, q1, q2, q3⟩, ⟨r0, r1, r2, r3⟩⟩ := HTy.out x9 HX_x9.out
        cases fbc with
        | false =>
          go_wp2_with fail
          go_ret
          exact ⟨rfl, bstep HB0.out (bstep HBc.out HX_x9.out)⟩
        | true =>
          have HT3 : Hid (fac = true) := HTr2.out (by trivial) (by trivial)
          go_wp2_with fail
          refine Calls.mono (HFac.out x9 (bstep HBc.out HX_x9.out)) ?_
          rintro e x10 ⟨rfl, hb⟩
          have HX_x10 : Hid (Below wc.heap.size wc x10) := bstep HX_x9.out hb
          clear hb c0 c1 c2 c3 p0 p1 p2 p3 q0 q1 q2 q3 r0 r1 r2 r3
          obtain ⟨c0, c1, c2, c3⟩ := HC4.out x10 (bstep HBc.out HX_x10.out)
          obtain ⟨⟨p0, p1, p2, p3⟩, ⟨q0, q1, q2, q3⟩, ⟨r0, r1, r2, r3⟩⟩ := HTy.out x10 HX_x10.out
          rw [HT3.out]
          go_wp2_with fail
          go_ret
          exact ⟨rfl, bstep HB0.out (bstep HBc.out HX_x10.out)⟩
      | false =>
      obtain ⟨hna, hnb⟩ := HAn2.out (by trivial) (by trivial) (by trivial)
      have HNA : Hid (na = true) := hna
      have HNB : Hid (nb = true) := hnb
      clear hna hnb
      go_wp2_with fail
      refine Calls.mono (HNa.out x4) ?_
      rintro e x11 ⟨rfl, hb⟩
      have HX_x11 : Hid (Below wc.heap.size wc x11) := bstep HX_x4.out hb
      clear hb c0 c1 c2 c3 p0 p1 p2 p3 q0 q1 q2 q3 r0 r1 r2 r3
      obtain ⟨c0, c1, c2, c3⟩ := HC4.out x11 (bstep HBc.out HX_x11.out)
      obtain ⟨⟨p0, p1, p2, p3⟩, ⟨q0, q1, q2, q3⟩, ⟨r0, r1, r2, r3⟩⟩ := HTy.out x11 HX_x11.out
      rw [HNA.out]
      go_wp2_with fail
      refine Calls.mono (HNb.out x11) ?_
      rintro e x12 ⟨rfl, hb⟩
      have HX_x12 : Hid (Below wc.heap.size wc x12) := bstep HX_x11.out hb
      clear hb c0 c1 c2 c3 p0 p1 p2 p3 q0 q1 q2 q3 r0 r1 r2 r3
      obtain ⟨c0, c1, c2, c3⟩ := HC4.out x12 (bstep HBc.out HX_x12.out)
      obtain ⟨⟨p0, p1, p2, p3⟩, ⟨q0, q1, q2, q3⟩, ⟨r0, r1, r2, r3⟩⟩ := HTy.out x12 HX_x12.out
      rw [HNB.out]
      go_wp2_with fail
      refine Calls.mono (HFab.out x12 (bstep HBc.out HX_x12.out)) ?_
      rintro e x13 ⟨rfl, hb⟩
      have HX_x13 : Hid (Below wc.heap.size wc x13) := bstep HX_x12.out hb
      clear hb c0 c1 c2 c3 p0 p1 p2 p3 q0 q1 q2 q3 r0 r1 r2 r3
      obtain ⟨c0, c1, c2, c3⟩ := HC4.out x13 (bstep HBc.out HX_x13.out)
      obtain ⟨⟨p0, p1, p2, p3⟩, ⟨q0, q1, q2, q3⟩, ⟨r0, r1, r2, r3⟩⟩ := HTy.out x13 HX_x13.out
      go_wp2_with fail
      refine Calls.mono (HFbc.out x13 (bstep HBc.out HX_x13.out)) ?_
      rintro e x14 ⟨rfl, hb⟩
      have HX_x14 : Hid (Below wc.heap.size wc x14) := bstep HX_x13.out hb
      clear hb c0 c1 c2 c3 p0 p1 p2 p3 q0 q1 q2 q3 r0 r1 r2 r3
      obtain ⟨c0, c1, c2, c3⟩ := HC4.out x14 (bstep HBc.out HX_x14.out)
      obtain ⟨⟨p0, p1, p2, p3⟩, ⟨q0, q1, q2, q3⟩, ⟨r0, r1, r2, r3⟩⟩ := HTy.out x14 HX_x14.out
      cases fbc with
      | false =>
        go_wp2_with fail
        go_ret
        exact ⟨rfl, bstep HB0.out (bstep HBc.out HX_x14.out)⟩
      | true =>
        have HT3 : Hid (fac = true) := HTr2.out (by trivial) (by trivial)
        go_wp2_with fail
        refine Calls.mono (HFac.out x14 (bstep HBc.out HX_x14.out)) ?_
        rintro e x15 ⟨rfl, hb⟩
        have HX_x15 : Hid (Below wc.heap.size wc x15) := bstep HX_x14.out hb
        clear hb c0 c1 c2 c3 p0 p1 p2 p3 q0 q1 q2 q3 r0 r1 r2 r3
        obtain ⟨c0, c1, c2, c3⟩ := HC4.out x15 (bstep HBc.out HX_x15.out)
        obtain ⟨⟨p0, p1, p2, p3⟩, ⟨q0, q1, q2, q3⟩, ⟨r0, r1, r2, r3⟩⟩ := HTy.out x15 HX_x15.out
        rw [HT3.out]
        go_wp2_with fail
        go_ret
        exact ⟨rfl, bstep HB0.out (bstep HBc.out HX_x15.out)⟩

end Go.Proofs.YtapocgcdjkbnhaaDoor
