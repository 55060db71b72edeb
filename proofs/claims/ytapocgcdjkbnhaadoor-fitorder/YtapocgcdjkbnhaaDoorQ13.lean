/- Texts joined: Mrg14, Law14, TakeH. -/
import Derived.Test.YtapocgcdjkbnhaaDoorQ12
import Derived.Test.YtapocgcdjkbnhaaDoorQ01
import Derived.Deep.RegionHeld3
namespace Go.Proofs.YtapocgcdjkbnhaaDoor
set_option linter.unusedVariables false
set_option linter.unusedSimpArgs false
open Go.RowKit
attribute [local go_sem ↓] Go.wp_at_zero Go.wp_at_succ
def mrgR (g : Img) (a b : Ty) : Ty × Int:=if noM a b = true then ((0,0,0,false),14) else (mrgT g a b,0)

set_option maxHeartbeats 8000000 in
theorem merge14_any {g : Img} {a b : Ty} {w : World} (hg : Im w g) (hi : imB g = true) (hd : Wd14 w) (ha : a.1 = 5 → Wf a.2.1) (hb : b.1 = 5 → Wf b.2.1) :
  Ans 12 #[imA4 g,.agg #[.int .i64 a.1,.int .i64 a.2.1,.int .i64 a.2.2.1,.bool a.2.2.2],.agg #[.int .i64 b.1,.int .i64 b.2.1,.int .i64 b.2.2.1,.bool b.2.2.2]] w (.tuple #[tv (mrgR g a b).1,.int .i64 (mrgR g a b).2]):=by
 obtain ⟨w0,HW0,HB0,HC,HI,HF⟩:=mrg_head hg a b
 have HOa : Hid (∀ W,Ans 15 #[.agg #[.int .i64 a.1,.int .i64 a.2.1,.int .i64 a.2.2.1,.bool a.2.2.2]] W (.bool (objT a))):=fun W => object14_any a W
 have HOb : Hid (∀ W,Ans 15 #[.agg #[.int .i64 b.1,.int .i64 b.2.1,.int .i64 b.2.2.1,.bool b.2.2.2]] W (.bool (objT b))):=fun W => object14_any b W
 have HIa : Hid (∀ W,Ans 17 #[.agg #[.int .i64 a.1,.int .i64 a.2.1,.int .i64 a.2.2.1,.bool a.2.2.2],.int .i64 7] W (.bool (isT a 7))):=fun W => is14_any a 7 W
 have HIb : Hid (∀ W,Ans 17 #[.agg #[.int .i64 b.1,.int .i64 b.2.1,.int .i64 b.2.2.1,.bool b.2.2.2],.int .i64 7] W (.bool (isT b 7))):=fun W => is14_any b 7 W
 have HFba : Hid (∀ W,Below w0.heap.size w0 W → Ans 10 #[imA4 g,.agg #[.int .i64 b.1,.int .i64 b.2.1,.int .i64 b.2.2.1,.bool b.2.2.2],.agg #[.int .i64 a.1,.int .i64 a.2.1,.int .i64 a.2.2.1,.bool a.2.2.2]] W (.bool (fitT g b a))):=fun W hW => fits14_any (HI.out W hW) hi ((hd.later HB0.out).later hW) hb
 have HFab : Hid (∀ W,Below w0.heap.size w0 W → Ans 10 #[imA4 g,.agg #[.int .i64 a.1,.int .i64 a.2.1,.int .i64 a.2.2.1,.bool a.2.2.2],.agg #[.int .i64 b.1,.int .i64 b.2.1,.int .i64 b.2.2.1,.bool b.2.2.2]] W (.bool (fitT g a b))):=fun W hW => fits14_any (HI.out W hW) hi ((hd.later HB0.out).later hW) ha
 have HCa : Hid (∀ W,Below w0.heap.size w0 W → Ans 19 #[imA4 g,.agg #[.int .i64 a.1,.int .i64 a.2.1,.int .i64 a.2.2.1,.bool a.2.2.2]] W (.bool (clsT g a))):=fun W hW => isClass14_any a (HI.out W hW) hi
 have HCb : Hid (∀ W,Below w0.heap.size w0 W → Ans 19 #[imA4 g,.agg #[.int .i64 b.1,.int .i64 b.2.1,.int .i64 b.2.2.1,.bool b.2.2.2]] W (.bool (clsT g b))):=fun W hW => isClass14_any b (HI.out W hW) hi
 have hcl : ∀ {t : Ty},clsT g t = true → t.1 = 5:=fun h => by
  unfold clsT at h
  rw [Bool.and_eq_true] at h
  exact (isT_iff.1 h.1).1
 have HCo : Hid (∀ W,Below w0.heap.size w0 W → clsT g a = true → clsT g b = true → Ans 20 #[imA4 g,.agg #[.int .i64 a.1,.int .i64 a.2.1,.int .i64 a.2.2.1,.bool a.2.2.2],.agg #[.int .i64 b.1,.int .i64 b.2.1,.int .i64 b.2.2.1,.bool b.2.2.2]] W (tv (comT g a b))):=fun W hW h1 h2 => common14_any (HI.out W hW) hi ((hd.later HB0.out).later hW) (ha (hcl h1)) (hb (hcl h2))
 have HD : Hid (∀ W,Below w0.heap.size w0 W → (W.cell? ⟨0,0,none⟩ = some (.int .i64 7)∧W.cell? ⟨0,1,none⟩ = some (.int .i64 0)∧W.cell? ⟨0,2,none⟩ = some (.int .i64 0)∧W.cell? ⟨0,3,none⟩ = some (.bool false))∧(W.cell? ⟨1,0,none⟩ = some (.int .i64 4)∧W.cell? ⟨1,1,none⟩ = some (.int .i64 0)∧W.cell? ⟨1,2,none⟩ = some (.int .i64 0)∧W.cell? ⟨1,3,none⟩ = some (.bool false))):=fun W hW => ((hd.later HB0.out).later hW).2
 have HT : Hid (decide (a = b) = true → fitT g b a = true):=fun h => by rw [of_decide_eq_true h]; exact fit_self g b
 have R0 : Hid (decide (a = b) = false → (objT a && objT b) = false → mrgR g a b = ((0,0,0,false),14)):=fun h1 h2 => by
  unfold mrgR noM
  rw [h1,← Bool.not_and,h2]; rfl
 have hno : (decide (a = b) || (objT a && objT b)) = true → mrgR g a b = (mrgT g a b,0):=fun h => by
  unfold mrgR
  rw [if_neg]
  unfold noM
  rw [← Bool.not_and,← Bool.not_or,h]; simp
 have R1 : Hid ((decide (a = b) || (objT a && objT b)) = true → fitT g b a = true → mrgR g a b = (a,0)):=fun h h1 => by
  rw [hno h]; unfold mrgT; rw [if_pos h1]
 have R2 : Hid ((decide (a = b) || (objT a && objT b)) = true → fitT g b a = false → fitT g a b = true → mrgR g a b = (b,0)):=fun h h1 h2 => by
  rw [hno h]; unfold mrgT; rw [h1,if_neg (by decide),if_pos h2]
 have R3 : Hid ((decide (a = b) || (objT a && objT b)) = true → fitT g b a = false → fitT g a b = false → (isT a 7 && isT b 7) = true → mrgR g a b = ((7,0,0,false),0)):=fun h h1 h2 h3 => by
  rw [hno h]; unfold mrgT; rw [h1,if_neg (by decide),h2,if_neg (by decide),if_pos h3]
 have R4 : Hid ((decide (a = b) || (objT a && objT b)) = true → fitT g b a = false → fitT g a b = false → (isT a 7 && isT b 7) = false → (clsT g a && clsT g b) = true → mrgR g a b = (comT g a b,0)):=fun h h1 h2 h3 h4 => by
  rw [hno h]; unfold mrgT; rw [h1,if_neg (by decide),h2,if_neg (by decide),h3,if_neg (by decide),if_pos h4]
 have R5 : Hid ((decide (a = b) || (objT a && objT b)) = true → fitT g b a = false → fitT g a b = false → (isT a 7 && isT b 7) = false → (clsT g a && clsT g b) = false → mrgR g a b = ((4,0,0,false),0)):=fun h h1 h2 h3 h4 => by
  rw [hno h]; unfold mrgT; rw [h1,if_neg (by decide),h2,if_neg (by decide),h3,if_neg (by decide),h4,if_neg (by decide)]
 have hq : ∀ W : World,(binOp .neq 28 (.agg #[.int .i64 a.1,.int .i64 a.2.1,.int .i64 a.2.2.1,.bool a.2.2.2]) (.agg #[.int .i64 b.1,.int .i64 b.2.1,.int .i64 b.2.2.1,.bool b.2.2.2])).run Tryd.prog W = .ok (.bool (!decide (a = b))) W:=fun W => neq_ty2 W a b
 obtain ⟨⟨c0,c1,c2,c3⟩,⟨d0,d1,d2,d3⟩,⟨e0,e1,e2,e3⟩⟩:=HC.out w0 (Below.refl _ _)
 unfold imA4 at HFba HFab HCa HCb HCo ⊢
 unfold Im4 Ty4 at HC
 unfold tv at HCo ⊢
 clear hg hi hd ha hb HI hcl hno
 generalize mrgR g a b = R at *
 generalize decide (a = b) = ab at *
 generalize objT a = oa at *
 generalize objT b = ob at *
 generalize isT a 7 = a7 at *
 generalize isT b 7 = b7 at *
 generalize clsT g a = ca at *
 generalize clsT g b = cb at *
 generalize fitT g a b = fab at *
 generalize fitT g b a = fba at *
 generalize comT g a b = cm at *
 obtain ⟨ak,ai,ad,ar⟩:=a
 obtain ⟨bk,bi,bd,br⟩:=b
 obtain ⟨mk,mi,md,mr⟩:=cm
 simp only at HW0 HOa HOb HIa HIb HFba HFab HCa HCb HCo HC hq d0 d1 d2 d3 e0 e1 e2 e3 ⊢
 go_enter Tryd.func12,Tryd.ntmps12
 cases ab with
 | true =>
  have HT2 : Hid _:=HT.out (by trivial)
  go_wp2_with (rw [← HW0.out])
  refine Calls.mono (HFba.out w0 (Below.refl _ _)) ?_
  rintro e w1 ⟨rfl,hb⟩
  have HB_w1 : Hid (Below w0.heap.size w0 w1):=hb
  clear hb c0 c1 c2 c3 d0 d1 d2 d3 e0 e1 e2 e3
  obtain ⟨⟨c0,c1,c2,c3⟩,⟨d0,d1,d2,d3⟩,⟨e0,e1,e2,e3⟩⟩:=HC.out w1 HB_w1.out
  rw [HT2.out]
  have HR : Hid (R = _):=R1.out (by trivial) HT2.out
  obtain ⟨x0,xm,HFc,hbf⟩:=HF.out w1 (.int .i64 ak) (.int .i64 ai) (.int .i64 ad) (.bool ar) HB_w1.out
  have HBf : Hid _:=hbf
  clear hbf R0 R1 R2 R3 R4 R5
  go_wp2_with (fail)
  exact bodyPost_ret (v := .tuple #[.agg #[.int .i64 ak,.int .i64 ai,.int .i64 ad,.bool ar],.int .i64 0]) (by simp [results,Tryd.results12,go_sem,HFc]) rfl ⟨by rw [HR.out],HBf.out⟩
 | false =>
 go_wp2_with (rw [← HW0.out])
 refine Calls.mono (HOa.out w0) ?_
 rintro e w2 ⟨rfl,hb⟩
 have HB_w2 : Hid (Below w0.heap.size w0 w2):=hb
 clear hb c0 c1 c2 c3 d0 d1 d2 d3 e0 e1 e2 e3
 obtain ⟨⟨c0,c1,c2,c3⟩,⟨d0,d1,d2,d3⟩,⟨e0,e1,e2,e3⟩⟩:=HC.out w2 HB_w2.out
 cases oa with
 | false =>
  have HR : Hid (R = _):=R0.out (by trivial) (by trivial)
  obtain ⟨x0,xm,HFc,hbf⟩:=HF.out w2 (.int .i64 0) (.int .i64 0) (.int .i64 0) (.bool false) HB_w2.out
  have HBf : Hid _:=hbf
  clear hbf R0 R1 R2 R3 R4 R5
  go_wp2_with (fail)
  exact bodyPost_ret (v := .tuple #[.agg #[.int .i64 0,.int .i64 0,.int .i64 0,.bool false],.int .i64 14]) (by simp [results,Tryd.results12,go_sem,HFc]) rfl ⟨by rw [HR.out],HBf.out⟩
 | true =>
 go_wp2_with (fail)
 refine Calls.mono (HOb.out w2) ?_
 rintro e w3 ⟨rfl,hb⟩
 have HB_w3 : Hid (Below w0.heap.size w0 w3):=bstep HB_w2.out hb
 clear hb c0 c1 c2 c3 d0 d1 d2 d3 e0 e1 e2 e3
 obtain ⟨⟨c0,c1,c2,c3⟩,⟨d0,d1,d2,d3⟩,⟨e0,e1,e2,e3⟩⟩:=HC.out w3 HB_w3.out
 cases ob with
 | false =>
  have HR : Hid (R = _):=R0.out (by trivial) (by trivial)
  obtain ⟨x0,xm,HFc,hbf⟩:=HF.out w3 (.int .i64 0) (.int .i64 0) (.int .i64 0) (.bool false) HB_w3.out
  have HBf : Hid _:=hbf
  clear hbf R0 R1 R2 R3 R4 R5
  go_wp2_with (fail)
  exact bodyPost_ret (v := .tuple #[.agg #[.int .i64 0,.int .i64 0,.int .i64 0,.bool false],.int .i64 14]) (by simp [results,Tryd.results12,go_sem,HFc]) rfl ⟨by rw [HR.out],HBf.out⟩
 | true =>
 go_wp2_with (fail)
 refine Calls.mono (HFba.out w3 HB_w3.out) ?_
 rintro e w4 ⟨rfl,hb⟩
 have HB_w4 : Hid (Below w0.heap.size w0 w4):=bstep HB_w3.out hb
 clear hb c0 c1 c2 c3 d0 d1 d2 d3 e0 e1 e2 e3
 obtain ⟨⟨c0,c1,c2,c3⟩,⟨d0,d1,d2,d3⟩,⟨e0,e1,e2,e3⟩⟩:=HC.out w4 HB_w4.out
 cases fba with
 | true =>
  have HR : Hid (R = _):=R1.out (by trivial) (by trivial)
  obtain ⟨x0,xm,HFc,hbf⟩:=HF.out w4 (.int .i64 ak) (.int .i64 ai) (.int .i64 ad) (.bool ar) HB_w4.out
  have HBf : Hid _:=hbf
  clear hbf R0 R1 R2 R3 R4 R5
  go_wp2_with (fail)
  exact bodyPost_ret (v := .tuple #[.agg #[.int .i64 ak,.int .i64 ai,.int .i64 ad,.bool ar],.int .i64 0]) (by simp [results,Tryd.results12,go_sem,HFc]) rfl ⟨by rw [HR.out],HBf.out⟩
 | false =>
 go_wp2_with (fail)
 refine Calls.mono (HFab.out w4 HB_w4.out) ?_
 rintro e w5 ⟨rfl,hb⟩
 have HB_w5 : Hid (Below w0.heap.size w0 w5):=bstep HB_w4.out hb
 clear hb c0 c1 c2 c3 d0 d1 d2 d3 e0 e1 e2 e3
 obtain ⟨⟨c0,c1,c2,c3⟩,⟨d0,d1,d2,d3⟩,⟨e0,e1,e2,e3⟩⟩:=HC.out w5 HB_w5.out
 cases fab with
 | true =>
  have HR : Hid (R = _):=R2.out (by trivial) (by trivial) (by trivial)
  obtain ⟨x0,xm,HFc,hbf⟩:=HF.out w5 (.int .i64 bk) (.int .i64 bi) (.int .i64 bd) (.bool br) HB_w5.out
  have HBf : Hid _:=hbf
  clear hbf R0 R1 R2 R3 R4 R5
  go_wp2_with (fail)
  exact bodyPost_ret (v := .tuple #[.agg #[.int .i64 bk,.int .i64 bi,.int .i64 bd,.bool br],.int .i64 0]) (by simp [results,Tryd.results12,go_sem,HFc]) rfl ⟨by rw [HR.out],HBf.out⟩
 | false =>
 go_wp2_with (fail)
 refine Calls.mono (HIa.out w5) ?_
 rintro e w6 ⟨rfl,hb⟩
 have HB_w6 : Hid (Below w0.heap.size w0 w6):=bstep HB_w5.out hb
 clear hb c0 c1 c2 c3 d0 d1 d2 d3 e0 e1 e2 e3
 obtain ⟨⟨c0,c1,c2,c3⟩,⟨d0,d1,d2,d3⟩,⟨e0,e1,e2,e3⟩⟩:=HC.out w6 HB_w6.out
 cases a7 with
 | false =>
  go_wp2_with (fail)
  refine Calls.mono (HCa.out w6 HB_w6.out) ?_
  rintro e w7 ⟨rfl,hb⟩
  have HB_w7 : Hid (Below w0.heap.size w0 w7):=bstep HB_w6.out hb
  clear hb c0 c1 c2 c3 d0 d1 d2 d3 e0 e1 e2 e3
  obtain ⟨⟨c0,c1,c2,c3⟩,⟨d0,d1,d2,d3⟩,⟨e0,e1,e2,e3⟩⟩:=HC.out w7 HB_w7.out
  cases ca with
  | false =>
   have HR : Hid (R = _):=R5.out (by trivial) (by trivial) (by trivial) (by trivial) (by trivial)
   obtain ⟨x0,xm,HFc,hbf⟩:=HF.out w7 (.int .i64 4) (.int .i64 0) (.int .i64 0) (.bool false) HB_w7.out
   have HBf : Hid _:=hbf
   clear hbf R0 R1 R2 R3 R4 R5
   obtain ⟨⟨f0,f1,f2,f3⟩,⟨k0,k1,k2,k3⟩⟩:=HD.out w7 HB_w7.out
   go_wp2_with (fail)
   exact bodyPost_ret (v := .tuple #[.agg #[.int .i64 4,.int .i64 0,.int .i64 0,.bool false],.int .i64 0]) (by simp [results,Tryd.results12,go_sem,HFc]) rfl ⟨by rw [HR.out],HBf.out⟩
  | true =>
  go_wp2_with (fail)
  refine Calls.mono (HCb.out w7 HB_w7.out) ?_
  rintro e w8 ⟨rfl,hb⟩
  have HB_w8 : Hid (Below w0.heap.size w0 w8):=bstep HB_w7.out hb
  clear hb c0 c1 c2 c3 d0 d1 d2 d3 e0 e1 e2 e3
  obtain ⟨⟨c0,c1,c2,c3⟩,⟨d0,d1,d2,d3⟩,⟨e0,e1,e2,e3⟩⟩:=HC.out w8 HB_w8.out
  cases cb with
  | false =>
   have HR : Hid (R = _):=R5.out (by trivial) (by trivial) (by trivial) (by trivial) (by trivial)
   obtain ⟨x0,xm,HFc,hbf⟩:=HF.out w8 (.int .i64 4) (.int .i64 0) (.int .i64 0) (.bool false) HB_w8.out
   have HBf : Hid _:=hbf
   clear hbf R0 R1 R2 R3 R4 R5
   obtain ⟨⟨f0,f1,f2,f3⟩,⟨k0,k1,k2,k3⟩⟩:=HD.out w8 HB_w8.out
   go_wp2_with (fail)
   exact bodyPost_ret (v := .tuple #[.agg #[.int .i64 4,.int .i64 0,.int .i64 0,.bool false],.int .i64 0]) (by simp [results,Tryd.results12,go_sem,HFc]) rfl ⟨by rw [HR.out],HBf.out⟩
  | true =>
  go_wp2_with (fail)
  refine Calls.mono (HCo.out w8 HB_w8.out (by trivial) (by trivial)) ?_
  rintro e w9 ⟨rfl,hb⟩
  have HB_w9 : Hid (Below w0.heap.size w0 w9):=bstep HB_w8.out hb
  clear hb c0 c1 c2 c3 d0 d1 d2 d3 e0 e1 e2 e3
  obtain ⟨⟨c0,c1,c2,c3⟩,⟨d0,d1,d2,d3⟩,⟨e0,e1,e2,e3⟩⟩:=HC.out w9 HB_w9.out
  have HR : Hid (R = _):=R4.out (by trivial) (by trivial) (by trivial) (by trivial) (by trivial)
  obtain ⟨x0,xm,HFc,hbf⟩:=HF.out w9 (.int .i64 mk) (.int .i64 mi) (.int .i64 md) (.bool mr) HB_w9.out
  have HBf : Hid _:=hbf
  clear hbf R0 R1 R2 R3 R4 R5
  go_wp2_with (fail)
  exact bodyPost_ret (v := .tuple #[.agg #[.int .i64 mk,.int .i64 mi,.int .i64 md,.bool mr],.int .i64 0]) (by simp [results,Tryd.results12,go_sem,HFc]) rfl ⟨by rw [HR.out],HBf.out⟩
 | true =>
 go_wp2_with (fail)
 refine Calls.mono (HIb.out w6) ?_
 rintro e w10 ⟨rfl,hb⟩
 have HB_w10 : Hid (Below w0.heap.size w0 w10):=bstep HB_w6.out hb
 clear hb c0 c1 c2 c3 d0 d1 d2 d3 e0 e1 e2 e3
 obtain ⟨⟨c0,c1,c2,c3⟩,⟨d0,d1,d2,d3⟩,⟨e0,e1,e2,e3⟩⟩:=HC.out w10 HB_w10.out
 cases b7 with
 | true =>
  have HR : Hid (R = _):=R3.out (by trivial) (by trivial) (by trivial) (by trivial)
  obtain ⟨x0,xm,HFc,hbf⟩:=HF.out w10 (.int .i64 7) (.int .i64 0) (.int .i64 0) (.bool false) HB_w10.out
  have HBf : Hid _:=hbf
  clear hbf R0 R1 R2 R3 R4 R5
  obtain ⟨⟨f0,f1,f2,f3⟩,⟨k0,k1,k2,k3⟩⟩:=HD.out w10 HB_w10.out
  go_wp2_with (fail)
  exact bodyPost_ret (v := .tuple #[.agg #[.int .i64 7,.int .i64 0,.int .i64 0,.bool false],.int .i64 0]) (by simp [results,Tryd.results12,go_sem,HFc]) rfl ⟨by rw [HR.out],HBf.out⟩
 | false =>
 go_wp2_with (fail)
 refine Calls.mono (HCa.out w10 HB_w10.out) ?_
 rintro e w11 ⟨rfl,hb⟩
 have HB_w11 : Hid (Below w0.heap.size w0 w11):=bstep HB_w10.out hb
 clear hb c0 c1 c2 c3 d0 d1 d2 d3 e0 e1 e2 e3
 obtain ⟨⟨c0,c1,c2,c3⟩,⟨d0,d1,d2,d3⟩,⟨e0,e1,e2,e3⟩⟩:=HC.out w11 HB_w11.out
 cases ca with
 | false =>
  have HR : Hid (R = _):=R5.out (by trivial) (by trivial) (by trivial) (by trivial) (by trivial)
  obtain ⟨x0,xm,HFc,hbf⟩:=HF.out w11 (.int .i64 4) (.int .i64 0) (.int .i64 0) (.bool false) HB_w11.out
  have HBf : Hid _:=hbf
  clear hbf R0 R1 R2 R3 R4 R5
  obtain ⟨⟨f0,f1,f2,f3⟩,⟨k0,k1,k2,k3⟩⟩:=HD.out w11 HB_w11.out
  go_wp2_with (fail)
  exact bodyPost_ret (v := .tuple #[.agg #[.int .i64 4,.int .i64 0,.int .i64 0,.bool false],.int .i64 0]) (by simp [results,Tryd.results12,go_sem,HFc]) rfl ⟨by rw [HR.out],HBf.out⟩
 | true =>
 go_wp2_with (fail)
 refine Calls.mono (HCb.out w11 HB_w11.out) ?_
 rintro e w12 ⟨rfl,hb⟩
 have HB_w12 : Hid (Below w0.heap.size w0 w12):=bstep HB_w11.out hb
 clear hb c0 c1 c2 c3 d0 d1 d2 d3 e0 e1 e2 e3
 obtain ⟨⟨c0,c1,c2,c3⟩,⟨d0,d1,d2,d3⟩,⟨e0,e1,e2,e3⟩⟩:=HC.out w12 HB_w12.out
 cases cb with
 | false =>
  have HR : Hid (R = _):=R5.out (by trivial) (by trivial) (by trivial) (by trivial) (by trivial)
  obtain ⟨x0,xm,HFc,hbf⟩:=HF.out w12 (.int .i64 4) (.int .i64 0) (.int .i64 0) (.bool false) HB_w12.out
  have HBf : Hid _:=hbf
  clear hbf R0 R1 R2 R3 R4 R5
  obtain ⟨⟨f0,f1,f2,f3⟩,⟨k0,k1,k2,k3⟩⟩:=HD.out w12 HB_w12.out
  go_wp2_with (fail)
  exact bodyPost_ret (v := .tuple #[.agg #[.int .i64 4,.int .i64 0,.int .i64 0,.bool false],.int .i64 0]) (by simp [results,Tryd.results12,go_sem,HFc]) rfl ⟨by rw [HR.out],HBf.out⟩
 | true =>
 go_wp2_with (fail)
 refine Calls.mono (HCo.out w12 HB_w12.out (by trivial) (by trivial)) ?_
 rintro e w13 ⟨rfl,hb⟩
 have HB_w13 : Hid (Below w0.heap.size w0 w13):=bstep HB_w12.out hb
 clear hb c0 c1 c2 c3 d0 d1 d2 d3 e0 e1 e2 e3
 obtain ⟨⟨c0,c1,c2,c3⟩,⟨d0,d1,d2,d3⟩,⟨e0,e1,e2,e3⟩⟩:=HC.out w13 HB_w13.out
 have HR : Hid (R = _):=R4.out (by trivial) (by trivial) (by trivial) (by trivial) (by trivial)
 obtain ⟨x0,xm,HFc,hbf⟩:=HF.out w13 (.int .i64 mk) (.int .i64 mi) (.int .i64 md) (.bool mr) HB_w13.out
 have HBf : Hid _:=hbf
 clear hbf R0 R1 R2 R3 R4 R5
 go_wp2_with (fail)
 exact bodyPost_ret (v := .tuple #[.agg #[.int .i64 mk,.int .i64 mi,.int .i64 md,.bool mr],.int .i64 0]) (by simp [results,Tryd.results12,go_sem,HFc]) rfl ⟨by rw [HR.out],HBf.out⟩
def gA1 (a : Option Addr) : Img:=⟨a,1,[⟨⟨#[65]⟩,0, -1,none,0,[]⟩],none,0,[],none,0,[], -1⟩
theorem gA1_im (a : Option Addr) : imB (gA1 a) = true:=by kernel_rfl
theorem gA1_agg (a : Option Addr) : imA4 (gA1 a) = .agg #[.slice a 1 1,.slice none 0 0,.slice none 0 0,.int .i64 (-1)]:=by kernel_rfl
theorem gA1_made {w w1 : World} (h : w1 = w.alloc (.cells #[.string ⟨#[65]⟩,.int .i64 0,.int .i64 (-1),.slice none 0 0] 42)) : Below w.heap.size w w1∧Im w1 (gA1 (some ⟨w.heap.size,0,none⟩)):=by
 subst h
 refine ⟨made_below _ _ _, ?_,fun x hx => ?_,Es.nil _ _,Es.nil _ _,fun x hx => absurd hx (by simp [gA1])⟩
 ·exact (OwnE.lit tdE w 0 42 [⟨⟨#[65]⟩,0, -1,none,0,[]⟩] _ 1 (Nat.zero_le _) rfl rfl (by simp [maxLen])).es
 ·simp only [gA1,List.mem_cons,List.not_mem_nil,or_false] at hx
  rcases hx with rfl
  exact Es.nil _ _

set_option maxHeartbeats 4000000 in
theorem wakes14_any {w : World} (hd : Wd14 w) : Ans 6 #[] w (.bool true):=by
 obtain ⟨w1,hw1⟩ : ∃ W,W = w.alloc (.cells #[.string ⟨#[65]⟩,.int .i64 0,.int .i64 (-1),.slice none 0 0] 42):=⟨_,rfl⟩
 obtain ⟨hb1,hi1⟩:=gA1_made hw1
 obtain ⟨w2,hw2⟩ : ∃ W,W = w1.alloc (.cells #[.slice (some ⟨w.heap.size,0,none⟩) 1 1,.slice none 0 0,.slice none 0 0,.int .i64 (-1)] 26):=⟨_,rfl⟩
 have hb2 : Below w1.heap.size w1 w2:=by rw [hw2]; exact made_below _ _ _
 have hbx : At w2 w1.heap.size #[.slice (some ⟨w.heap.size,0,none⟩) 1 1,.slice none 0 0,.slice none 0 0,.int .i64 (-1)] 26:=by rw [hw2]; exact At.made _ _ _
 have HB2 : Hid (Below w.heap.size w w2):=bstep hb1 hb2
 have HBx : Hid (∀ W,Below w2.heap.size w2 W → At W w1.heap.size #[.slice (some ⟨w.heap.size,0,none⟩) 1 1,.slice none 0 0,.slice none 0 0,.int .i64 (-1)] 26):=fun W hW => hbx.later hW
 have HMe : Hid (Ans 12 #[.agg #[.slice (some ⟨w.heap.size,0,none⟩) 1 1,.slice none 0 0,.slice none 0 0,.int .i64 (-1)],.agg #[.int .i64 2,.int .i64 0,.int .i64 0,.bool false],.agg #[.int .i64 3,.int .i64 0,.int .i64 0,.bool false]] w2 (.tuple #[.agg #[.int .i64 0,.int .i64 0,.int .i64 0,.bool false],.int .i64 14])):=by
  have:=merge14_any (a:=(2,0,0,false)) (b:=(3,0,0,false)) (hi1.later hb2) (gA1_im _) (hd.later HB2.out) (fun h => absurd h (by decide)) (fun h => absurd h (by decide))
  rw [gA1_agg,show mrgR (gA1 (some ⟨w.heap.size,0,none⟩)) (2,0,0,false) (3,0,0,false) = ((0,0,0,false),14) from by unfold mrgR; rw [if_pos (by decide)]] at this
  exact this
 have HFi : Hid (∀ W,Below w2.heap.size w2 W → Ans 10 #[.agg #[.slice (some ⟨w.heap.size,0,none⟩) 1 1,.slice none 0 0,.slice none 0 0,.int .i64 (-1)],.agg #[.int .i64 8,.int .i64 0,.int .i64 0,.bool false],.agg #[.int .i64 5,.int .i64 0,.int .i64 0,.bool false]] W (.bool true)):=fun W hW => by
  have:=fits14_any (a:=(8,0,0,false)) (b:=(5,0,0,false)) ((hi1.later hb2).later hW) (gA1_im _) ((hd.later HB2.out).later hW) (fun h => absurd h (by decide))
  rw [gA1_agg,show fitT (gA1 (some ⟨w.heap.size,0,none⟩)) (8,0,0,false) (5,0,0,false) = true from fit_iff.2 (Or.inr ⟨by decide,by decide,Or.inl (Or.inl (by decide))⟩)] at this
  exact this
 have HOb : Hid (∀ W,Ans 15 #[.agg #[.int .i64 2,.int .i64 0,.int .i64 0,.bool false]] W (.bool false)):=fun W => object14_any (2,0,0,false) W
 have HW1 : Hid (w1 = _):=hw1
 have HW2 : Hid (w2 = _):=hw2
 have x2:=hbx.cell
 clear hw1 hw2 hb1 hb2 hi1 hbx hd
 go_enter Tryd.func6,Tryd.ntmps6
 go_wp2_with (first | (rw [← HW2.out]) | (rw [← HW1.out]))
 refine Calls.mono HMe.out ?_
 rintro e w3 ⟨rfl,hb3⟩
 obtain ⟨w4,hw4⟩ : ∃ W,W = w3.alloc (.cells #[.int .i64 0,.int .i64 0,.int .i64 0,.bool false] 28):=⟨_,rfl⟩
 have HB4 : Hid (Below w2.heap.size w2 w4):=bstep hb3 (by rw [hw4]; exact made_below _ _ _)
 have x3:=(HBx.out w3 hb3).cell
 have x4:=(HBx.out w4 HB4.out).cell
 rw [hw4] at x4
 have HW4 : Hid (w4 = _):=hw4
 clear x2 hb3 hw4
 go_wp2_with fail
 rw [← HW4.out]
 refine Calls.mono (HFi.out w4 HB4.out) ?_
 rintro e w5 ⟨rfl,hb5⟩
 have HB5 : Hid (Below w2.heap.size w2 w5):=bstep HB4.out hb5
 clear x4 hb5
 go_wp2_with fail
 refine Calls.mono (HOb.out w5) ?_
 rintro e w6 ⟨rfl,hb6⟩
 have HB6 : Hid (Below w2.heap.size w2 w6):=bstep HB5.out hb6
 clear hb6
 go_wp2_with fail
 go_ret
 exact ⟨rfl,bstep HB2.out HB6.out⟩

set_option maxHeartbeats 1000000 in
theorem null14_any (t : Ty) (w : World) : Ans 11 #[.agg #[.int .i64 t.1,.int .i64 t.2.1,.int .i64 t.2.2.1,.bool t.2.2.2]] w (.bool (decide (t.1 = 8) || decide (t.1 = 4))):=by
 go_enter Tryd.func11,Tryd.ntmps11
 go_wp2
 all_goals go_ret
 all_goals refine ⟨ret_bool ?_,(Below.refl _ _).alloc (Nat.le_refl _) _⟩
 all_goals try simp only [beq_iff_eq,beq_eq_false_iff_ne,ne_eq] at *
 all_goals (rw [Bool.eq_iff_iff]; simp; try omega)
end Go.Proofs.YtapocgcdjkbnhaaDoor

namespace Go.Proofs.YtapocgcdjkbnhaaDoor
set_option linter.unusedVariables false
set_option linter.unusedSimpArgs false
open Go.RowKit
theorem sA {α : Type} (l : List α) (i : Nat) (a : α) : l.toArray.setIfInBounds i a = (l.set i a).toArray:=List.setIfInBounds_toArray l i a
theorem s0 {α : Type} (x a : α) (l : List α) : (x :: l).set 0 a = a :: l:=List.set_cons_zero
theorem sS {α : Type} (x a : α) (l : List α) (n : Nat) : (x :: l).set (n + 1) a = x :: l.set n a:=List.set_cons_succ
theorem tY {P : Program} {md : Region.Mode} {ops : Array Oper} {Q : Exit → Act → World → Prop} {S : World → Prop} {fuel : Nat} {listed : Array Bool} {a a' : Act} {w : World} (i : Nat) (oi : Oper) (v : Value)
  (hS : S w) (h : wpAnyH P md ops Q S fuel (listed.setIfInBounds i true) a' w) (ha : a.put oi.dst v = a':=by (simp only [Act.put,sA,s0,sS]; first | done | exact rfl)) (hi : ops[i]? = some oi:=by rfl) (hs : Region.noSelect ops = true:=by kernel_rfl) (hf : Region.free md ops listed i = true:=by kernel_rfl)
  (hr : (Region.ready md ops listed).contains i = true:=by kernel_rfl) (hQ : ∀ c a w,Q (.panic c) (a.put oi.dst v) w → Q (.panic c) a w:=by exact fun _ _ _ h => h)
  (hy : YieldsIf P ops S oi v a:=by exact Or.inl ⟨by rfl,by intro w' hSw; (try dsimp only at hSw); go_simp⟩) : wpAnyH P md ops Q S (fuel + 1) listed a w:=by subst ha; exact wpAnyH_take hi hs hf hr hQ hy hS h
theorem tN {P : Program} {md : Region.Mode} {ops : Array Oper} {Q : Exit → Act → World → Prop} {S : World → Prop} {fuel : Nat} {listed : Array Bool} {a a' : Act} {w : World} (i : Nat) (oi : Oper)
  (hS : S w) (h : wpAnyH P md ops Q S fuel (listed.setIfInBounds i true) a' w) (ha : a.put oi.dst undef = a':=by (simp only [Act.put,sA,s0,sS]; first | done | exact rfl)) (hi : ops[i]? = some oi:=by rfl) (hs : Region.noSelect ops = true:=by kernel_rfl) (hf : Region.free md ops listed i = true:=by kernel_rfl)
  (hr : (Region.ready md ops listed).contains i = true:=by kernel_rfl) (hQ : ∀ c a w,Q (.panic c) (a.put oi.dst undef) w → Q (.panic c) a w:=by exact fun _ _ _ h => h)
  (hy : YieldsIf P ops S oi undef a:=by exact Or.inr ⟨by rfl,rfl⟩) : wpAnyH P md ops Q S (fuel + 1) listed a w:=by subst ha; exact wpAnyH_take hi hs hf hr hQ hy hS h
end Go.Proofs.YtapocgcdjkbnhaaDoor
