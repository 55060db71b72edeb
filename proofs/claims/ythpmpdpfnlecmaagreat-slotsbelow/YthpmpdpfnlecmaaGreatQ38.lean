/- Texts joined: ChkAll11, LayCheck. -/
import Derived.Test.YthpmpdpfnlecmaaGreatQ36
import Derived.Test.YthpmpdpfnlecmaaGreatQ37
import Derived.Test.YthpmpdpfnlecmaaGreatQ30
namespace Go.Proofs.YthpmpdpfnlecmaaGreat
set_option linter.unusedVariables false
set_option linter.unusedSimpArgs false
open Go.RowKit
attribute [local go_sem ↓] Go.wp_at_zero Go.wp_at_succ
set_option maxHeartbeats 4000000 in
theorem wrong11_any {g : Img} {q : Nat} {w : World} (hg : Im w g) (hi : imB g = true) (hq : q < g.ts.length) :
  Calls Tryz.prog 63 #[imV g,.int .i64 q] w fun e w' => e = .returned (.int .i64 (errT g (q : Int)))∧Below w.heap.size w w':=by
 obtain ⟨w0,hw0⟩ : ∃ W,W = w.alloc (.cells (imC g) 26):=⟨_,rfl⟩
 have HW0 : Hid (w0 = _):=hw0
 obtain ⟨hb0,hgb⟩:=GB.made hg hw0
 have HB0 : Hid (Below w.heap.size w w0):=hb0
 have HG : Hid (GB w0 w.heap.size g):=hgb
 have HK : Hid (∀ W,Below w0.heap.size w0 W → W.cell? ⟨w.heap.size,0,none⟩ = some (.slice g.ta g.ts.length g.tc)∧W.cell? ⟨w.heap.size,1,none⟩ = some (.slice g.fa g.fs.length g.fc)∧W.cell? ⟨w.heap.size,2,none⟩ = some (.slice g.ma g.ms.length g.mc)∧W.cell? ⟨w.heap.size,3,none⟩ = some (.int .i64 g.en)):=fun W hW => (hgb.later hW).cells
 have HisOfItsKind : Hid (∀ W,Below w0.heap.size w0 W → Calls Tryz.prog 108 #[.agg (imC g),.int .i64 q] W fun e w' => e = .returned (.bool (flgF (flI g (q : Int)) (exI g (q : Int))))∧Below W.heap.size W w'):=fun W hW => by rw [flI_at hq,exI_at hq]; exact ofKind_any (HG.out.im.later hW) hi hq
 have HextendsWell : Hid (∀ W,Below w0.heap.size w0 W → Calls Tryz.prog 109 #[.agg (imC g),.int .i64 q] W fun e w' => e = .returned (.bool (extB g (q : Int)))∧Below W.heap.size W w'):=fun W hW => ext11_any (HG.out.im.later hW) hi hq
 have HhasFacesWell : Hid (∀ W,Below w0.heap.size w0 W → Calls Tryz.prog 110 #[.agg (imC g),.int .i64 q] W fun e w' => e = .returned (.bool (facB g (q : Int)))∧Below W.heap.size W w'):=fun W hW => fac11_any (HG.out.im.later hW) hi hq
 have HisNamedWell : Hid (∀ W,Below w0.heap.size w0 W → Calls Tryz.prog 111 #[.agg (imC g),.int .i64 q] W fun e w' => e = .returned (.bool (nmdB g (q : Int)))∧Below W.heap.size W w'):=fun W hW => named11_any (HG.out.im.later hW) hi hq
 have HholdsWell : Hid (∀ W,Below w0.heap.size w0 W → Calls Tryz.prog 112 #[.agg (imC g),.int .i64 q] W fun e w' => e = .returned (.bool (szdB g (q : Int)))∧Below W.heap.size W w'):=fun W hW => holds11_any (HG.out.im.later hW) hi hq
 have HR : Hid (errT g (q : Int) = if (flgF (flI g (q : Int)) (exI g (q : Int)) && extB g (q : Int) && facB g (q : Int)) = false then 7 else if nmdB g (q : Int) = false then 18 else if szdB g (q : Int) = false then 20 else 0):=rfl
 obtain ⟨c0,c1,c2,c3⟩:=hgb.cells
 unfold imC at HW0 HisOfItsKind HextendsWell HhasFacesWell HisNamedWell HholdsWell
 clear hw0 hb0 hgb hg hi HG
 generalize errT g (q : Int) = F at *
 generalize flgF (flI g (q : Int)) (exI g (q : Int)) = b1 at *
 generalize extB g (q : Int) = b2 at *
 generalize facB g (q : Int) = b3 at *
 generalize nmdB g (q : Int) = b4 at *
 generalize szdB g (q : Int) = b5 at *
 unfold imV
 go_enter Tryz.func63,Tryz.ntmps63
 go_wp2_with (rw [← HW0.out])
 refine Calls.mono (HisOfItsKind.out w0 (Below.refl _ _)) ?_
 rintro e w1 ⟨rfl,hb1⟩
 have HBw1 : Hid (Below w0.heap.size w0 w1):=hb1
 clear hb1 c0 c1 c2 c3
 cases b1 with
 | false =>
  have HR2 : Hid (F = 7):=by show _ = _; rw [HR.out]; rfl
  go_wp2_with fail
  go_ret
  exact ⟨by rw [HR2.out]; rfl,bstep HB0.out HBw1.out⟩
 | true =>
 obtain ⟨c0,c1,c2,c3⟩:=HK.out w1 HBw1.out
 go_wp2_with fail
 refine Calls.mono (HextendsWell.out w1 HBw1.out) ?_
 rintro e w2 ⟨rfl,hb2⟩
 have HBw2 : Hid (Below w0.heap.size w0 w2):=bstep HBw1.out hb2
 clear hb2 c0 c1 c2 c3
 cases b2 with
 | false =>
  have HR2 : Hid (F = 7):=by show _ = _; rw [HR.out]; rfl
  go_wp2_with fail
  go_ret
  exact ⟨by rw [HR2.out]; rfl,bstep HB0.out HBw2.out⟩
 | true =>
 obtain ⟨c0,c1,c2,c3⟩:=HK.out w2 HBw2.out
 go_wp2_with fail
 refine Calls.mono (HhasFacesWell.out w2 HBw2.out) ?_
 rintro e w3 ⟨rfl,hb3⟩
 have HBw3 : Hid (Below w0.heap.size w0 w3):=bstep HBw2.out hb3
 clear hb3 c0 c1 c2 c3
 cases b3 with
 | false =>
  have HR2 : Hid (F = 7):=by show _ = _; rw [HR.out]; rfl
  go_wp2_with fail
  go_ret
  exact ⟨by rw [HR2.out]; rfl,bstep HB0.out HBw3.out⟩
 | true =>
 obtain ⟨c0,c1,c2,c3⟩:=HK.out w3 HBw3.out
 go_wp2_with fail
 refine Calls.mono (HisNamedWell.out w3 HBw3.out) ?_
 rintro e w4 ⟨rfl,hb4⟩
 have HBw4 : Hid (Below w0.heap.size w0 w4):=bstep HBw3.out hb4
 clear hb4 c0 c1 c2 c3
 cases b4 with
 | false =>
  have HR2 : Hid (F = 18):=by show _ = _; rw [HR.out]; rfl
  go_wp2_with fail
  go_ret
  exact ⟨by rw [HR2.out]; rfl,bstep HB0.out HBw4.out⟩
 | true =>
 obtain ⟨c0,c1,c2,c3⟩:=HK.out w4 HBw4.out
 go_wp2_with fail
 refine Calls.mono (HholdsWell.out w4 HBw4.out) ?_
 rintro e w5 ⟨rfl,hb5⟩
 have HBw5 : Hid (Below w0.heap.size w0 w5):=bstep HBw4.out hb5
 clear hb5 c0 c1 c2 c3
 cases b5 with
 | false =>
  have HR2 : Hid (F = 20):=by show _ = _; rw [HR.out]; rfl
  go_wp2_with fail
  go_ret
  exact ⟨by rw [HR2.out]; rfl,bstep HB0.out HBw5.out⟩
 | true =>
 have HR2 : Hid (F = 0):=by show _ = _; rw [HR.out]; rfl
 go_wp2_with fail
 go_ret
 exact ⟨by rw [HR2.out]; rfl,bstep HB0.out HBw5.out⟩

theorem errT_four (g : Img) (t : Int) : errT g t = 7 ∨ errT g t = 18 ∨ errT g t = 20 ∨ errT g t = 0:=by
 unfold errT
 split
 ·simp
 ·split
  ·simp
  ·split <;> simp
theorem ret_pr11b {a b c d : Int} (h : (a,b) = (c,d)) : Ending.returned (.tuple #[.int .i64 a,.int .i64 b]) = .returned (.tuple #[.int .i64 c,.int .i64 d]):=by cases h; rfl
theorem wrg_bad11 {g : Img} {k i : Nat} {e : Int} (h : errT g i = e) (he : e ≠ 0) : wrgL g (k + 1) i = ((i : Int),e):=by unfold wrgL; rw [h,if_neg he]
theorem wrg_ok11 {g : Img} {k i : Nat} (h : errT g i = 0) : wrgL g (k + 1) i = wrgL g k (i + 1):=by rw [wrgL,if_pos h]

set_option maxHeartbeats 4000000 in
theorem check11_any {g : Img} {w : World} (hg : Im w g) :
  Calls Tryz.prog 31 #[imV g] w fun e w' => e = .returned (.tuple #[.int .i64 (chkI g).1,.int .i64 (chkI g).2])∧Below w.heap.size w w':=by
 obtain ⟨w0,hw0⟩ : ∃ W,W = w.alloc (.cells (imC g) 26):=⟨_,rfl⟩
 have HW0 : Hid (w0 = _):=hw0
 obtain ⟨hb0,hgb⟩:=GB.made hg hw0
 have HB0 : Hid (Below w.heap.size w w0):=hb0
 have HG : Hid (GB w0 w.heap.size g):=hgb
 have HFm : Hid (Calls Tryz.prog 62 #[.agg (imC g)] w0 fun e w' => e = .returned (.bool (imB g))∧Below w0.heap.size w0 w'):=formed_any hgb.im
 have HC4 : Hid (∀ W,Below w0.heap.size w0 W → W.cell? ⟨w.heap.size,0,none⟩ = some (.slice g.ta g.ts.length g.tc)∧W.cell? ⟨w.heap.size,1,none⟩ = some (.slice g.fa g.fs.length g.fc)∧W.cell? ⟨w.heap.size,2,none⟩ = some (.slice g.ma g.ms.length g.mc)∧W.cell? ⟨w.heap.size,3,none⟩ = some (.int .i64 g.en)):=fun W hW => (hgb.later hW).cells
 obtain ⟨c0,c1,c2,c3⟩:=hgb.cells
 have htl:=hg.ts.len
 unfold maxLen at htl
 unfold imC at HW0 HFm
 clear hw0 hb0 hgb hg
 unfold imV
 go_enter Tryz.func31,Tryz.ntmps31
 go_wp2_with (rw [← HW0.out])
 refine Calls.mono HFm.out ?_
 rintro e w1 ⟨rfl,hb1⟩
 have HB1 : Hid (Below w0.heap.size w0 w1):=hb1
 clear hb1 c0 c1 c2 c3 HFm
 cases hi : imB g with
 | false =>
  have HE : Hid (chkI g = (0,17)):=by show _ = _; unfold chkI; rw [hi]; rfl
  clear hi
  go_wp2_with fail
  go_ret2
  exact ⟨ret_pr11b (by rw [HE.out]),bstep HB0.out HB1.out⟩
 | true =>
  have HE : Hid (chkI g = wrgL g g.ts.length 0):=by show _ = _; unfold chkI; rw [hi]; rfl
  have HWr : Hid (∀ W,Below w0.heap.size w0 W → ∀ k : Nat,k < g.ts.length → Calls Tryz.prog 63 #[.agg (imC g),.int .i64 (k : Int)] W fun e w' => e = .returned (.int .i64 (errT g (k : Int)))∧Below W.heap.size W w'):=fun W hW k hk => wrong11_any (HG.out.im.later hW) hi hk
  unfold imC at HWr
  clear hi
  obtain ⟨c0,c1,c2,c3⟩:=HC4.out w1 HB1.out
  go_wp2_with fail
  clear c0 c1 c2 c3
  go_loopw [4,5,12] (fun _ _ z wr => ∃ k : Nat,k ≤ g.ts.length∧z = .int .i64 k∧Hid (Below w0.heap.size w0 wr)∧Hid (wrgL g (g.ts.length - k) k = chkI g)) (fun _ _ z _ => g.ts.length - (intOf z).toNat)
  case atStart => exact ⟨0,Nat.zero_le _,rfl,HB1.out,HE.out.symm⟩
  case round =>
   obtain ⟨k,hk,rfl,HB,HC⟩:=hrel
   obtain ⟨c0,c1,c2,c3⟩:=HC4.out wr HB.out
   by_cases hkl : k < g.ts.length
   ·have hki : (k : Int) < (g.ts.length : Int):=by omega
    have HBad : Hid (∀ e,errT g (k : Int) = e → e ≠ 0 → ((k : Int),e) = chkI g):=fun e h he => by rw [← HC.out,show g.ts.length - k = (g.ts.length - (k + 1)) + 1 by omega,wrg_bad11 h he]
    have HOk : Hid (errT g (k : Int) = 0 → wrgL g (g.ts.length - (k + 1)) (k + 1) = chkI g):=fun h => by rw [← HC.out,show g.ts.length - k = (g.ts.length - (k + 1)) + 1 by omega,wrg_ok11 h]
    go_wp2_with fail
    refine Calls.mono (HWr.out wr HB.out k hkl) ?_
    rintro e w2 ⟨rfl,hb2⟩
    have HB2 : Hid (Below w0.heap.size w0 w2):=bstep HB.out hb2
    clear hb2 c0 c1 c2 c3
    rcases errT_four g (k : Int) with h | h | h | h
    ·have HR : Hid _:=HBad.out 7 h (by decide)
     rw [h]
     clear h HBad HOk
     go_wp2_with fail
     go_ret2
     exact ⟨ret_pr11b HR.out,bstep HB0.out HB2.out⟩
    ·have HR : Hid _:=HBad.out 18 h (by decide)
     rw [h]
     clear h HBad HOk
     go_wp2_with fail
     go_ret2
     exact ⟨ret_pr11b HR.out,bstep HB0.out HB2.out⟩
    ·have HR : Hid _:=HBad.out 20 h (by decide)
     rw [h]
     clear h HBad HOk
     go_wp2_with fail
     go_ret2
     exact ⟨ret_pr11b HR.out,bstep HB0.out HB2.out⟩
    ·have HR : Hid _:=HOk.out h
     rw [h]
     clear h HBad HOk
     go_wp2_with fail
     go_roundw
     case rel => exact ⟨k + 1,by omega,by go_num,HB2.out,HR.out⟩
     case measure => simp [intOf]; omega
   ·have hki : ¬ (k : Int) < (g.ts.length : Int):=by omega
    have HR : Hid (((0 : Int),(0 : Int)) = chkI g):=by show _ = _; rw [← HC.out,show g.ts.length - k = 0 by omega]; rfl
    go_wp2_with fail
    go_ret2
    exact ⟨ret_pr11b HR.out,bstep HB0.out HB.out⟩
theorem usd_six {g : Img} {t : Int} (hl : g.ts.length ≤ 32) (h : kndI g t = 1) : usdB g (6,t,0,false) = true:=by
 have hn:=numB_iff.1 (knd_num (g:=g) (t:=t) (by rw [h]; decide))
 have hp : plainT (6,t,0,false) = true:=by
  unfold plainT plainB
  simp; omega
 rw [usd_value hp rfl]
 simpa using h
theorem WU.six {g : Img} (U : WU g) {t : Int} (h : kndI g t = 1) : usdB g (6,t,0,false) = true:=usd_six (im_len U.im).1 h
theorem gt8 {l c : List Ty} (h : Cut l c) : decide ((8 : Int) < (l.length : Int)) = decide (8 < c.length):=by
 have:=h.lt8
 rw [Bool.eq_iff_iff]; simp; omega
theorem gt32 {l c : List Ty} (h : Cut l c) : decide ((32 : Int) < (l.length : Int)) = decide (32 < c.length):=by
 have:=h.lt32
 rw [Bool.eq_iff_iff]; simp; omega

set_option maxHeartbeats 4000000 in
theorem tooLarge_any {g : Img} {t : Int} {w : World} (hg : Im w g) (U : WU g) (hwf : Wf t) (hn : numB t g.ts.length = true) : Ans 132 #[imA4 g,.int .i64 t] w (.bool (tooB g t)):=by
 obtain ⟨w0,HW0,HB0,HG,HC,HI,c0,c1,c2,c3⟩:=img_head hg
 have HK : Hid (Ans 16 #[imA4 g,.int .i64 t] w0 (.int .i64 (kndI g t))):=kind_any t (HI.out w0 (Below.refl _ _)) (FlOk.of U.im)
 have HCe : Hid (∀ W,Below w0.heap.size w0 W → kndI g t = 1 → Calls Tryz.prog 180 #[imA4 g,.agg #[.int .i64 6,.int .i64 t,.int .i64 0,.bool false]] W fun e w' => ∃ v,e = .returned v∧∃ l,OwnE tyE w' W.heap.size 51 v l∧Cut l (celL g (6,t,0,false))∧l.length ≤ 2000∧Below W.heap.size W w'):=fun W hW h1 => cells12_any U.used U.wel (HI.out W hW) (U.six h1)
 have HOb : Hid (∀ W,Below w0.heap.size w0 W → Calls Tryz.prog 181 #[imA4 g,.int .i64 t] W fun e w' => ∃ v,e = .returned v∧∃ l,OwnE tyE w' W.heap.size 51 v l∧Cut l (objL g t)∧l.length ≤ 10000000∧Below W.heap.size W w'):=fun W hW => objectOf_any (HI.out W hW) U hwf
 have HR : Hid (tooB g t = if kndI g t = 1 then decide (8 < (celL g (6,t,0,false)).length) else if kndI g t = 0 then decide (32 < (objL g t).length) else false):=rfl
 have HCl : Hid (∀ W,Below w0.heap.size w0 W → Im4 W w.heap.size g):=HC.out
 have hk4 : kndI g t = 0 ∨ kndI g t = 2 ∨ kndI g t = 1 ∨ kndI g t = 3:=by unfold kndI; rw [if_pos hn]; exact kindF_four _
 unfold imA4 at HK HCe HOb ⊢
 clear hg U hwf hn
 generalize tooB g t = R at *
 generalize celL g (6,t,0,false) = C1 at *
 generalize objL g t = C2 at *
 generalize kndI g t = kn at *
 go_enter Tryz.func132,Tryz.ntmps132
 go_wp2_with (rw [← HW0.out])
 refine Calls.mono HK.out ?_
 rintro e w1 ⟨rfl,hb1⟩
 have HB1 : Hid (Below w0.heap.size w0 w1):=hb1
 clear hb1 c0 c1 c2 c3 HK
 obtain ⟨c0,c1,c2,c3⟩:=HCl.out w1 HB1.out
 rcases hk4 with rfl | rfl | rfl | rfl
 ·go_wp2_with fail
  refine Calls.mono (HOb.out w1 HB1.out) ?_
  rintro e w2 ⟨v,rfl,l,ho,hc,hl,hb2⟩
  have HB2 : Hid (Below w0.heap.size w0 w2):=bstep HB1.out hb2
  have HR2 : Hid (R = decide ((32 : Int) < (l.length : Int))):=by show _ = _; rw [HR.out,gt32 hc]; rfl
  obtain ⟨a,c,rfl,_,_⟩:=ho.shape
  clear ho hc hb2
  go_wp2
  all_goals go_ret
  all_goals exact ⟨ret_bool (by rw [HR2.out]),bstep HB0.out HB2.out⟩
 ·have HR2 : Hid (R = false):=HR.out
  go_wp2
  go_ret
  exact ⟨ret_bool HR2.out.symm,bstep HB0.out HB1.out⟩
 ·go_wp2_with fail
  refine Calls.mono (HCe.out w1 HB1.out (by trivial)) ?_
  rintro e w2 ⟨v,rfl,l,ho,hc,hl,hb2⟩
  have HB2 : Hid (Below w0.heap.size w0 w2):=bstep HB1.out hb2
  have HR2 : Hid (R = decide ((8 : Int) < (l.length : Int))):=by show _ = _; rw [HR.out,gt8 hc]; rfl
  obtain ⟨a,c,rfl,_,_⟩:=ho.shape
  clear ho hc hb2
  go_wp2
  all_goals go_ret
  all_goals exact ⟨ret_bool (by rw [HR2.out]),bstep HB0.out HB2.out⟩
 ·have HR2 : Hid (R = false):=HR.out
  go_wp2
  go_ret
  exact ⟨ret_bool HR2.out.symm,bstep HB0.out HB1.out⟩

theorem lch_wel {g : Img} (h : welB g = false) : lchI g = (0,17):=by unfold lchI; rw [h]; rfl
theorem lch_used {g : Img} (h : welB g = true) {i : Nat} (hi : i < g.fs.length) (ha : ∀ x ∈ g.fs.take i,usdB g x.t = true) (hu : usdB g g.fs[i].t = false) : lchI g = ((i : Int),10):=by
 unfold lchI
 rw [h,if_neg (by decide),findIdx_at hi (fun x hx => by rw [ha x hx]; rfl) (by rw [hu]; rfl)]
theorem lch_too {g : Img} (h : welB g = true) (U : AllU g) {i : Nat} (hi : i < g.ts.length) (ha : ∀ j < i,tooB g (j : Int) = false) (hu : tooB g (i : Int) = true) : lchI g = ((i : Int),20):=by
 unfold lchI
 have h1 : g.fs.findIdx? (fun x => !usdB g x.t) = none:=findIdx_none.2 (fun x hx => by rw [U x hx]; rfl)
 have h2 : (List.range g.ts.length).findIdx? (fun t : Nat => tooB g (t : Int)) = some i:=findIdx_at (by simpa using hi) (fun x hx => by
  rw [List.take_range,List.mem_range] at hx
  exact ha x (by omega)) (by simpa using hu)
 rw [h,if_neg (by decide),h1,h2]
theorem lch_ok {g : Img} (h : welB g = true) (U : AllU g) (ha : ∀ j < g.ts.length,tooB g (j : Int) = false) : lchI g = (0,0):=by
 unfold lchI
 have h1 : g.fs.findIdx? (fun x => !usdB g x.t) = none:=findIdx_none.2 (fun x hx => by rw [U x hx]; rfl)
 have h2 : (List.range g.ts.length).findIdx? (fun t : Nat => tooB g (t : Int)) = none:=findIdx_none.2 (fun x hx => ha x (by simpa using hx))
 rw [h,if_neg (by decide),h1,h2]
theorem ret_pr12 {a b c d : Int} (h : (c,d) = (a,b)) : Ending.returned (.tuple #[.int .i64 a,.int .i64 b]) = .returned (.tuple #[.int .i64 c,.int .i64 d]):=by cases h; rfl

set_option maxHeartbeats 8000000 in
set_option maxRecDepth 20000 in
theorem check12_any {g : Img} {w : World} (hg : Im w g) :
  Ans 77 #[imA4 g] w (.tuple #[.int .i64 (lchI g).1,.int .i64 (lchI g).2]):=by
 obtain ⟨w0,HW0,HB0,HG,HC,HI,c0,c1,c2,c3⟩:=img_head hg
 have htl:=hg.ts.len
 have hfl:=hg.fs.len
 unfold maxLen at htl hfl
 have HCk : Hid (Ans 31 #[imA4 g] w0 (.tuple #[.int .i64 (chkI g).1,.int .i64 (chkI g).2])):=check11_any (HI.out w0 (Below.refl _ _))
 have HFs : Hid (∀ W,Below w0.heap.size w0 W → Es fdE W (.slice g.fa g.fs.length g.fc) g.fs):=fun W hW => (HI.out W hW).fs
 have HC4 : Hid (∀ W,Below w0.heap.size w0 W → Im4 W w.heap.size g):=HC.out
 have HUw : Hid (∀ W t,Below w0.heap.size w0 W → welB g = true → Ans 131 #[imA4 g,.agg #[.int .i64 t.1,.int .i64 t.2.1,.int .i64 t.2.2.1,.bool t.2.2.2]] W (.bool (usdB g t))):=fun W t hW hw => usedWell_any t (HI.out W hW) (Wel.of hw).im
 have HTo : Hid (∀ W (i : Nat),Below w0.heap.size w0 W → welB g = true → AllU g → i < g.ts.length → Ans 132 #[imA4 g,.int .i64 i] W (.bool (tooB g (i : Int)))):=fun W i hW hw hu hi => by
  have hn : numB (i : Int) g.ts.length = true:=by rw [numB_iff]; omega
  exact tooLarge_any (HI.out W hW) ⟨hw,hu⟩ (wf_num (by have:=(im_len (Wel.of hw).im).1; omega) hn) hn
 have HWl : Hid (welB g = decide ((chkI g).2 = 0)):=rfl
 have HL1 : Hid (welB g = false → lchI g = (0,17)):=lch_wel
 have HL2 : Hid (welB g = true → ∀ (i : Nat) (hi : i < g.fs.length),(∀ x ∈ g.fs.take i,usdB g x.t = true) → usdB g g.fs[i].t = false → lchI g = ((i : Int),10)):=fun h i hi => lch_used h hi
 have HL3 : Hid (welB g = true → AllU g → ∀ i : Nat,i < g.ts.length → (∀ j < i,tooB g (j : Int) = false) → tooB g (i : Int) = true → lchI g = ((i : Int),20)):=fun h U i hi => lch_too h U hi
 have HL4 : Hid (welB g = true → AllU g → (∀ j < g.ts.length,tooB g (j : Int) = false) → lchI g = (0,0)):=lch_ok
 unfold imA4 at HCk HUw HTo ⊢
 unfold Im4 at HC4
 generalize g.fa = fa at *
 clear hg HC
 generalize (chkI g).1 = k1 at *
 generalize (chkI g).2 = k2 at *
 go_enter Tryz.func77,Tryz.ntmps77
 go_wp2_with (rw [← HW0.out])
 refine Calls.mono HCk.out ?_
 rintro e w1 ⟨rfl,hb1⟩
 have HB1 : Hid (Below w0.heap.size w0 w1):=hb1
 clear hb1 c0 c1 c2 c3 HCk
 obtain ⟨c0,c1,c2,c3⟩:=HC4.out w1 HB1.out
 by_cases hk : k2 = 0
 ·subst hk
  have HW : Hid (welB g = true):=by show _ = _; rw [HWl.out]; rfl
  go_wp2_with fail
  clear c0 c1 c2 c3
  go_loopw [6,7,19] (fun _ _ z wr => ∃ i : Nat,i ≤ g.fs.length∧z = .int .i64 i∧Hid (∀ x ∈ g.fs.take i,usdB g x.t = true)∧Hid (Below w0.heap.size w0 wr)) (fun _ _ z _ => g.fs.length - (intOf z).toNat)
  case atStart => exact ⟨0,Nat.zero_le _,rfl,(show ∀ x ∈ _,_ from by simp),HB1.out⟩
  case round =>
   obtain ⟨i,hi,rfl,HA,HB⟩:=hrel
   by_cases hil : i < g.fs.length
   ·have hii : (i : Int) < (g.fs.length : Int):=by omega
    obtain ⟨tb,off,cap,hla,_,_,htb,hc⟩:=(HFs.out wr HB.out).parts (by intro e; rw [e] at hil; simp at hil)
    simp only [Value.slice.injEq] at hla
    obtain ⟨hla, -,hlc2⟩:=hla
    subst hla
    obtain ⟨k0,k1,k2,k3,k4,k5,k6⟩:=(show El fdE wr tb (off + i * 7) g.fs[i] from hc i hil).cells_F
    have HBad : Hid (usdB g g.fs[i].t = false → lchI g = ((i : Int),10)):=HL2.out HW.out i hil HA.out
    have HGood : Hid (usdB g g.fs[i].t = true → ∀ x ∈ g.fs.take (i + 1),usdB g x.t = true):=fun h x hx => by
     rw [List.take_succ_eq_append_getElem hil] at hx
     rcases List.mem_append.1 hx with hx | hx
     ·exact HA.out x hx
     ·simp at hx; subst hx; exact h
    have HUq : Hid (∀ W,Below w0.heap.size w0 W → Ans 131 #[.agg #[.slice g.ta g.ts.length g.tc,.slice (some ⟨tb,off,none⟩) g.fs.length g.fc,.slice g.ma g.ms.length g.mc,.int .i64 g.en],.agg #[.int .i64 g.fs[i].t.1,.int .i64 g.fs[i].t.2.1,.int .i64 g.fs[i].t.2.2.1,.bool g.fs[i].t.2.2.2]] W (.bool (usdB g g.fs[i].t))):=fun W hW => HUw.out W _ hW HW.out
    clear hc hlc2
    generalize g.fs[i] = x at *
    obtain ⟨wA,hwA⟩ : ∃ W,W = wr.alloc (.cells #[.string x.nm,.int .i64 x.ow,.int .i64 x.t.1,.int .i64 x.t.2.1,.int .i64 x.t.2.2.1,.bool x.t.2.2.2,.bool x.st] 75):=⟨_,rfl⟩
    have HWA : Hid (wA = _):=hwA
    have hbA : Below wr.heap.size wr wA:=by rw [hwA]; exact made_below _ _ _
    have hAA : At wA wr.heap.size #[.string x.nm,.int .i64 x.ow,.int .i64 x.t.1,.int .i64 x.t.2.1,.int .i64 x.t.2.2.1,.bool x.t.2.2.2,.bool x.st] 75:=by rw [hwA]; exact At.made _ _ _
    have HBA : Hid (Below w0.heap.size w0 wA):=bstep HB.out hbA
    obtain ⟨c0,c1,c2,c3⟩:=HC4.out wA HBA.out
    have a2:=hAA.cell 2
    have a3:=hAA.cell 3
    have a4:=hAA.cell 4
    have a5:=hAA.cell 5
    simp at a2 a3 a4 a5
    clear hwA hbA hAA
    go_wp2_with (rw [← HWA.out])
    refine Calls.mono (HUq.out wA HBA.out) ?_
    rintro e w2 ⟨rfl,hb2⟩
    have HB2 : Hid (Below w0.heap.size w0 w2):=bstep HBA.out hb2
    clear hb2 c0 c1 c2 c3 a2 a3 a4 a5 k0 k1 k2 k3 k4 k5 k6 HUq HWA
    cases hu : usdB g x.t with
    | false =>
     have HR : Hid _:=HBad.out hu
     clear hu HBad HGood
     go_wp2_with fail
     go_ret2
     exact ⟨ret_pr12 HR.out,bstep HB0.out HB2.out⟩
    | true =>
     have HR : Hid _:=HGood.out hu
     clear hu HBad HGood
     go_wp2_with fail
     go_roundw
     case rel => exact ⟨i + 1,by omega,by go_num,HR.out,HB2.out⟩
     case measure => simp [intOf]; omega
   ·have hii : ¬ (i : Int) < (g.fs.length : Int):=by omega
    have HU : Hid (AllU g):=fun x hx => HA.out x (by rw [List.take_of_length_le (by omega)]; exact hx)
    obtain ⟨c0,c1,c2,c3⟩:=HC4.out wr HB.out
    have HBs : Hid (Below w0.heap.size w0 wr):=HB.out
    clear HA HB
    go_wp2_with fail
    clear c0 c1 c2 c3
    go_loopw [8,34] (fun _ z wx => ∃ q : Nat,q ≤ g.ts.length∧z = .int .i64 q∧Hid (∀ j < q,tooB g (j : Int) = false)∧Hid (Below w0.heap.size w0 wx)) (fun _ z _ => g.ts.length - (intOf z).toNat)
    case atStart => exact ⟨0,Nat.zero_le _,rfl,(show ∀ j < 0,_ from by simp),HBs.out⟩
    case round =>
     clear HBs
     obtain ⟨q,hq,rfl,HA,HB⟩:=hrel
     by_cases hql : q < g.ts.length
     ·have hqi : (q : Int) < (g.ts.length : Int):=by omega
      have HBad : Hid (tooB g (q : Int) = true → lchI g = ((q : Int),20)):=HL3.out HW.out HU.out q hql HA.out
      have HGood : Hid (tooB g (q : Int) = false → ∀ j < q + 1,tooB g (j : Int) = false):=fun h j hj => by
       by_cases e : j = q
       ·subst e; exact h
       ·exact HA.out j (by omega)
      have HTq : Hid _:=HTo.out wr q HB.out HW.out HU.out hql
      obtain ⟨c0,c1,c2,c3⟩:=HC4.out wr HB.out
      go_wp2_with fail
      refine Calls.mono HTq.out ?_
      rintro e w2 ⟨rfl,hb2⟩
      have HB2 : Hid (Below w0.heap.size w0 w2):=bstep HB.out hb2
      clear hb2 c0 c1 c2 c3 HTq
      cases hu : tooB g (q : Int) with
      | true =>
       have HR : Hid _:=HBad.out hu
       clear hu HBad HGood
       go_wp2_with fail
       go_ret2
       exact ⟨ret_pr12 HR.out,bstep HB0.out HB2.out⟩
      | false =>
       have HR : Hid _:=HGood.out hu
       clear hu HBad HGood
       go_wp2_with fail
       go_roundw
       case rel => exact ⟨q + 1,by omega,by go_num,HR.out,HB2.out⟩
       case measure => simp [intOf]; omega
     ·have hqi : ¬ (q : Int) < (g.ts.length : Int):=by omega
      have HR : Hid _:=HL4.out HW.out HU.out (fun j hj => HA.out j (by omega))
      go_wp2_with fail
      go_ret2
      exact ⟨ret_pr12 HR.out,bstep HB0.out HB.out⟩
 ·have hkb : (k2 != 0) = true:=by simpa using hk
  have HR : Hid _:=HL1.out (by rw [HWl.out]; simpa using hk)
  clear hk
  go_wp2_with fail
  go_ret2
  exact ⟨ret_pr12 HR.out,bstep HB0.out HB1.out⟩

theorem fin_eq {g : Img} : ((lchI g).2 == 0) = finB g:=by unfold finB; rw [Bool.eq_iff_iff]; simp

set_option maxHeartbeats 1000000 in
theorem used12_any {g : Img} (t : Ty) {w : World} (hg : Im w g) : Ans 134 #[imA4 g,.agg #[.int .i64 t.1,.int .i64 t.2.1,.int .i64 t.2.2.1,.bool t.2.2.2]] w (.bool (welB g && usdB g t)):=by
 obtain ⟨w0,HW0,HB0,HC,HI⟩:=img_type_head hg t
 have HCk : Hid (Ans 31 #[imA4 g] w0 (.tuple #[.int .i64 (chkI g).1,.int .i64 (chkI g).2])):=check11_any (HI.out w0 (Below.refl _ _))
 have HUw : Hid (∀ W,Below w0.heap.size w0 W → welB g = true → Ans 131 #[imA4 g,.agg #[.int .i64 t.1,.int .i64 t.2.1,.int .i64 t.2.2.1,.bool t.2.2.2]] W (.bool (usdB g t))):=fun W hW hw => usedWell_any t (HI.out W hW) (Wel.of hw).im
 have HWl : Hid (welB g = decide ((chkI g).2 = 0)):=rfl
 obtain ⟨⟨c0,c1,c2,c3⟩,d0,d1,d2,d3⟩:=HC.out w0 (Below.refl _ _)
 unfold imA4 at HCk HUw ⊢
 clear hg
 generalize (chkI g).1 = k1 at *
 generalize (chkI g).2 = k2 at *
 generalize usdB g t = F at *
 go_enter Tryz.func134,Tryz.ntmps134
 go_wp2_with (rw [← HW0.out])
 refine Calls.mono HCk.out ?_
 rintro e w1 ⟨rfl,hb1⟩
 have HB1 : Hid (Below w0.heap.size w0 w1):=hb1
 clear hb1 c0 c1 c2 c3 d0 d1 d2 d3 HCk
 obtain ⟨⟨c0,c1,c2,c3⟩,d0,d1,d2,d3⟩:=HC.out w1 HB1.out
 by_cases hk : k2 = 0
 ·subst hk
  have HW : Hid (welB g = true):=by show _ = _; rw [HWl.out]; rfl
  go_wp2_with fail
  refine Calls.mono (HUw.out w1 HB1.out HW.out) ?_
  rintro e w2 ⟨rfl,hb2⟩
  have HB2 : Hid (Below w0.heap.size w0 w2):=bstep HB1.out hb2
  clear hb2 c0 c1 c2 c3 d0 d1 d2 d3
  go_wp2
  all_goals go_ret
  all_goals exact ⟨ret_bool (by rw [HW.out,Bool.true_and]),bstep HB0.out HB2.out⟩
 ·have hkb : (k2 == 0) = false:=by simpa using hk
  have HW : Hid (welB g = false):=by show _ = _; rw [HWl.out]; simpa using hk
  clear hk
  go_wp2
  all_goals go_ret
  all_goals exact ⟨ret_bool (by rw [HW.out,Bool.false_and]),bstep HB0.out HB1.out⟩
end Go.Proofs.YthpmpdpfnlecmaaGreat
