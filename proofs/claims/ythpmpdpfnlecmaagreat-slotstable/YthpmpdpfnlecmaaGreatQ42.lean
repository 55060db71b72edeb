/- Texts joined: Flags13. -/
import Derived.Test.YthpmpdpfnlecmaaGreatQ39
namespace Go.Proofs.YthpmpdpfnlecmaaGreat
set_option linter.unusedVariables false
set_option linter.unusedSimpArgs false
open Go.RowKit
attribute [local go_sem ↓] Go.wp_at_zero Go.wp_at_succ
theorem len_nil13 {α : Type} (l : List α) : ((l.length : Int) == 0) = decide (l = []):=by
 rw [Bool.eq_iff_iff]
 simp
theorem len_pos13 {α : Type} (l : List α) : decide ((0 : Int) < (l.length : Int)) = decide (l ≠ []):=by
 rw [Bool.eq_iff_iff]
 simp only [decide_eq_true_iff]
 constructor
 ·intro h e; rw [e] at h; simp at h
 ·intro h
  have:=List.length_pos_iff.2 h
  omega

set_option maxHeartbeats 4000000 in
theorem flags13_any (x : MD) (hx : 0 ≤ x.fl∧x.fl ≤ 31) (k : Int) (w : World) : Ans 78 #[mdV x,.int .i64 k] w (.bool (flg1 k x)):=by
 obtain ⟨w0,HW0,HB0,HC,c0,c1,c2,c3,c4,c5,c6,c7,c8,c9,c10,c11⟩:=mth_head w x
 have HH : Hid (∀ W,Ans 84 #[mdV x,.int .i64 1] W (.bool (bitB x.fl 1))∧Ans 84 #[mdV x,.int .i64 2] W (.bool (bitB x.fl 2))∧Ans 84 #[mdV x,.int .i64 4] W (.bool (bitB x.fl 4))∧Ans 84 #[mdV x,.int .i64 8] W (.bool (bitB x.fl 8))∧Ans 84 #[mdV x,.int .i64 16] W (.bool (bitB x.fl 16))∧Ans 84 #[mdV x,.int .i64 12] W (.bool (bitB x.fl 4 || bitB x.fl 8))):=fun W => has13_any x hx W
 have HR : Hid (flg1 k x = if bitB x.fl 16 = true then decide (k = 0) && (decide (x.rt.1 = 1) && decide (x.fl = 16)) else if bitB x.fl 2 = true then !bitB x.fl 1 && decide (k ≠ 1) else !(bitB x.fl 4 || bitB x.fl 8)):=rfl
 unfold mdV at HH
 generalize flg1 k x = R at *
 generalize bitB x.fl 1 = b1 at *
 generalize bitB x.fl 2 = b2 at *
 generalize bitB x.fl 4 = b4 at *
 generalize bitB x.fl 8 = b8 at *
 generalize bitB x.fl 16 = b16 at *
 clear hx
 unfold mdV
 go_enter Tryz.func78,Tryz.ntmps78
 go_wp2_with (rw [← HW0.out])
 refine Calls.mono (HH.out _).2.2.2.2.1 ?_
 rintro e w1 ⟨rfl,hb1⟩
 have HB1 : Hid (Below w0.heap.size w0 w1):=hb1
 clear hb1 c0 c1 c2 c3 c4 c5 c6 c7 c8 c9 c10 c11
 obtain ⟨c0,c1,c2,c3,c4,c5,c6,c7,c8,c9,c10,c11⟩:=HC.out w1 HB1.out
 cases b16 with
 | true =>
  have HR2 : Hid (R = (decide (k = 0) && (decide (x.rt.1 = 1) && decide (x.fl = 16)))):=by show _ = _; rw [HR.out]; rfl
  go_wp2
  all_goals go_ret
  all_goals refine ⟨ret_bool ?_,bstep HB0.out HB1.out⟩
  all_goals (rw [HR2.out,Bool.eq_iff_iff]; simp [*] <;> omega)
 | false =>
  go_wp2_with fail
  refine Calls.mono (HH.out _).2.1 ?_
  rintro e w2 ⟨rfl,hb2⟩
  have HB2 : Hid (Below w0.heap.size w0 w2):=bstep HB1.out hb2
  clear hb2 c0 c1 c2 c3 c4 c5 c6 c7 c8 c9 c10 c11
  obtain ⟨c0,c1,c2,c3,c4,c5,c6,c7,c8,c9,c10,c11⟩:=HC.out w2 HB2.out
  cases b2 with
  | true =>
   have HR2 : Hid (R = (!b1 && decide (k ≠ 1))):=by show _ = _; rw [HR.out]; rfl
   go_wp2_with fail
   refine Calls.mono (HH.out _).1 ?_
   rintro e w3 ⟨rfl,hb3⟩
   have HB3 : Hid (Below w0.heap.size w0 w3):=bstep HB2.out hb3
   clear hb3 c0 c1 c2 c3 c4 c5 c6 c7 c8 c9 c10 c11
   cases b1 with
   | true =>
    go_wp2
    all_goals go_ret
    all_goals exact ⟨ret_bool (by rw [HR2.out]; rfl),bstep HB0.out HB3.out⟩
   | false =>
    go_wp2
    all_goals go_ret
    all_goals refine ⟨ret_bool ?_,bstep HB0.out HB3.out⟩
    all_goals (rw [HR2.out,Bool.eq_iff_iff]; simp)
  | false =>
   have HR2 : Hid (R = !(b4 || b8)):=by show _ = _; rw [HR.out]; rfl
   go_wp2_with fail
   refine Calls.mono (HH.out _).2.2.2.2.2 ?_
   rintro e w3 ⟨rfl,hb3⟩
   have HB3 : Hid (Below w0.heap.size w0 w3):=bstep HB2.out hb3
   clear hb3 c0 c1 c2 c3 c4 c5 c6 c7 c8 c9 c10 c11
   go_wp2_with fail
   go_ret
   exact ⟨ret_bool (by rw [HR2.out]; cases b4 <;> cases b8 <;> rfl),bstep HB0.out HB3.out⟩

set_option maxHeartbeats 4000000 in
theorem body13_any (x : MD) (hx : 0 ≤ x.fl∧x.fl ≤ 31) (w : World) : Ans 79 #[mdV x] w (.bool (flg2 x)):=by
 obtain ⟨w0,HW0,HB0,HC,c0,c1,c2,c3,c4,c5,c6,c7,c8,c9,c10,c11⟩:=mth_head w x
 have HH : Hid (∀ W,Ans 84 #[mdV x,.int .i64 4] W (.bool (bitB x.fl 4))):=fun W => (has13_any x hx W).2.2.1
 have HR : Hid (flg2 x = if bitB x.fl 4 = true then decide (x.co = []) && (decide (x.ls = []) && (decide (x.cl = []) && decide (x.mx = 0))) else decide (x.co ≠ [])):=rfl
 have e1 : ((x.co.length : Int) == 0) = decide (x.co = []):=len_nil13 _
 have e2 : ((x.ls.length : Int) == 0) = decide (x.ls = []):=len_nil13 _
 have e3 : ((x.cl.length : Int) == 0) = decide (x.cl = []):=len_nil13 _
 have HP : Hid (decide ((0 : Int) < (x.co.length : Int)) = decide (x.co ≠ [])):=len_pos13 _
 unfold mdV at HH
 generalize flg2 x = R at *
 generalize bitB x.fl 4 = b4 at *
 clear hx
 unfold mdV
 go_enter Tryz.func79,Tryz.ntmps79
 go_wp2_with (rw [← HW0.out])
 refine Calls.mono (HH.out _) ?_
 rintro e w1 ⟨rfl,hb1⟩
 have HB1 : Hid (Below w0.heap.size w0 w1):=hb1
 clear hb1 c0 c1 c2 c3 c4 c5 c6 c7 c8 c9 c10 c11
 obtain ⟨c0,c1,c2,c3,c4,c5,c6,c7,c8,c9,c10,c11⟩:=HC.out w1 HB1.out
 cases b4 with
 | true =>
  have HR2 : Hid (R = (decide (x.co = []) && (decide (x.ls = []) && (decide (x.cl = []) && decide (x.mx = 0))))):=by show _ = _; rw [HR.out]; rfl
  generalize decide (x.co = []) = f1 at *
  generalize decide (x.ls = []) = f2 at *
  generalize decide (x.cl = []) = f3 at *
  clear HP
  cases f1 with
  | false => go_wp2; all_goals go_ret; all_goals exact ⟨ret_bool (by rw [HR2.out]; rfl),bstep HB0.out HB1.out⟩
  | true =>
   cases f2 with
   | false => go_wp2; all_goals go_ret; all_goals exact ⟨ret_bool (by rw [HR2.out]; rfl),bstep HB0.out HB1.out⟩
   | true =>
    cases f3 with
    | false => go_wp2; all_goals go_ret; all_goals exact ⟨ret_bool (by rw [HR2.out]; rfl),bstep HB0.out HB1.out⟩
    | true =>
     go_wp2
     all_goals go_ret
     all_goals refine ⟨ret_bool ?_,bstep HB0.out HB1.out⟩
     all_goals (rw [HR2.out,Bool.eq_iff_iff]; simp)
 | false =>
  have HR2 : Hid (R = decide (x.co ≠ [])):=by show _ = _; rw [HR.out]; rfl
  clear e1 e2 e3
  go_wp2
  all_goals go_ret
  all_goals exact ⟨ret_bool (by rw [HR2.out,← HP.out,Bool.eq_iff_iff]; simp),bstep HB0.out HB1.out⟩

theorem Im.typ {w : World} {g : Img} (hg : Im w g) {q : Nat} (hq : q < g.ts.length) : ∃ tb off,g.ta = some ⟨tb,off,none⟩∧g.ts.length ≤ g.tc∧g.tc ≤ maxLen∧∀ W,Below w.heap.size w W → W.cell? ⟨tb,off + q * 4 + 1,none⟩ = some (.int .i64 g.ts[q].fl):=by
 obtain ⟨tb,off,cap,hv,h1,h2,hb,hc⟩:=hg.ts.parts (by intro e; rw [e] at hq; simp at hq)
 simp only [Value.slice.injEq] at hv
 obtain ⟨ha,_,hcap⟩:=hv
 subst hcap
 exact ⟨tb,off,ha,h1,h2,fun W hW => ((show El tdE w tb (off + q * 4) g.ts[q] from hc q hq).below hW hb).cells_T.2.1⟩

set_option maxHeartbeats 2000000 in
theorem isAbstract13_any {g : Img} {q : Nat} {w : World} (hg : Im w g) (hi : imB g = true) (hq : q < g.ts.length) : Ans 83 #[imA4 g,.int .i64 q] w (.bool (bitB (flI g (q : Int)) 4)):=by
 obtain ⟨w0,HW0,HB0,HG,HC,HI,c0,c1,c2,c3⟩:=img_head hg
 obtain ⟨tb,off,hta,h1,h2,hc⟩:=(HI.out w0 (Below.refl _ _)).typ hq
 have cf:=hc w0 (Below.refl _ _)
 rw [flI_at hq]
 have hfl:=(has_flags (FlOk.of hi _ (List.getElem_mem hq))).2.2.1
 have HF : Hid ((bits .and .i64 g.ts[q].fl 4 != 0) = bitB g.ts[q].fl 4):=hfl
 have hqi : (q : Int) < (g.ts.length : Int):=by omega
 unfold maxLen at h2
 unfold imA4
 rw [hta] at HW0 c0 ⊢
 clear hg hi HC HI HG hta hc hfl
 generalize bitB g.ts[q].fl 4 = R at *
 generalize g.ts[q] = x at *
 go_enter Tryz.func83,Tryz.ntmps83
 go_wp2_with (rw [← HW0.out])
 go_ret
 exact ⟨ret_bool HF.out,HB0.out⟩

theorem img_md_head {w : World} {g : Img} (hg : Im w g) (x : MD) : ∃ w0,Hid (w0 = (w.alloc (.cells #[.slice g.ta g.ts.length g.tc,.slice g.fa g.fs.length g.fc,.slice g.ma g.ms.length g.mc,.int .i64 g.en] 26)).alloc (.cells #[.string x.nm,.int .i64 x.ow,.int .i64 x.fl,.slice x.pa x.ps.length x.pc,.int .i64 x.rt.1,.int .i64 x.rt.2.1,.int .i64 x.rt.2.2.1,.bool x.rt.2.2.2,.slice x.la x.ls.length x.lc,.int .i64 x.mx,.slice x.ca x.co.length x.cc,.slice x.ka x.cl.length x.kc] 55)) ∧
  Hid (Below w.heap.size w w0)∧Hid (∀ W,Below w0.heap.size w0 W → Im4 W w.heap.size g∧Mt W (w.heap.size + 1) x)∧Hid (∀ W,Below w0.heap.size w0 W → Im W g):=by
 obtain ⟨w0,hw0⟩ : ∃ W,W = (w.alloc (.cells (imC g) 26)).alloc (.cells (mdA13 x) 55):=⟨_,rfl⟩
 obtain ⟨hb0,hat⟩:=two_boxes hw0
 refine ⟨w0,hw0,hb0,fun W hW => ⟨?_,Mt.of (hat W hW).2⟩,fun W hW => (hg.later hb0).later hW⟩
 have h:=(hat W hW).1
 exact ⟨h.cell 0,h.cell 1,h.cell 2,h.cell 3⟩

set_option maxHeartbeats 4000000 in
theorem stands13_any {g : Img} {x : MD} {w : World} (hg : Im w g) (hi : imB g = true) (hx : 0 ≤ x.fl∧x.fl ≤ 31) (hn : numB x.ow g.ts.length = true) : Ans 80 #[imA4 g,mdV x] w (.bool (flg3 g x)):=by
 obtain ⟨w0,HW0,HB0,HC,HI⟩:=img_md_head hg x
 have hln:=im_len hi
 have HH : Hid (∀ W,Ans 84 #[mdV x,.int .i64 4] W (.bool (bitB x.fl 4))):=fun W => (has13_any x hx W).2.2.1
 have HKn : Hid (∀ W,Below w0.heap.size w0 W → Ans 16 #[imA4 g,.int .i64 x.ow] W (.int .i64 (kndI g x.ow))):=fun W hW => kind_any _ (HI.out W hW) (FlOk.of hi)
 have HMt : Hid (∀ W,Below w0.heap.size w0 W → Calls Tryz.prog 47 #[imA4 g,.int .i64 x.ow] W fun e w' => ∃ v,e = .returned v∧OwnI w' W.heap.size v (mtdN g x.ow)∧Below W.heap.size W w'):=fun W hW => methods_any (HI.out W hW) hi
 have HAb : Hid (∀ W,Below w0.heap.size w0 W → Ans 83 #[imA4 g,.int .i64 x.ow] W (.bool (bitB (flI g x.ow) 4))):=fun W hW => by
  obtain ⟨q,hq,hql⟩:=num_nat hn
  rw [hq]
  exact isAbstract13_any (HI.out W hW) hi hql
 have HR : Hid (flg3 g x = if kndI g x.ow = 2 then bitB x.fl 4 else if kndI g x.ow = 3 then bitB x.fl 4 && decide ((mtdN g x.ow).length = 1) else if kndI g x.ow = 0 then !bitB x.fl 4 || bitB (flI g x.ow) 4 else true):=rfl
 obtain ⟨⟨b0,b1,b2,b3⟩,c0,c1,c2,c3,c4,c5,c6,c7,c8,c9,c10,c11⟩:=HC.out w0 (Below.refl _ _)
 have hll : (((mtdN g x.ow).length : Int) == 1) = decide ((mtdN g x.ow).length = 1):=by rw [Bool.eq_iff_iff]; simp; omega
 unfold mdV at HH
 unfold imA4 at HKn HMt HAb ⊢
 unfold Im4 at HC
 clear hg hi hx hn HI
 generalize flg3 g x = R at *
 generalize bitB x.fl 4 = b4 at *
 generalize kndI g x.ow = kn at *
 generalize bitB (flI g x.ow) 4 = ab at *
 generalize decide ((mtdN g x.ow).length = 1) = one at *
 generalize mtdN g x.ow = M at *
 unfold mdV
 go_enter Tryz.func80,Tryz.ntmps80
 go_wp2_with (rw [← HW0.out])
 refine Calls.mono (HKn.out w0 (Below.refl _ _)) ?_
 rintro e w1 ⟨rfl,hb1⟩
 have HB1 : Hid (Below w0.heap.size w0 w1):=hb1
 clear hb1 b0 b1 b2 b3 c0 c1 c2 c3 c4 c5 c6 c7 c8 c9 c10 c11
 obtain ⟨⟨b0,b1,b2,b3⟩,c0,c1,c2,c3,c4,c5,c6,c7,c8,c9,c10,c11⟩:=HC.out w1 HB1.out
 by_cases hk2 : kn = 2
 ·subst hk2
  have HR2 : Hid (R = b4):=by show _ = _; rw [HR.out]; rfl
  go_wp2_with fail
  refine Calls.mono (HH.out w1) ?_
  rintro e w2 ⟨rfl,hb2⟩
  have HB2 : Hid (Below w0.heap.size w0 w2):=bstep HB1.out hb2
  clear hb2 b0 b1 b2 b3 c0 c1 c2 c3 c4 c5 c6 c7 c8 c9 c10 c11
  go_wp2_with fail
  go_ret
  exact ⟨ret_bool HR2.out.symm,bstep HB0.out HB2.out⟩
 ·have e2 : (kn == 2) = false:=by simpa using hk2
  by_cases hk3 : kn = 3
  ·subst hk3
   have HR2 : Hid (R = (b4 && one)):=by show _ = _; rw [HR.out]; rfl
   clear hk2 e2
   go_wp2_with fail
   refine Calls.mono (HH.out w1) ?_
   rintro e w2 ⟨rfl,hb2⟩
   have HB2 : Hid (Below w0.heap.size w0 w2):=bstep HB1.out hb2
   clear hb2 b0 b1 b2 b3 c0 c1 c2 c3 c4 c5 c6 c7 c8 c9 c10 c11
   cases b4 with
   | false =>
    go_wp2_with fail
    go_ret
    exact ⟨ret_bool (by rw [HR2.out]; rfl),bstep HB0.out HB2.out⟩
   | true =>
    obtain ⟨⟨b0,b1,b2,b3⟩,c0,c1,c2,c3,c4,c5,c6,c7,c8,c9,c10,c11⟩:=HC.out w2 HB2.out
    go_wp2_with fail
    refine Calls.mono (HMt.out w2 HB2.out) ?_
    rintro e w3 ⟨mv,rfl,hm3,hb3⟩
    have HB3 : Hid (Below w0.heap.size w0 w3):=bstep HB2.out hb3
    obtain ⟨ma,mc,hmv,_,_⟩:=hm3.is.shape
    subst hmv
    clear hb3 hm3 b0 b1 b2 b3 c0 c1 c2 c3 c4 c5 c6 c7 c8 c9 c10 c11
    go_wp2_with fail
    go_ret
    exact ⟨ret_bool (by rw [HR2.out]; rfl),bstep HB0.out HB3.out⟩
  ·have e3 : (kn == 3) = false:=by simpa using hk3
   by_cases hk0 : kn = 0
   ·subst hk0
    have HR2 : Hid (R = (!b4 || ab)):=by show _ = _; rw [HR.out]; rfl
    clear hk2 e2 hk3 e3
    go_wp2_with fail
    refine Calls.mono (HH.out w1) ?_
    rintro e w2 ⟨rfl,hb2⟩
    have HB2 : Hid (Below w0.heap.size w0 w2):=bstep HB1.out hb2
    clear hb2 b0 b1 b2 b3 c0 c1 c2 c3 c4 c5 c6 c7 c8 c9 c10 c11
    cases b4 with
    | false =>
     go_wp2_with fail
     go_ret
     exact ⟨ret_bool (by rw [HR2.out]; rfl),bstep HB0.out HB2.out⟩
    | true =>
     obtain ⟨⟨b0,b1,b2,b3⟩,c0,c1,c2,c3,c4,c5,c6,c7,c8,c9,c10,c11⟩:=HC.out w2 HB2.out
     go_wp2_with fail
     refine Calls.mono (HAb.out w2 HB2.out) ?_
     rintro e w3 ⟨rfl,hb3⟩
     have HB3 : Hid (Below w0.heap.size w0 w3):=bstep HB2.out hb3
     clear hb3 b0 b1 b2 b3 c0 c1 c2 c3 c4 c5 c6 c7 c8 c9 c10 c11
     go_wp2_with fail
     go_ret
     exact ⟨ret_bool (by rw [HR2.out]; rfl),bstep HB0.out HB3.out⟩
   ·have e0 : (kn == 0) = false:=by simpa using hk0
    have HR2 : Hid (R = true):=by show _ = _; rw [HR.out,if_neg hk2,if_neg hk3,if_neg hk0]
    clear hk2 hk3 hk0
    go_wp2_with fail
    go_ret
    exact ⟨ret_bool HR2.out.symm,bstep HB0.out HB1.out⟩
end Go.Proofs.YthpmpdpfnlecmaaGreat
