/- Texts joined: RefAlone9, RefFits9. -/
import Derived.Test.YthpmpdpfnlecmaaGreatQ32
namespace Go.Proofs.YthpmpdpfnlecmaaGreat
set_option linter.unusedVariables false
set_option linter.unusedSimpArgs false
open Go.RowKit
attribute [local go_sem ↓] Go.wp_at_zero Go.wp_at_succ
set_option maxHeartbeats 1000000 in
theorem alone_any (n : Int) (c : Cl) (w : World) :
  Calls Tryz.prog 256 #[.int .i64 n,clV c] w fun e w' => e = .returned (.int .i64 (raloneI n c))∧Below w.heap.size w w':=by
 obtain ⟨w0,hw0⟩ : ∃ W,W = w.alloc (.cells #[.int .i64 c.k,.int .i64 c.tf,.int .i64 c.tt,.int .i64 c.hf,.int .i64 c.ht,.int .i64 c.fi,.int .i64 c.t0,.int .i64 c.t1,.int .i64 c.t2,.bool c.t3] 101):=⟨_,rfl⟩
 have HW0 : Hid (w0 = _):=hw0
 have HB0 : Hid (Below w.heap.size w w0):=by rw [hw0]; exact made_below _ _ _
 have hA : At w0 w.heap.size (clC c).toArray 101:=by rw [hw0]; exact At.made w (clC c).toArray _
 have HK : Hid (∀ W,Below w0.heap.size w0 W → Ten W w.heap.size 0 c):=fun W hW => (hA.later hW).ten
 have HM : Hid (∀ W p q,Calls Tryz.prog 264 #[.agg #[.int .i64 c.k,.int .i64 c.tf,.int .i64 c.tt,.int .i64 c.hf,.int .i64 c.ht,.int .i64 c.fi,.int .i64 c.t0,.int .i64 c.t1,.int .i64 c.t2,.bool c.t3],.int .i64 p,.agg #[.int .i64 c.k,.int .i64 c.tf,.int .i64 c.tt,.int .i64 c.hf,.int .i64 c.ht,.int .i64 c.fi,.int .i64 c.t0,.int .i64 c.t1,.int .i64 c.t2,.bool c.t3],.int .i64 q] W fun e w' => e = .returned (.bool (rmeetB c p c q))∧Below W.heap.size W w'):=fun W p q => rmeet_any c p c q W
 obtain ⟨c0,c1,c2,c3,c4,c5,c6,c7,c8,c9⟩:=hA.ten
 clear hw0 hA
 unfold clV
 go_enter Tryz.func256,Tryz.ntmps256
 by_cases hA : c.k < 1 ∨ 4 < c.k ∨ ¬ (0 ≤ c.tf∧c.tf < c.tt∧c.tt ≤ n) ∨ ¬ (0 ≤ c.hf∧c.hf < c.ht∧c.ht ≤ n)
 ·have HX : Hid (raloneI n c = 3):=by show _ = _; unfold raloneI; rw [if_pos hA]
  have HA : Hid (c.k < 1 ∨ 4 < c.k ∨ ¬ (0 ≤ c.tf∧c.tf < c.tt∧c.tt ≤ n) ∨ ¬ (0 ≤ c.hf∧c.hf < c.ht∧c.ht ≤ n)):=hA
  clear hA
  go_wp2_with (rw [← HW0.out])
  all_goals first
   | (go_ret; exact ⟨ret_int HX.out.symm,HB0.out⟩)
   | (exfalso; have:=HA.out; simp only [Bool.not_eq_true',Bool.not_eq_false',decide_eq_true_eq,decide_eq_false_iff_not] at *; omega)
 ·have HX : Hid (raloneI n c = if (c.k = 2∧(c.fi < 0 ∨ c.hf ≤ c.fi)) ∨ (c.k ≠ 2∧c.fi ≠ -1) then 3 else if (rmeetB c 1 c 2 || rmeetB c 1 c 3 || rmeetB c 2 c 3) = true then 12 else 0):=by show _ = _; unfold raloneI; rw [if_neg hA]
  obtain ⟨g1,g2,g3,g4,g5,g6,g7,g8⟩ : 1 ≤ c.k∧c.k ≤ 4∧0 ≤ c.tf∧c.tf < c.tt∧c.tt ≤ n∧0 ≤ c.hf∧c.hf < c.ht∧c.ht ≤ n:=by omega
  clear hA
  by_cases hF : (c.k = 2∧(c.fi < 0 ∨ c.hf ≤ c.fi)) ∨ (c.k ≠ 2∧c.fi ≠ -1)
  ·have HX2 : Hid (raloneI n c = 3):=by show _ = _; rw [HX.out,if_pos hF]
   have HF : Hid ((c.k = 2∧(c.fi < 0 ∨ c.hf ≤ c.fi)) ∨ (c.k ≠ 2∧c.fi ≠ -1)):=hF
   clear hF
   go_wp2_with (rw [← HW0.out])
   all_goals first
    | (go_ret; exact ⟨ret_int HX2.out.symm,HB0.out⟩)
    | (exfalso; have:=HF.out; simp only [beq_iff_eq,beq_eq_false_iff_ne,bne_iff_ne,bne_eq_false_iff_eq,ne_eq] at *; omega)
  ·have HX2 : Hid (raloneI n c = if (rmeetB c 1 c 2 || rmeetB c 1 c 3 || rmeetB c 2 c 3) = true then 12 else 0):=by show _ = _; rw [HX.out,if_neg hF]
   have HP : Hid (c.k = 2∧0 ≤ c.fi∧c.fi < c.hf ∨ (c.k == 2) = false∧c.fi = -1):=by
    show _ ∨ _
    rw [beq_eq_false_iff_ne]
    omega
   clear hF
   have fin : Hid (∀ W a b d,Below w0.heap.size w0 W → a = rmeetB c 1 c 2 → b = rmeetB c 1 c 3 → d = rmeetB c 2 c 3 → Ending.returned (.int .i64 (if (a || b || d) = true then 12 else 0)) = Ending.returned (.int .i64 (raloneI n c))∧Below w.heap.size w W):=fun W a b d hW ha hb hd => ⟨by rw [HX2.out,ha,hb,hd],bstep HB0.out hW⟩
   obtain ⟨hk,h5,h6⟩ | ⟨hk,h5⟩:=HP.out
   ·obtain ⟨k,tf,tt,hf,ht,fi,t0,t1,t2,t3⟩:=c
    simp only at *
    subst hk
    go_wp2_with (rw [← HW0.out])
    refine (HM.out _ _ _).mono ?_
    rintro e w1 ⟨rfl,hb1⟩
    have HB1 : Hid (Below w0.heap.size w0 w1):=bstep (Below.refl _ _) hb1
    clear hb1 c0 c1 c2 c3 c4 c5 c6 c7 c8 c9
    obtain ⟨c0,c1,c2,c3,c4,c5,c6,c7,c8,c9⟩:=HK.out w1 HB1.out
    cases m1 : rmeetB ⟨2,tf,tt,hf,ht,fi,t0,t1,t2,t3⟩ 1 ⟨2,tf,tt,hf,ht,fi,t0,t1,t2,t3⟩ 2 with
    | true =>
     go_wp2_with fail
     go_ret
     have:=fin.out w1 true _ _ HB1.out m1.symm rfl rfl
     simpa using this
    | false =>
     go_wp2_with fail
     refine (HM.out _ _ _).mono ?_
     rintro e w2 ⟨rfl,hb2⟩
     have HB2 : Hid (Below w0.heap.size w0 w2):=bstep HB1.out hb2
     clear hb2 c0 c1 c2 c3 c4 c5 c6 c7 c8 c9
     obtain ⟨c0,c1,c2,c3,c4,c5,c6,c7,c8,c9⟩:=HK.out w2 HB2.out
     cases m2 : rmeetB ⟨2,tf,tt,hf,ht,fi,t0,t1,t2,t3⟩ 1 ⟨2,tf,tt,hf,ht,fi,t0,t1,t2,t3⟩ 3 with
     | true =>
      go_wp2_with fail
      go_ret
      have:=fin.out w2 false true _ HB2.out m1.symm m2.symm rfl
      simpa using this
     | false =>
      go_wp2_with fail
      refine (HM.out _ _ _).mono ?_
      rintro e w3 ⟨rfl,hb3⟩
      have HB3 : Hid (Below w0.heap.size w0 w3):=bstep HB2.out hb3
      clear hb3 c0 c1 c2 c3 c4 c5 c6 c7 c8 c9
      obtain ⟨c0,c1,c2,c3,c4,c5,c6,c7,c8,c9⟩:=HK.out w3 HB3.out
      cases m3 : rmeetB ⟨2,tf,tt,hf,ht,fi,t0,t1,t2,t3⟩ 2 ⟨2,tf,tt,hf,ht,fi,t0,t1,t2,t3⟩ 3 with
      | true =>
       go_wp2_with fail
       go_ret
       have:=fin.out w3 false false true HB3.out m1.symm m2.symm m3.symm
       simpa using this
      | false =>
       go_wp2_with fail
       go_ret
       have:=fin.out w3 false false false HB3.out m1.symm m2.symm m3.symm
       simpa using this
   ·have n1 : ¬ c.k < 1:=by omega
    have n2 : ¬ 4 < c.k:=by omega
    obtain ⟨k,tf,tt,hf,ht,fi,t0,t1,t2,t3⟩:=c
    simp only at *
    have n3 : ¬ k = 2:=by rw [beq_eq_false_iff_ne] at hk; exact hk
    subst h5
    go_wp2_with (rw [← HW0.out])
    refine (HM.out _ _ _).mono ?_
    rintro e w1 ⟨rfl,hb1⟩
    have HB1 : Hid (Below w0.heap.size w0 w1):=bstep (Below.refl _ _) hb1
    clear hb1 c0 c1 c2 c3 c4 c5 c6 c7 c8 c9
    obtain ⟨c0,c1,c2,c3,c4,c5,c6,c7,c8,c9⟩:=HK.out w1 HB1.out
    cases m1 : rmeetB ⟨k,tf,tt,hf,ht, -1,t0,t1,t2,t3⟩ 1 ⟨k,tf,tt,hf,ht, -1,t0,t1,t2,t3⟩ 2 with
    | true =>
     go_wp2_with fail
     go_ret
     have:=fin.out w1 true _ _ HB1.out m1.symm rfl rfl
     simpa using this
    | false =>
     go_wp2_with fail
     refine (HM.out _ _ _).mono ?_
     rintro e w2 ⟨rfl,hb2⟩
     have HB2 : Hid (Below w0.heap.size w0 w2):=bstep HB1.out hb2
     clear hb2 c0 c1 c2 c3 c4 c5 c6 c7 c8 c9
     obtain ⟨c0,c1,c2,c3,c4,c5,c6,c7,c8,c9⟩:=HK.out w2 HB2.out
     cases m2 : rmeetB ⟨k,tf,tt,hf,ht, -1,t0,t1,t2,t3⟩ 1 ⟨k,tf,tt,hf,ht, -1,t0,t1,t2,t3⟩ 3 with
     | true =>
      go_wp2_with fail
      go_ret
      have:=fin.out w2 false true _ HB2.out m1.symm m2.symm rfl
      simpa using this
     | false =>
      go_wp2_with fail
      refine (HM.out _ _ _).mono ?_
      rintro e w3 ⟨rfl,hb3⟩
      have HB3 : Hid (Below w0.heap.size w0 w3):=bstep HB2.out hb3
      clear hb3 c0 c1 c2 c3 c4 c5 c6 c7 c8 c9
      obtain ⟨c0,c1,c2,c3,c4,c5,c6,c7,c8,c9⟩:=HK.out w3 HB3.out
      cases m3 : rmeetB ⟨k,tf,tt,hf,ht, -1,t0,t1,t2,t3⟩ 2 ⟨k,tf,tt,hf,ht, -1,t0,t1,t2,t3⟩ 3 with
      | true =>
       go_wp2_with fail
       go_ret
       have:=fin.out w3 false false true HB3.out m1.symm m2.symm m3.symm
       simpa using this
      | false =>
       go_wp2_with fail
       go_ret
       have:=fin.out w3 false false false HB3.out m1.symm m2.symm m3.symm
       simpa using this
set_option maxHeartbeats 8000000 in
theorem rfits_any (a b : Cl) (w : World) :
  Calls Tryz.prog 257 #[clV a,clV b] w fun e w' => e = .returned (.bool (rfitB a b))∧Below w.heap.size w w':=by
 obtain ⟨w0,hw0⟩ : ∃ W,W = (w.alloc (.cells #[.int .i64 a.k,.int .i64 a.tf,.int .i64 a.tt,.int .i64 a.hf,.int .i64 a.ht,.int .i64 a.fi,.int .i64 a.t0,.int .i64 a.t1,.int .i64 a.t2,.bool a.t3] 101)).alloc (.cells #[.int .i64 b.k,.int .i64 b.tf,.int .i64 b.tt,.int .i64 b.hf,.int .i64 b.ht,.int .i64 b.fi,.int .i64 b.t0,.int .i64 b.t1,.int .i64 b.t2,.bool b.t3] 101):=⟨_,rfl⟩
 have HW0 : Hid (w0 = _):=hw0
 have HB0 : Hid (Below w.heap.size w w0):=by rw [hw0]; exact bbox (made_below _ _ _) _
 have hA : At w0 w.heap.size (clC a).toArray 101:=by rw [hw0]; exact (At.made w (clC a).toArray _).next _
 have hA2 : At w0 (w.heap.size + 1) (clC b).toArray 101:=by
  rw [hw0]; exact At.made2 w _ (clC b).toArray 101
 have HK : Hid (∀ W,Below w0.heap.size w0 W → Ten W w.heap.size 0 a∧Ten W (w.heap.size + 1) 0 b):=fun W hW => ⟨(hA.later hW).ten,(hA2.later hW).ten⟩
 have HBo : Hid (∀ W q,Calls Tryz.prog 265 #[.agg #[.int .i64 b.k,.int .i64 b.tf,.int .i64 b.tt,.int .i64 b.hf,.int .i64 b.ht,.int .i64 b.fi,.int .i64 b.t0,.int .i64 b.t1,.int .i64 b.t2,.bool b.t3],.int .i64 q] W fun e w' => e = .returned (.tuple #[.int .i64 (bnd b q).1,.int .i64 (bnd b q).2])∧Below W.heap.size W w'):=fun W q => bounds9_any b q W
 have HWi : Hid (∀ W p q,Calls Tryz.prog 266 #[.agg #[.int .i64 a.k,.int .i64 a.tf,.int .i64 a.tt,.int .i64 a.hf,.int .i64 a.ht,.int .i64 a.fi,.int .i64 a.t0,.int .i64 a.t1,.int .i64 a.t2,.bool a.t3],.int .i64 p,.agg #[.int .i64 b.k,.int .i64 b.tf,.int .i64 b.tt,.int .i64 b.hf,.int .i64 b.ht,.int .i64 b.fi,.int .i64 b.t0,.int .i64 b.t1,.int .i64 b.t2,.bool b.t3],.int .i64 q] W fun e w' => e = .returned (.bool (rwithinB a p b q))∧Below W.heap.size W w'):=fun W p q => rwithin_any a p b q W
 have HMe : Hid (∀ W p q,Calls Tryz.prog 264 #[.agg #[.int .i64 a.k,.int .i64 a.tf,.int .i64 a.tt,.int .i64 a.hf,.int .i64 a.ht,.int .i64 a.fi,.int .i64 a.t0,.int .i64 a.t1,.int .i64 a.t2,.bool a.t3],.int .i64 p,.agg #[.int .i64 b.k,.int .i64 b.tf,.int .i64 b.tt,.int .i64 b.hf,.int .i64 b.ht,.int .i64 b.fi,.int .i64 b.t0,.int .i64 b.t1,.int .i64 b.t2,.bool b.t3],.int .i64 q] W fun e w' => e = .returned (.bool (rmeetB a p b q))∧Below W.heap.size W w'):=fun W p q => rmeet_any a p b q W
 clear hw0 hA hA2
 unfold clV
 go_enter Tryz.func257,Tryz.ntmps257
 go_wp2_with (rw [← HW0.out])
 go_loopw [5] (fun z wr => ∃ q : Int,1 ≤ q∧q ≤ 4∧z = .int .i64 q∧Below w0.heap.size w0 wr∧Hid (∀ k,1 ≤ k → k < q → rholdB a b k = false)) (fun z _ => 4 - (intOf z).toNat)
 case atStart => exact ⟨1,by omega,by omega,rfl,Below.refl _ _,fun k h1 h2 => by omega⟩
 case round =>
  obtain ⟨q,hq1,hq4,rfl,hB,HZ⟩:=hrel
  have HBL : Hid (Below w0.heap.size w0 wr):=hB
  by_cases hq3 : q ≤ 3
  ·obtain ⟨_,d0,d1,d2,d3,d4,d5,d6,d7,d8,d9⟩:=HK.out wr hB
   have HHo : Hid (rholdB a b q = (decide ((bnd b q).1 < (bnd b q).2) && rwithinB a 1 b q && rwithinB a 2 b q && rwithinB a 3 b q)):=rfl
   have HNx : Hid (rholdB a b q = false → ∀ k,1 ≤ k → k < q + 1 → rholdB a b k = false):=fun h k h1 h2 => by
    rcases Int.lt_or_le k q with g | g
    ·exact HZ.out k h1 g
    ·obtain rfl : k = q:=by omega
     exact h
   have HYe : Hid (rholdB a b q = true → rfitB a b = true):=fun h => by
    unfold rfitB
    have : q = 1 ∨ q = 2 ∨ q = 3:=by omega
    rcases this with rfl | rfl | rfl <;> rw [if_pos (by simp [h])]
   clear hB
   go_wp2_with fail
   refine (HBo.out _ _).mono ?_
   rintro e w1 ⟨rfl,hb1⟩
   have hB1:=bstep HBL.out hb1
   have HB1 : Hid (Below w0.heap.size w0 w1):=hB1
   clear hb1 d0 d1 d2 d3 d4 d5 d6 d7 d8 d9
   obtain ⟨⟨e0,e1,e2,e3,e4,e5,e6,e7,e8,e9⟩,d0,d1,d2,d3,d4,d5,d6,d7,d8,d9⟩:=HK.out w1 hB1
   clear hB1
   generalize (bnd b q).1 = x at *
   generalize (bnd b q).2 = y at *
   by_cases hxy : x < y
   ·go_wp2_with fail
    refine (HWi.out _ _ _).mono ?_
    rintro e w2 ⟨rfl,hb2⟩
    have HB2 : Hid (Below w0.heap.size w0 w2):=bstep HB1.out hb2
    clear hb2 e0 e1 e2 e3 e4 e5 e6 e7 e8 e9 d0 d1 d2 d3 d4 d5 d6 d7 d8 d9
    obtain ⟨⟨e0,e1,e2,e3,e4,e5,e6,e7,e8,e9⟩,d0,d1,d2,d3,d4,d5,d6,d7,d8,d9⟩:=HK.out w2 HB2.out
    cases hw1 : rwithinB a 1 b q with
    | false =>
     have HF : Hid (rholdB a b q = false):=by show _ = _; rw [HHo.out,hw1]; simp
     go_wp2_with fail
     go_roundw
     case rel => exact ⟨q + 1,by omega,by omega,by go_num,HB2.out,HNx.out HF.out⟩
     case measure => simp [intOf]; omega
    | true =>
     go_wp2_with fail
     refine (HWi.out _ _ _).mono ?_
     rintro e w3 ⟨rfl,hb3⟩
     have HB3 : Hid (Below w0.heap.size w0 w3):=bstep HB2.out hb3
     clear hb3 e0 e1 e2 e3 e4 e5 e6 e7 e8 e9 d0 d1 d2 d3 d4 d5 d6 d7 d8 d9
     obtain ⟨⟨e0,e1,e2,e3,e4,e5,e6,e7,e8,e9⟩,d0,d1,d2,d3,d4,d5,d6,d7,d8,d9⟩:=HK.out w3 HB3.out
     cases hw2 : rwithinB a 2 b q with
     | false =>
      have HF : Hid (rholdB a b q = false):=by show _ = _; rw [HHo.out,hw2]; simp
      go_wp2_with fail
      go_roundw
      case rel => exact ⟨q + 1,by omega,by omega,by go_num,HB3.out,HNx.out HF.out⟩
      case measure => simp [intOf]; omega
     | true =>
      go_wp2_with fail
      refine (HWi.out _ _ _).mono ?_
      rintro e w4 ⟨rfl,hb4⟩
      have HB4 : Hid (Below w0.heap.size w0 w4):=bstep HB3.out hb4
      clear hb4 e0 e1 e2 e3 e4 e5 e6 e7 e8 e9 d0 d1 d2 d3 d4 d5 d6 d7 d8 d9
      obtain ⟨⟨e0,e1,e2,e3,e4,e5,e6,e7,e8,e9⟩,d0,d1,d2,d3,d4,d5,d6,d7,d8,d9⟩:=HK.out w4 HB4.out
      cases hw3 : rwithinB a 3 b q with
      | false =>
       have HF : Hid (rholdB a b q = false):=by show _ = _; rw [HHo.out,hw3]; simp
       go_wp2_with fail
       go_roundw
       case rel => exact ⟨q + 1,by omega,by omega,by go_num,HB4.out,HNx.out HF.out⟩
       case measure => simp [intOf]; omega
      | true =>
       have HT : Hid (rfitB a b = true):=HYe.out (by rw [HHo.out,hw1,hw2,hw3,decide_eq_true hxy]; rfl)
       go_wp2_with fail
       go_ret
       exact ⟨ret_bool HT.out.symm,bstep HB0.out HB4.out⟩
   ·have HF : Hid (rholdB a b q = false):=by show _ = _; rw [HHo.out,decide_eq_false hxy]; rfl
    go_wp2_with fail
    go_roundw
    case rel => exact ⟨q + 1,by omega,by omega,by go_num,HB1.out,HNx.out HF.out⟩
    case measure => simp [intOf]; omega
  ·have HNo : Hid ((rholdB a b 1 || rholdB a b 2 || rholdB a b 3) = false):=by
    show _ = _
    rw [HZ.out 1 (by omega) (by omega),HZ.out 2 (by omega) (by omega),HZ.out 3 (by omega) (by omega)]; rfl
   obtain ⟨⟨e0,e1,e2,e3,e4,e5,e6,e7,e8,e9⟩,d0,d1,d2,d3,d4,d5,d6,d7,d8,d9⟩:=HK.out wr hB
   have HSm : Hid (rsameB a b = (decide (a.tf = b.tf) && decide (a.tt = b.tt))):=rfl
   obtain ⟨sv,hsv⟩ : ∃ s,s = rsameB a b:=⟨_,rfl⟩
   have HSv : Hid (sv = rsameB a b):=hsv
   have HTt : Hid ((a.tf == b.tf) = true∧(a.tt == b.tt) = sv ∨ (a.tf == b.tf) = false∧sv = false):=by
    show _ ∨ _
    rw [hsv,HSm.out]
    cases h1 : (a.tf == b.tf) with
    | true =>
     rw [beq_iff_eq] at h1
     rw [decide_eq_true h1]
     refine .inl ⟨rfl, ?_⟩
     rw [Bool.eq_iff_iff]; simp
    | false =>
     rw [beq_eq_false_iff_ne] at h1
     rw [decide_eq_false h1]
     exact .inr ⟨rfl,rfl⟩
   clear hB hsv
   have HFt : Hid ((rbadsB a b 1 || rbadsB a b 2 || rbadsB a b 3) = false → rfitB a b = true):=fun h => by unfold rfitB; rw [if_neg (by rw [HNo.out]; decide),h]; rfl
   have HFf : Hid (∀ p q,1 ≤ p → p ≤ 3 → 1 ≤ q → q ≤ 3 → rbadB a b p q = true → rfitB a b = false):=fun p q hp1 hp3 hq1 hq3 h => by
    have hb : rbadsB a b p = true:=by
     unfold rbadsB
     have : q = 1 ∨ q = 2 ∨ q = 3:=by omega
     rcases this with rfl | rfl | rfl <;> simp [h]
    unfold rfitB
    rw [if_neg (by rw [HNo.out]; decide)]
    have : p = 1 ∨ p = 2 ∨ p = 3:=by omega
    rcases this with rfl | rfl | rfl <;> simp [hb]
   obtain ⟨h1,h2⟩ | ⟨h1,h2⟩:=HTt.out
   ·cases sv with
    | true =>
     go_wp2_with fail
     obtain ⟨wo,rfl⟩ : ∃ wo,wo = wr:=⟨_,rfl⟩
     go_loopw [9] (fun z wr => ∃ p : Int,1 ≤ p∧p ≤ 4∧z = .int .i64 p∧Below w0.heap.size w0 wr∧Hid (∀ k,1 ≤ k → k < p → rbadsB a b k = false)) (fun z _ => 4 - (intOf z).toNat)
     case atStart => exact ⟨1,by omega,by omega,rfl,HBL.out,fun k h1 h2 => by omega⟩
     case round =>
      obtain ⟨p,hp1,hp4,rfl,hB,HZp⟩:=hrel
      have HBp : Hid (Below w0.heap.size w0 wr):=hB
      clear hB
      by_cases hp3 : p ≤ 3
      ·go_wp2_with fail
       obtain ⟨wp,rfl⟩ : ∃ wp,wp = wr:=⟨_,rfl⟩
       go_loopw [10] (fun z wr => ∃ q : Int,1 ≤ q∧q ≤ 4∧z = .int .i64 q∧Below w0.heap.size w0 wr∧Hid (∀ k,1 ≤ k → k < q → rbadB a b p k = false)) (fun z _ => 4 - (intOf z).toNat)
       case atStart => exact ⟨1,by omega,by omega,rfl,HBp.out,fun k h1 h2 => by omega⟩
       case round =>
        obtain ⟨q,hq1,hq4,rfl,hB,HZq⟩:=hrel
        have HBq : Hid (Below w0.heap.size w0 wr):=hB
        by_cases hq3 : q ≤ 3
        ·clear e0 e1 e2 e3 e4 e5 e6 e7 e8 e9 d0 d1 d2 d3 d4 d5 d6 d7 d8 d9
         obtain ⟨⟨e0,e1,e2,e3,e4,e5,e6,e7,e8,e9⟩,d0,d1,d2,d3,d4,d5,d6,d7,d8,d9⟩:=HK.out wr hB
         have HNq : Hid (rbadB a b p q = false → ∀ k,1 ≤ k → k < q + 1 → rbadB a b p k = false):=fun h k h1 h2 => by
          rcases Int.lt_or_le k q with g | g
          ·exact HZq.out k h1 g
          ·obtain rfl : k = q:=by omega
           exact h
         have HBd : Hid (rbadB a b p q = (rmeetB a p b q && !(true && decide (p = 1) && decide (q = 1)))):=by show _ = _; rw [HSv.out]; rfl
         clear hB
         go_wp2_with fail
         refine (HMe.out _ _ _).mono ?_
         rintro e w1 ⟨rfl,hb1⟩
         have HB1 : Hid (Below w0.heap.size w0 w1):=bstep HBq.out hb1
         clear hb1
         cases hm : rmeetB a p b q with
         | false =>
          have HF : Hid (rbadB a b p q = false):=by show _ = _; rw [HBd.out,hm]; rfl
          go_wp2_with fail
          go_roundw
          case rel => exact ⟨q + 1,by omega,by omega,by go_num,HB1.out,HNq.out HF.out⟩
          case measure => simp [intOf]; omega
         | true =>
          by_cases hpe : p = 1
          ·have hpe' : (p == 1) = true:=by rw [hpe]; rfl
           by_cases hqe : q = 1
           ·have hqe' : (q == 1) = true:=by rw [hqe]; rfl
            have HF : Hid (rbadB a b p q = false):=by show _ = _; rw [HBd.out,hm,decide_eq_true hpe,decide_eq_true hqe]; rfl
            clear hpe hqe
            go_wp2_with fail
            go_roundw
            case rel => exact ⟨q + 1,by omega,by omega,by go_num,HB1.out,HNq.out HF.out⟩
            case measure => simp [intOf]; omega
           ·have hqe' : (q == 1) = false:=by rw [beq_eq_false_iff_ne]; exact hqe
            have HT : Hid (rfitB a b = false):=HFf.out p q (by omega) (by omega) (by omega) (by omega) (by rw [HBd.out,hm,decide_eq_false hqe]; simp)
            clear hpe hqe
            go_wp2_with fail
            go_ret
            exact ⟨ret_bool HT.out.symm,bstep HB0.out HB1.out⟩
          ·have hpe' : (p == 1) = false:=by rw [beq_eq_false_iff_ne]; exact hpe
           have HT : Hid (rfitB a b = false):=HFf.out p q (by omega) (by omega) (by omega) (by omega) (by rw [HBd.out,hm,decide_eq_false hpe]; simp)
           clear hpe
           go_wp2_with fail
           go_ret
           exact ⟨ret_bool HT.out.symm,bstep HB0.out HB1.out⟩
        ·have HF : Hid (rbadsB a b p = false):=by
          show _ = _
          unfold rbadsB
          rw [HZq.out 1 (by omega) (by omega),HZq.out 2 (by omega) (by omega),HZq.out 3 (by omega) (by omega)]; rfl
         go_wp2_with fail
         go_roundw
         case rel => exact ⟨p + 1,by omega,by omega,by go_num,HBq.out,fun k h1 h2 => by
          rcases Int.lt_or_le k p with g | g
          ·exact HZp.out k h1 g
          ·obtain rfl : k = p:=by omega
           exact HF.out⟩
         case measure => simp [intOf]; omega
      ·have HT : Hid (rfitB a b = true):=HFt.out (by rw [HZp.out 1 (by omega) (by omega),HZp.out 2 (by omega) (by omega),HZp.out 3 (by omega) (by omega)]; rfl)
       go_wp2_with fail
       go_ret
       exact ⟨ret_bool HT.out.symm,bstep HB0.out HBp.out⟩
    | false =>
     go_wp2_with fail
     obtain ⟨wo,rfl⟩ : ∃ wo,wo = wr:=⟨_,rfl⟩
     go_loopw [9] (fun z wr => ∃ p : Int,1 ≤ p∧p ≤ 4∧z = .int .i64 p∧Below w0.heap.size w0 wr∧Hid (∀ k,1 ≤ k → k < p → rbadsB a b k = false)) (fun z _ => 4 - (intOf z).toNat)
     case atStart => exact ⟨1,by omega,by omega,rfl,HBL.out,fun k h1 h2 => by omega⟩
     case round =>
      obtain ⟨p,hp1,hp4,rfl,hB,HZp⟩:=hrel
      have HBp : Hid (Below w0.heap.size w0 wr):=hB
      clear hB
      by_cases hp3 : p ≤ 3
      ·go_wp2_with fail
       obtain ⟨wp,rfl⟩ : ∃ wp,wp = wr:=⟨_,rfl⟩
       go_loopw [10] (fun z wr => ∃ q : Int,1 ≤ q∧q ≤ 4∧z = .int .i64 q∧Below w0.heap.size w0 wr∧Hid (∀ k,1 ≤ k → k < q → rbadB a b p k = false)) (fun z _ => 4 - (intOf z).toNat)
       case atStart => exact ⟨1,by omega,by omega,rfl,HBp.out,fun k h1 h2 => by omega⟩
       case round =>
        obtain ⟨q,hq1,hq4,rfl,hB,HZq⟩:=hrel
        have HBq : Hid (Below w0.heap.size w0 wr):=hB
        by_cases hq3 : q ≤ 3
        ·clear e0 e1 e2 e3 e4 e5 e6 e7 e8 e9 d0 d1 d2 d3 d4 d5 d6 d7 d8 d9
         obtain ⟨⟨e0,e1,e2,e3,e4,e5,e6,e7,e8,e9⟩,d0,d1,d2,d3,d4,d5,d6,d7,d8,d9⟩:=HK.out wr hB
         have HNq : Hid (rbadB a b p q = false → ∀ k,1 ≤ k → k < q + 1 → rbadB a b p k = false):=fun h k h1 h2 => by
          rcases Int.lt_or_le k q with g | g
          ·exact HZq.out k h1 g
          ·obtain rfl : k = q:=by omega
           exact h
         have HBd : Hid (rbadB a b p q = (rmeetB a p b q && !(false && decide (p = 1) && decide (q = 1)))):=by show _ = _; rw [HSv.out]; rfl
         clear hB
         go_wp2_with fail
         refine (HMe.out _ _ _).mono ?_
         rintro e w1 ⟨rfl,hb1⟩
         have HB1 : Hid (Below w0.heap.size w0 w1):=bstep HBq.out hb1
         clear hb1
         cases hm : rmeetB a p b q with
         | false =>
          have HF : Hid (rbadB a b p q = false):=by show _ = _; rw [HBd.out,hm]; rfl
          go_wp2_with fail
          go_roundw
          case rel => exact ⟨q + 1,by omega,by omega,by go_num,HB1.out,HNq.out HF.out⟩
          case measure => simp [intOf]; omega
         | true =>
          have HT : Hid (rfitB a b = false):=HFf.out p q (by omega) (by omega) (by omega) (by omega) (by rw [HBd.out,hm]; simp [*])
          go_wp2_with fail
          go_ret
          exact ⟨ret_bool HT.out.symm,bstep HB0.out HB1.out⟩
        ·have HF : Hid (rbadsB a b p = false):=by
          show _ = _
          unfold rbadsB
          rw [HZq.out 1 (by omega) (by omega),HZq.out 2 (by omega) (by omega),HZq.out 3 (by omega) (by omega)]; rfl
         go_wp2_with fail
         go_roundw
         case rel => exact ⟨p + 1,by omega,by omega,by go_num,HBq.out,fun k h1 h2 => by
          rcases Int.lt_or_le k p with g | g
          ·exact HZp.out k h1 g
          ·obtain rfl : k = p:=by omega
           exact HF.out⟩
         case measure => simp [intOf]; omega
      ·have HT : Hid (rfitB a b = true):=HFt.out (by rw [HZp.out 1 (by omega) (by omega),HZp.out 2 (by omega) (by omega),HZp.out 3 (by omega) (by omega)]; rfl)
       go_wp2_with fail
       go_ret
       exact ⟨ret_bool HT.out.symm,bstep HB0.out HBp.out⟩
   ·subst h2
    go_wp2_with fail
    obtain ⟨wo,rfl⟩ : ∃ wo,wo = wr:=⟨_,rfl⟩
    go_loopw [9] (fun z wr => ∃ p : Int,1 ≤ p∧p ≤ 4∧z = .int .i64 p∧Below w0.heap.size w0 wr∧Hid (∀ k,1 ≤ k → k < p → rbadsB a b k = false)) (fun z _ => 4 - (intOf z).toNat)
    case atStart => exact ⟨1,by omega,by omega,rfl,HBL.out,fun k h1 h2 => by omega⟩
    case round =>
     obtain ⟨p,hp1,hp4,rfl,hB,HZp⟩:=hrel
     have HBp : Hid (Below w0.heap.size w0 wr):=hB
     clear hB
     by_cases hp3 : p ≤ 3
     ·go_wp2_with fail
      obtain ⟨wp,rfl⟩ : ∃ wp,wp = wr:=⟨_,rfl⟩
      go_loopw [10] (fun z wr => ∃ q : Int,1 ≤ q∧q ≤ 4∧z = .int .i64 q∧Below w0.heap.size w0 wr∧Hid (∀ k,1 ≤ k → k < q → rbadB a b p k = false)) (fun z _ => 4 - (intOf z).toNat)
      case atStart => exact ⟨1,by omega,by omega,rfl,HBp.out,fun k h1 h2 => by omega⟩
      case round =>
       obtain ⟨q,hq1,hq4,rfl,hB,HZq⟩:=hrel
       have HBq : Hid (Below w0.heap.size w0 wr):=hB
       by_cases hq3 : q ≤ 3
       ·clear e0 e1 e2 e3 e4 e5 e6 e7 e8 e9 d0 d1 d2 d3 d4 d5 d6 d7 d8 d9
        obtain ⟨⟨e0,e1,e2,e3,e4,e5,e6,e7,e8,e9⟩,d0,d1,d2,d3,d4,d5,d6,d7,d8,d9⟩:=HK.out wr hB
        have HNq : Hid (rbadB a b p q = false → ∀ k,1 ≤ k → k < q + 1 → rbadB a b p k = false):=fun h k h1 h2 => by
         rcases Int.lt_or_le k q with g | g
         ·exact HZq.out k h1 g
         ·obtain rfl : k = q:=by omega
          exact h
        have HBd : Hid (rbadB a b p q = (rmeetB a p b q && !(false && decide (p = 1) && decide (q = 1)))):=by show _ = _; rw [HSv.out]; rfl
        clear hB
        go_wp2_with fail
        refine (HMe.out _ _ _).mono ?_
        rintro e w1 ⟨rfl,hb1⟩
        have HB1 : Hid (Below w0.heap.size w0 w1):=bstep HBq.out hb1
        clear hb1
        cases hm : rmeetB a p b q with
        | false =>
         have HF : Hid (rbadB a b p q = false):=by show _ = _; rw [HBd.out,hm]; rfl
         go_wp2_with fail
         go_roundw
         case rel => exact ⟨q + 1,by omega,by omega,by go_num,HB1.out,HNq.out HF.out⟩
         case measure => simp [intOf]; omega
        | true =>
         have HT : Hid (rfitB a b = false):=HFf.out p q (by omega) (by omega) (by omega) (by omega) (by rw [HBd.out,hm]; simp [*])
         go_wp2_with fail
         go_ret
         exact ⟨ret_bool HT.out.symm,bstep HB0.out HB1.out⟩
       ·have HF : Hid (rbadsB a b p = false):=by
         show _ = _
         unfold rbadsB
         rw [HZq.out 1 (by omega) (by omega),HZq.out 2 (by omega) (by omega),HZq.out 3 (by omega) (by omega)]; rfl
        go_wp2_with fail
        go_roundw
        case rel => exact ⟨p + 1,by omega,by omega,by go_num,HBq.out,fun k h1 h2 => by
         rcases Int.lt_or_le k p with g | g
         ·exact HZp.out k h1 g
         ·obtain rfl : k = p:=by omega
          exact HF.out⟩
        case measure => simp [intOf]; omega
     ·have HT : Hid (rfitB a b = true):=HFt.out (by rw [HZp.out 1 (by omega) (by omega),HZp.out 2 (by omega) (by omega),HZp.out 3 (by omega) (by omega)]; rfl)
      go_wp2_with fail
      go_ret
      exact ⟨ret_bool HT.out.symm,bstep HB0.out HBp.out⟩
end Go.Proofs.YthpmpdpfnlecmaaGreat
