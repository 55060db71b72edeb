/- Texts joined: RefOwn10, FormB10, FormC10, RefBase9. -/
import Derived.Test.YthpmpdpfnlecmaaGreatQ19
import Derived.Test.YthpmpdpfnlecmaaGreatQ31
import Derived.Test.YthpmpdpfnlecmaaGreatQ24
import Derived.Test.YthpmpdpfnlecmaaGreatQ01
import Derived.Test.YthpmpdpfnlecmaaGreatQ18
namespace Go.Proofs.YthpmpdpfnlecmaaGreat
set_option linter.unusedVariables false
set_option linter.unusedSimpArgs false
open Go.RowKit
attribute [local go_sem ↓] Go.wp_at_zero Go.wp_at_succ
def mB (p n : Nat) (t : Ty) : Bool:=mayT p t && ownB n t
def rownB (n : Nat) (t : Ty) : Bool:=(decide (t.1 ≠ 5) && decide (t.1 ≠ 6)) || decide (t.2.1 < n)
theorem rown_eq {p n : Nat} {t : Ty} (hp : p = 1 ∨ p = 2 ∨ p = 3) (h : mayT p t = true) : rownB n t = ownB n t:=by
 have hpl : plainB t.1 t.2.1 t.2.2.1 t.2.2.2 = true:=by
  unfold mayT mayB at h
  rcases hp with rfl | rfl | rfl
  ·rw [if_pos rfl] at h; simp only [Bool.and_eq_true] at h; exact h.1.1
  ·rw [if_neg (by decide),if_pos rfl] at h; simp only [Bool.and_eq_true] at h; exact h.1
  ·rw [if_neg (by decide),if_neg (by decide),if_pos rfl] at h; simp only [Bool.and_eq_true] at h; exact h.1
 have h0 : 0 ≤ t.2.1:=(plain_facts hpl).2.2.1
 unfold rownB ownB numB
 rw [Bool.eq_iff_iff]
 by_cases h5 : t.1 = 5 ∨ t.1 = 6
 ·rw [if_pos h5]; simp; omega
 ·rw [if_neg h5]; simp; omega
theorem mB_eq {p n : Nat} {t : Ty} (hp : p = 1 ∨ p = 2 ∨ p = 3) : (mayT p t && rownB n t) = mB p n t:=by
 unfold mB
 cases h : mayT p t with
 | false => simp
 | true => rw [rown_eq hp h]

set_option maxHeartbeats 1000000 in
theorem refOwn_any (t : Ty) (n : Nat) (w : World) :
  Calls Tryz.prog 170 #[tv t,.int .i64 n] w fun e w' => e = .returned (.bool (rownB n t))∧Below w.heap.size w w':=by
 obtain ⟨k,i,d,r⟩:=t
 unfold tv
 go_enter Tryz.func170,Tryz.ntmps170
 go_wp2
 all_goals go_ret
 all_goals refine ⟨ret_bool ?_,(Below.refl _ _).alloc (Nat.le_refl _) _⟩
 all_goals try simp only [bne_iff_ne,ne_eq,bne_eq_false_iff_eq,beq_iff_eq,beq_eq_false_iff_ne] at *
 all_goals (unfold rownB; rw [Bool.eq_iff_iff]; simp [*])

set_option maxHeartbeats 1000000 in
theorem refMay_any {p : Nat} (hp : p = 1 ∨ p = 2 ∨ p = 3) (t : Ty) (n : Nat) (w : World) :
  Calls Tryz.prog 115 #[tv t,.int .i64 p,.int .i64 n] w fun e w' => e = .returned (.bool (mB p n t))∧Below w.heap.size w w':=by
 have HE : Hid ((mayT p t && rownB n t) = mB p n t):=mB_eq hp
 obtain ⟨k,i,d,r⟩:=t
 obtain ⟨w0,hw0⟩ : ∃ W,W = w.alloc (.cells #[.int .i64 k,.int .i64 i,.int .i64 d,.bool r] 51):=⟨_,rfl⟩
 have HW0 : Hid (w0 = _):=hw0
 have hb0 : Below w.heap.size w w0:=by rw [hw0]; exact made_below _ _ _
 have HB0 : Hid (Below w.heap.size w w0):=hb0
 have hA : At w0 w.heap.size #[.int .i64 k,.int .i64 i,.int .i64 d,.bool r] 51:=by rw [hw0]; exact At.made w _ _
 have HA : Hid (∀ W,Below w0.heap.size w0 W → At W w.heap.size #[.int .i64 k,.int .i64 i,.int .i64 d,.bool r] 51):=fun W hW => hA.later hW
 have HWh : Hid (Calls Tryz.prog 169 #[.agg #[.int .i64 k,.int .i64 i,.int .i64 d,.bool r],.int .i64 p] w0 fun e w' => e = .returned (.bool (mayB p k i d r))∧Below w0.heap.size w0 w'):=by
  rcases hp with rfl | rfl | rfl
  ·exact where1_any k i d r w0
  ·exact where2_any k i d r w0
  ·exact where3_any k i d r w0
 have hc:=hA.cell
 clear hw0 hb0 hA hp
 unfold tv
 go_enter Tryz.func115,Tryz.ntmps115
 go_wp2_with (rw [← HW0.out])
 refine Calls.mono HWh.out ?_
 rintro e w1 ⟨rfl,hb1⟩
 have HB1 : Hid (Below w0.heap.size w0 w1):=hb1
 have c1:=(HA.out w1 hb1).cell
 clear hb1 hc HWh
 cases hm : mayB p k i d r with
 | false =>
  go_wp2_with fail
  go_ret
  exact ⟨ret_bool (by rw [← HE.out]; unfold mayT; rw [hm]; rfl),bstep HB0.out HB1.out⟩
 | true =>
  have HO : Hid (Calls Tryz.prog 170 #[.agg #[.int .i64 k,.int .i64 i,.int .i64 d,.bool r],.int .i64 n] w1 fun e w' => e = .returned (.bool (rownB n (k,i,d,r)))∧Below w1.heap.size w1 w'):=refOwn_any (k,i,d,r) n w1
  go_wp2_with fail
  refine Calls.mono HO.out ?_
  rintro e w2 ⟨rfl,hb2⟩
  have HB2 : Hid (Below w0.heap.size w0 w2):=bstep HB1.out hb2
  clear hb2 c1 HO
  go_wp2
  go_ret
  exact ⟨ret_bool (by rw [← HE.out]; unfold mayT; rw [hm]; rfl),bstep HB0.out HB2.out⟩

theorem refOf10_any (op : Int) (w : World) :
  Calls Tryz.prog 88 #[.int .i64 op] w fun e w' => ∃ s q z,e = .returned (.tuple #[.agg #[.string s,.int .i64 (opP op),.int .i64 q],.int .i64 z])∧Below w.heap.size w w':=by
 by_cases hin : 1 ≤ op∧op ≤ 75
 ·exact (refOf_at op hin.1 hin.2 w).mono fun e w' ⟨he,hb⟩ => ⟨_,_,_,he,hb⟩
 ·refine (refOf_out op hin w).mono fun e w' ⟨he,hb⟩ => ⟨⟨#[]⟩,0,3, ?_,hb⟩
  rw [he,opP_out hin]
theorem tells_catches (a b c : Nat) (w : World) (l : List Cl) : Tells Tryz.prog clV w 201 #[szV a b c] #[] (catB a) l :=
 ⟨run_enter9 Tryz.func201 (by kernel_rfl) rfl,fun W _ x _ => by simpa using catches_any a b c x W⟩

set_option maxHeartbeats 2000000 in
theorem isClauses_any (a b c : Nat) (x : MD) {w : World} (hx : x.ok w) :
  Calls Tryz.prog 156 #[szV a b c,mdV x] w fun e w' => e = .returned (.bool (rgtB x.co.length x.cl && x.cl.all (catB a)))∧Below w.heap.size w w':=by
 obtain ⟨w0,hw0⟩ : ∃ W,W = (w.alloc (.cells (szC a b c) 109)).alloc (.cells (mdA x) 55):=⟨_,rfl⟩
 have HW0 : Hid (w0 = _):=hw0
 obtain ⟨hb0,hat⟩:=two_boxes hw0
 have HB0 : Hid (Below w.heap.size w w0):=hb0
 have HAT : Hid (∀ W,Below w0.heap.size w0 W → At W w.heap.size (szC a b c) 109∧At W (w.heap.size + 1) (mdA x) 55):=hat
 have HX : Hid (∀ W,Below w.heap.size w W → Es clE9 W (.slice x.ka x.cl.length x.kc) x.cl):=fun W hW => hx.cl.later hW
 obtain ⟨hA1,hA2⟩:=hat w0 (Below.refl _ _)
 have c2:=hA2.cell
 have hcm:=hx.co.len
 have HC : Hid (Calls Tryz.prog 199 #[.int .i64 x.co.length,.slice x.ka x.cl.length x.kc] w0 fun e w' => ∃ i y,e = .returned (.tuple #[.int .i64 i,.int .i64 y])∧decide (y = 0) = rgtB x.co.length x.cl∧Below w0.heap.size w0 w'):=by
  refine (check_any (x.co.length : Int) (HX.out w0 hb0)).mono ?_
  rintro e w' ⟨i,y,rfl,h1,h2⟩
  exact ⟨i,y,rfl,by unfold rgtB; rw [decide_eq_decide]; exact check_right h1,h2⟩
 unfold mdA at c2 HW0
 unfold szC at HW0
 clear hw0 hb0 hat hA1 hA2 hx
 unfold mdV szV
 go_enter Tryz.func156,Tryz.ntmps156
 go_wp2_with (rw [← HW0.out])
 refine Calls.mono HC.out ?_
 rintro e w1 ⟨i,y,rfl,hy,hb1⟩
 have HB1 : Hid (Below w0.heap.size w0 w1):=hb1
 have HY : Hid (decide (y = 0) = rgtB x.co.length x.cl):=hy
 obtain ⟨hA1,hA2⟩:=HAT.out w1 hb1
 have c1:=hA1.cell
 have d2:=hA2.cell
 unfold szC at c1
 unfold mdA at d2
 clear hb1 hy c2 hA1 hA2 HC
 by_cases h0 : y = 0
 ·subst h0
  have HAl : Hid (Calls Tryz.prog 200 #[.slice x.ka x.cl.length x.kc,.func (.func 201) #[.agg #[.int .i64 a,.int .i64 b,.int .i64 c]] #[]] w1 fun e w' => e = .returned (.bool (x.cl.all (catB a)))∧Below w1.heap.size w1 w'):=allC10_any (HX.out w1 (bstep HB0.out HB1.out)) (tells_catches a b c w1 x.cl)
  go_wp2_with fail
  refine Calls.mono HAl.out ?_
  rintro e w2 ⟨rfl,hb2⟩
  have HB2 : Hid (Below w0.heap.size w0 w2):=bstep HB1.out hb2
  clear hb2 c1 d2 HAl
  go_wp2
  go_ret
  exact ⟨ret_bool (by rw [← HY.out]; simp),bstep HB0.out HB2.out⟩
 ·have e0 : (y == 0) = false:=by simpa using h0
  have hd : decide (y = 0) = false:=by simpa using h0
  go_wp2
  go_ret
  exact ⟨ret_bool (by rw [← HY.out,hd]; rfl),bstep HB0.out HB1.out⟩

set_option maxHeartbeats 1000000 in
theorem isFace_any (a b c : Nat) (x : Int) {w : World} {gs : Nat} (hs : At w gs (szC a b c) 109) :
  Calls Tryz.prog 143 #[intV x,.pointer (some ⟨gs,0,none⟩)] w fun e w' => e = .returned (.bool (numB x a))∧Below w.heap.size w w':=by
 have c1:=hs.cell
 unfold szC at c1
 clear hs
 unfold intV
 go_enter Tryz.func143,Tryz.ntmps143
 go_wp2_with (go_at_call 107; refine (isNumber_any _ _ _).mono ?_; rintro e wz ⟨rfl,hz⟩; subst wz)
 go_ret
 exact ⟨ret_bool rfl,Below.refl _ _⟩

set_option maxHeartbeats 4000000 in
theorem isType_any (a b c : Nat) (x : TD) {w : World} (hx : x.ok w) :
  Calls Tryz.prog 98 #[szV a b c,tdV x] w fun e w' => e = .returned (.bool (tdB a x))∧Below w.heap.size w w':=by
 obtain ⟨w0,hw0⟩ : ∃ W,W = (w.alloc (.cells (szC a b c) 109)).alloc (.cells (tdA x) 34):=⟨_,rfl⟩
 have HW0 : Hid (w0 = _):=hw0
 obtain ⟨hb0,hat⟩:=two_boxes hw0
 have HB0 : Hid (Below w.heap.size w w0):=hb0
 have hlm:=hx.len
 unfold maxLen at hlm
 have HAl : Hid (Calls Tryz.prog 146 #[.slice x.fa x.fs.length x.fc,.func (.func 143) #[] #[.pointer (some ⟨w.heap.size,0,none⟩)]] w0 fun e w' => e = .returned (.bool (x.fs.all (fun i => numB i a)))∧Below w0.heap.size w0 w'):=by
  refine allN10_any (hx.later hb0) ⟨run_enter9 Tryz.func143 (by kernel_rfl) rfl,fun W hW y _ => ?_⟩
  simpa using isFace_any a b c y (hat W hW).1
 obtain ⟨hA1,hA2⟩:=hat w0 (Below.refl _ _)
 have c1:=hA1.cell
 have c2:=hA2.cell
 have HF : Hid (tdB a x = (fineB x.nm.data.toList && witB x.fl 31 && (decide (x.ex = -1) || (decide (0 ≤ x.ex) && decide (x.ex < a))) && decide (x.fs.length ≤ 4) && x.fs.all (fun i => numB i a))):=rfl
 unfold tdA at c2 HW0
 unfold szC at c1 HW0
 clear hw0 hb0 hat hA1 hA2 hx
 unfold tdV szV
 go_enter Tryz.func98,Tryz.ntmps98
 go_wp2_with (rw [← HW0.out])
 refine (fine_any _ _).mono ?_
 rintro e wz ⟨rfl,hz⟩
 subst wz
 cases hfi : fineB x.nm.data.toList with
 | false =>
  go_wp2_with fail
  go_ret
  exact ⟨ret_bool (by rw [HF.out,hfi]; simp),HB0.out⟩
 | true =>
  go_wp2_with fail
  refine (isWithin_any _ _ _).mono ?_
  rintro e wz ⟨rfl,hz⟩
  subst wz
  cases hwi : witB x.fl 31 with
  | false =>
   go_wp2_with fail
   go_ret
   exact ⟨ret_bool (by rw [HF.out,hwi]; simp),HB0.out⟩
  | true =>
   have HX : Hid (∀ r : Bool,r = (decide (x.ex = -1) || (decide (0 ≤ x.ex) && decide (x.ex < a))) → tdB a x = (r && decide (x.fs.length ≤ 4) && x.fs.all (fun i => numB i a))):=fun r hr => by rw [HF.out,hfi,hwi,← hr]; simp
   clear hfi hwi HF
   by_cases h1 : x.ex = -1
   ·have HXt : Hid (tdB a x = (decide (x.fs.length ≤ 4) && x.fs.all (fun i => numB i a))):=by show _ = _; rw [HX.out true (by simp [h1])]; simp
    by_cases h4 : x.fs.length ≤ 4
    ·have h4' : (x.fs.length : Int) ≤ 4:=by omega
     have hd : decide (x.fs.length ≤ 4) = true:=by simpa using h4
     go_wp2_with fail
     refine Calls.mono HAl.out ?_
     rintro e w1 ⟨rfl,hb1⟩
     have HB1 : Hid (Below w0.heap.size w0 w1):=hb1
     clear hb1 c1 c2 HAl
     go_wp2
     go_ret
     exact ⟨ret_bool (by rw [HXt.out,hd]; simp),bstep HB0.out HB1.out⟩
    ·have h4' : ¬ (x.fs.length : Int) ≤ 4:=by omega
     have hd : decide (x.fs.length ≤ 4) = false:=by simpa using h4
     go_wp2_with fail
     go_ret
     exact ⟨ret_bool (by rw [HXt.out,hd]; simp),HB0.out⟩
   ·have e1 : (x.ex == -1) = false:=by simpa using h1
    go_wp2_with fail
    refine (isNumber_any _ _ _).mono ?_
    rintro e wz ⟨rfl,hz⟩
    subst wz
    cases hnu : (decide (0 ≤ x.ex) && decide (x.ex < a)) with
    | false =>
     have HXt : Hid (tdB a x = false):=by show _ = _; rw [HX.out false (by rw [hnu]; simp [h1])]; simp
     go_wp2_with fail
     go_ret
     exact ⟨ret_bool HXt.out.symm,HB0.out⟩
    | true =>
     have HXt : Hid (tdB a x = (decide (x.fs.length ≤ 4) && x.fs.all (fun i => numB i a))):=by show _ = _; rw [HX.out true (by rw [hnu]; simp)]; simp
     by_cases h4 : x.fs.length ≤ 4
     ·have h4' : (x.fs.length : Int) ≤ 4:=by omega
      have hd : decide (x.fs.length ≤ 4) = true:=by simpa using h4
      go_wp2_with fail
      refine Calls.mono HAl.out ?_
      rintro e w1 ⟨rfl,hb1⟩
      have HB1 : Hid (Below w0.heap.size w0 w1):=hb1
      clear hb1 c1 c2 HAl
      go_wp2
      go_ret
      exact ⟨ret_bool (by rw [HXt.out,hd]; simp),bstep HB0.out HB1.out⟩
     ·have h4' : ¬ (x.fs.length : Int) ≤ 4:=by omega
      have hd : decide (x.fs.length ≤ 4) = false:=by simpa using h4
      go_wp2_with fail
      go_ret
      exact ⟨ret_bool (by rw [HXt.out,hd]; simp),HB0.out⟩

set_option maxHeartbeats 2000000 in
theorem isField10_any (a b c : Nat) (x : FD) (w : World) :
  Calls Tryz.prog 100 #[szV a b c,fdV x] w fun e w' => e = .returned (.bool (fdB a x))∧Below w.heap.size w w':=by
 obtain ⟨w0,hw0⟩ : ∃ W,W = (w.alloc (.cells (szC a b c) 109)).alloc (.cells (fdA x) 75):=⟨_,rfl⟩
 have HW0 : Hid (w0 = _):=hw0
 obtain ⟨hb0,hat⟩:=two_boxes hw0
 have HB0 : Hid (Below w.heap.size w w0):=hb0
 have HFt : Hid (Calls Tryz.prog 149 #[.agg #[.int .i64 a,.int .i64 b,.int .i64 c],.agg #[.int .i64 x.t.1,.int .i64 x.t.2.1,.int .i64 x.t.2.2.1,.bool x.t.2.2.2]] w0 fun e w' => e = .returned (.bool (fldB a x.t))∧Below w0.heap.size w0 w'):=isFieldType_any a b c x.t w0
 obtain ⟨hA1,hA2⟩:=hat w0 (Below.refl _ _)
 have c1:=hA1.cell
 have c2:=hA2.cell
 have HF : Hid (fdB a x = (fineB x.nm.data.toList && (decide (0 ≤ x.ow) && decide (x.ow < a)) && fldB a x.t)):=rfl
 unfold fdA at c2 HW0
 unfold szC at c1 HW0
 clear hw0 hb0 hat hA1 hA2
 unfold fdV szV
 go_enter Tryz.func100,Tryz.ntmps100
 go_wp2_with (rw [← HW0.out])
 refine (fine_any _ _).mono ?_
 rintro e wz ⟨rfl,hz⟩
 subst wz
 cases hfi : fineB x.nm.data.toList with
 | false =>
  go_wp2_with fail
  go_ret
  exact ⟨ret_bool (by rw [HF.out,hfi]; simp),HB0.out⟩
 | true =>
  go_wp2_with fail
  refine (isNumber_any _ _ _).mono ?_
  rintro e wz ⟨rfl,hz⟩
  subst wz
  cases hnu : (decide (0 ≤ x.ow) && decide (x.ow < a)) with
  | false =>
   go_wp2_with fail
   go_ret
   exact ⟨ret_bool (by rw [HF.out,hnu]; simp),HB0.out⟩
  | true =>
   go_wp2_with fail
   refine Calls.mono HFt.out ?_
   rintro e w1 ⟨rfl,hb1⟩
   have HB1 : Hid (Below w0.heap.size w0 w1):=hb1
   clear hb1 c1 c2 HFt
   go_wp2
   go_ret
   exact ⟨ret_bool (by rw [HF.out,hfi,hnu]; simp),bstep HB0.out HB1.out⟩
set_option maxHeartbeats 4000000 in
theorem isMethod_any (a b c : Nat) (x : MD) {w : World} (hx : x.ok w) :
  Calls Tryz.prog 104 #[szV a b c,mdV x] w fun e w' => e = .returned (.bool (mdB a b c x))∧Below w.heap.size w w':=by
 obtain ⟨w0,hw0⟩ : ∃ W,W = (w.alloc (.cells (szC a b c) 109)).alloc (.cells (mdA x) 55):=⟨_,rfl⟩
 have HW0 : Hid (w0 = _):=hw0
 obtain ⟨hb0,hat⟩:=two_boxes hw0
 have HB0 : Hid (Below w.heap.size w w0):=hb0
 have HAT : Hid (∀ W,Below w0.heap.size w0 W → At W w.heap.size (szC a b c) 109∧At W (w.heap.size + 1) (mdA x) 55):=hat
 have HX : Hid (∀ W,Below w.heap.size w W → x.ok W):=fun W hW => hx.later hW
 obtain ⟨hA1,hA2⟩:=hat w0 (Below.refl _ _)
 have c1:=hA1.cell
 have c2:=hA2.cell
 obtain ⟨rS,hS⟩ : ∃ r,r = (decide (sigE x.ps x.rt = 0) && ownB a x.rt && x.ps.all (ownB a)):=⟨_,rfl⟩
 obtain ⟨rL,hL⟩ : ∃ r,r = (decide (locE x.ls = 0) && x.ls.all (ownB a)):=⟨_,rfl⟩
 obtain ⟨rC,hC⟩ : ∃ r,r = (decide (x.co.length ≤ 160) && x.co.all (insB a b c x.co.length)):=⟨_,rfl⟩
 obtain ⟨rK,hK⟩ : ∃ r,r = (rgtB x.co.length x.cl && x.cl.all (catB a)):=⟨_,rfl⟩
 have HF : Hid (mdB a b c x = (fineB x.nm.data.toList && (decide (0 ≤ x.ow) && decide (x.ow < a)) && witB x.fl 31 && witB x.mx 12 && rS && rL && rC && rK)):=by show _ = _; rw [hS,hL,hC,hK]; rfl
 have HS : Hid (∀ W,Below w0.heap.size w0 W → Calls Tryz.prog 153 #[.agg #[.int .i64 a,.int .i64 b,.int .i64 c],.agg (mdA x)] W fun e w' => e = .returned (.bool rS)∧Below W.heap.size W w'):=fun W hW => by rw [hS]; exact isSig_any a b c x (hx.later (bstep hb0 hW))
 have HL : Hid (∀ W,Below w0.heap.size w0 W → Calls Tryz.prog 154 #[.agg #[.int .i64 a,.int .i64 b,.int .i64 c],.slice x.la x.ls.length x.lc] W fun e w' => e = .returned (.bool rL)∧Below W.heap.size W w'):=fun W hW => by rw [hL]; exact isLocals_any a b c (hx.later (bstep hb0 hW)).ls
 have HC : Hid (∀ W,Below w0.heap.size w0 W → Calls Tryz.prog 155 #[.agg #[.int .i64 a,.int .i64 b,.int .i64 c],.slice x.ca x.co.length x.cc] W fun e w' => e = .returned (.bool rC)∧Below W.heap.size W w'):=fun W hW => by rw [hC]; exact isCode_any a b c (hx.later (bstep hb0 hW)).co
 have HK : Hid (∀ W,Below w0.heap.size w0 W → Calls Tryz.prog 156 #[.agg #[.int .i64 a,.int .i64 b,.int .i64 c],.agg (mdA x)] W fun e w' => e = .returned (.bool rK)∧Below W.heap.size W w'):=fun W hW => by rw [hK]; exact isClauses_any a b c x (hx.later (bstep hb0 hW))
 unfold mdA at c2 HW0 HS HK
 unfold szC at c1 HW0
 clear hw0 hb0 hat hA1 hA2 hx hS hL hC hK
 unfold mdV szV
 go_enter Tryz.func104,Tryz.ntmps104
 go_wp2_with (rw [← HW0.out])
 refine (fine_any _ _).mono ?_
 rintro e wz ⟨rfl,hz⟩
 subst wz
 cases hfi : fineB x.nm.data.toList with
 | false =>
  go_wp2_with fail
  go_ret
  exact ⟨ret_bool (by rw [HF.out,hfi]; simp),HB0.out⟩
 | true =>
  go_wp2_with fail
  refine (isNumber_any _ _ _).mono ?_
  rintro e wz ⟨rfl,hz⟩
  subst wz
  cases hnu : (decide (0 ≤ x.ow) && decide (x.ow < a)) with
  | false =>
   go_wp2_with fail
   go_ret
   exact ⟨ret_bool (by rw [HF.out,hnu]; simp),HB0.out⟩
  | true =>
   go_wp2_with fail
   refine (isWithin_any _ _ _).mono ?_
   rintro e wz ⟨rfl,hz⟩
   subst wz
   cases hwi : witB x.fl 31 with
   | false =>
    go_wp2_with fail
    go_ret
    exact ⟨ret_bool (by rw [HF.out,hwi]; simp),HB0.out⟩
   | true =>
    go_wp2_with fail
    refine (isWithin_any _ _ _).mono ?_
    rintro e wz ⟨rfl,hz⟩
    subst wz
    cases hwx : witB x.mx 12 with
    | false =>
     go_wp2_with fail
     go_ret
     exact ⟨ret_bool (by rw [HF.out,hwx]; simp),HB0.out⟩
    | true =>
     have HG : Hid (mdB a b c x = (rS && rL && rC && rK)):=by show _ = _; rw [HF.out,hfi,hnu,hwi,hwx]; simp
     have HS0:=HS.out w0 (Below.refl _ _)
     clear hfi hnu hwi hwx HF
     go_wp2_with fail
     refine Calls.mono HS0 ?_
     rintro e w1 ⟨rfl,hb1⟩
     have HB1 : Hid (Below w0.heap.size w0 w1):=hb1
     clear HS0 c1 c2
     obtain ⟨hA1,hA2⟩:=HAT.out w1 hb1
     have c1:=hA1.cell
     have c2:=hA2.cell
     unfold mdA at c2
     unfold szC at c1
     clear hA1 hA2 hb1
     cases rS with
     | false =>
      go_wp2_with fail
      go_ret
      exact ⟨ret_bool (by rw [HG.out]; simp),bstep HB0.out HB1.out⟩
     | true =>
      have HL1:=HL.out w1 HB1.out
      go_wp2_with fail
      refine Calls.mono HL1 ?_
      rintro e w2 ⟨rfl,hb2⟩
      have HB2 : Hid (Below w0.heap.size w0 w2):=bstep HB1.out hb2
      clear HL1 c1 c2 hb2
      obtain ⟨hA1,hA2⟩:=HAT.out w2 HB2.out
      have c1:=hA1.cell
      have c2:=hA2.cell
      unfold mdA at c2
      unfold szC at c1
      clear hA1 hA2
      cases rL with
      | false =>
       go_wp2_with fail
       go_ret
       exact ⟨ret_bool (by rw [HG.out]; simp),bstep HB0.out HB2.out⟩
      | true =>
       have HC2:=HC.out w2 HB2.out
       go_wp2_with fail
       refine Calls.mono HC2 ?_
       rintro e w3 ⟨rfl,hb3⟩
       have HB3 : Hid (Below w0.heap.size w0 w3):=bstep HB2.out hb3
       clear HC2 c1 c2 hb3
       obtain ⟨hA1,hA2⟩:=HAT.out w3 HB3.out
       have c1:=hA1.cell
       have c2:=hA2.cell
       unfold mdA at c2
       unfold szC at c1
       clear hA1 hA2
       cases rC with
       | false =>
        go_wp2_with fail
        go_ret
        exact ⟨ret_bool (by rw [HG.out]; simp),bstep HB0.out HB3.out⟩
       | true =>
        have HK3:=HK.out w3 HB3.out
        go_wp2_with fail
        refine Calls.mono HK3 ?_
        rintro e w4 ⟨rfl,hb4⟩
        have HB4 : Hid (Below w0.heap.size w0 w4):=bstep HB3.out hb4
        clear HK3 c1 c2 hb4
        go_wp2
        go_ret
        exact ⟨ret_bool (by rw [HG.out]; simp),bstep HB0.out HB4.out⟩

set_option maxHeartbeats 1000000 in
theorem byFieldOwner_any (x y : FD) (w : World) :
  Calls Tryz.prog 102 #[fdV x,fdV y] w fun e w' => e = .returned (.int .i64 (cmpI x.ow y.ow))∧Below w.heap.size w w':=by
 obtain ⟨w0,hw0⟩ : ∃ W,W = (w.alloc (.cells (fdA x) 75)).alloc (.cells (fdA y) 75):=⟨_,rfl⟩
 have HW0 : Hid (w0 = _):=hw0
 obtain ⟨hb0,hat⟩:=two_boxes hw0
 have HB0 : Hid (Below w.heap.size w w0):=hb0
 obtain ⟨hA1,hA2⟩:=hat w0 (Below.refl _ _)
 have c1:=hA1.cell
 have c2:=hA2.cell
 unfold fdA at c1 c2 HW0
 clear hw0 hb0 hat hA1 hA2
 unfold fdV
 go_enter Tryz.func102,Tryz.ntmps102
 go_wp2_with (rw [← HW0.out])
 refine (compareI_any _ _ _).mono ?_
 rintro e wz ⟨rfl,hz⟩
 subst wz
 go_wp2
 go_ret
 exact ⟨rfl,HB0.out⟩
set_option maxHeartbeats 1000000 in
theorem byMethodOwner_any (x y : MD) (w : World) :
  Calls Tryz.prog 106 #[mdV x,mdV y] w fun e w' => e = .returned (.int .i64 (cmpI x.ow y.ow))∧Below w.heap.size w w':=by
 obtain ⟨w0,hw0⟩ : ∃ W,W = (w.alloc (.cells (mdA x) 55)).alloc (.cells (mdA y) 55):=⟨_,rfl⟩
 have HW0 : Hid (w0 = _):=hw0
 obtain ⟨hb0,hat⟩:=two_boxes hw0
 have HB0 : Hid (Below w.heap.size w w0):=hb0
 obtain ⟨hA1,hA2⟩:=hat w0 (Below.refl _ _)
 have c1:=hA1.cell
 have c2:=hA2.cell
 unfold mdA at c1 c2 HW0
 clear hw0 hb0 hat hA1 hA2
 unfold mdV
 go_enter Tryz.func106,Tryz.ntmps106
 go_wp2_with (rw [← HW0.out])
 refine (compareI_any _ _ _).mono ?_
 rintro e wz ⟨rfl,hz⟩
 subst wz
 go_wp2
 go_ret
 exact ⟨rfl,HB0.out⟩
theorem At.made2 (w : World) (o : Obj) (C : Array Value) (t : TypeId) : At ((w.alloc o).alloc (.cells C t)) (w.heap.size + 1) C t:=by
 have:=At.made (w.alloc o) C t
 simpa using this

set_option maxHeartbeats 1000000 in
theorem bounds9_any (c : Cl) (p : Int) (w : World) :
  Calls Tryz.prog 265 #[clV c,.int .i64 p] w fun e w' => e = .returned (.tuple #[.int .i64 (bnd c p).1,.int .i64 (bnd c p).2])∧Below w.heap.size w w':=by
 obtain ⟨w0,hw0⟩ : ∃ W,W = w.alloc (.cells #[.int .i64 c.k,.int .i64 c.tf,.int .i64 c.tt,.int .i64 c.hf,.int .i64 c.ht,.int .i64 c.fi,.int .i64 c.t0,.int .i64 c.t1,.int .i64 c.t2,.bool c.t3] 101):=⟨_,rfl⟩
 have HW0 : Hid (w0 = _):=hw0
 have HB0 : Hid (Below w.heap.size w w0):=by rw [hw0]; exact made_below _ _ _
 have hA : At w0 w.heap.size (clC c).toArray 101:=by rw [hw0]; exact At.made w (clC c).toArray _
 obtain ⟨c0,c1,c2,c3,c4,c5,c6,c7,c8,c9⟩:=hA.ten
 clear hw0 hA
 unfold clV
 go_enter Tryz.func265,Tryz.ntmps265
 by_cases h1 : p = 1
 ·subst h1
  go_wp2_with (rw [← HW0.out])
  go_quiet (fail)
  go_wp2_with fail
  go_ret2
  exact ⟨rfl,bstep HB0.out (Below.drewN (Below.refl _ _) _)⟩
 ·have h1' : (p == 1) = false:=by rw [beq_eq_false_iff_ne]; exact h1
  by_cases h2 : p = 2
  ·subst h2
   go_wp2_with (rw [← HW0.out])
   go_quiet (fail)
   go_wp2_with fail
   go_ret2
   exact ⟨rfl,bstep HB0.out (Below.drewN (Below.refl _ _) _)⟩
  ·have h2' : (p == 2) = false:=by rw [beq_eq_false_iff_ne]; exact h2
   have HR : Hid (bnd c p = if c.k = 2 then (c.fi,c.hf) else (0,0)):=by show _ = _; unfold bnd; rw [if_neg h1,if_neg h2]
   clear h1 h2
   by_cases hk : c.k = 2
   ·have hk' : (c.k == 2) = true:=by rw [hk]; rfl
    have HR2 : Hid (bnd c p = (c.fi,c.hf)):=by show _ = _; rw [HR.out,if_pos hk]
    clear hk
    go_wp2_with (rw [← HW0.out])
    go_quiet (fail)
    go_wp2_with fail
    go_ret2
    exact ⟨by rw [HR2.out]; rfl,bstep HB0.out (Below.drewN (Below.refl _ _) _)⟩
   ·have hk' : (c.k == 2) = false:=by rw [beq_eq_false_iff_ne]; exact hk
    have HR2 : Hid (bnd c p = (0,0)):=by show _ = _; rw [HR.out,if_neg hk]
    clear hk
    go_wp2_with (rw [← HW0.out])
    go_ret2
    exact ⟨by rw [HR2.out]; rfl,HB0.out⟩

set_option maxHeartbeats 1000000 in
theorem rmeet_any (a : Cl) (p : Int) (b : Cl) (q : Int) (w : World) :
  Calls Tryz.prog 264 #[clV a,.int .i64 p,clV b,.int .i64 q] w fun e w' => e = .returned (.bool (rmeetB a p b q))∧Below w.heap.size w w':=by
 obtain ⟨w0,hw0⟩ : ∃ W,W = (w.alloc (.cells #[.int .i64 a.k,.int .i64 a.tf,.int .i64 a.tt,.int .i64 a.hf,.int .i64 a.ht,.int .i64 a.fi,.int .i64 a.t0,.int .i64 a.t1,.int .i64 a.t2,.bool a.t3] 101)).alloc (.cells #[.int .i64 b.k,.int .i64 b.tf,.int .i64 b.tt,.int .i64 b.hf,.int .i64 b.ht,.int .i64 b.fi,.int .i64 b.t0,.int .i64 b.t1,.int .i64 b.t2,.bool b.t3] 101):=⟨_,rfl⟩
 have HW0 : Hid (w0 = _):=hw0
 have HB0 : Hid (Below w.heap.size w w0):=by rw [hw0]; exact bbox (made_below _ _ _) _
 have hA : At w0 w.heap.size (clC a).toArray 101:=by rw [hw0]; exact (At.made w (clC a).toArray _).next _
 have hA2 : At w0 (w.heap.size + 1) (clC b).toArray 101:=by
  rw [hw0]; exact At.made2 w _ (clC b).toArray 101
 have HK : Hid (∀ W,Below w0.heap.size w0 W → Ten W w.heap.size 0 a∧Ten W (w.heap.size + 1) 0 b):=fun W hW => ⟨(hA.later hW).ten,(hA2.later hW).ten⟩
 obtain ⟨⟨c0,c1,c2,c3,c4,c5,c6,c7,c8,c9⟩,_⟩:=HK.out w0 (Below.refl _ _)
 have HBo : Hid (∀ W,Calls Tryz.prog 265 #[.agg #[.int .i64 a.k,.int .i64 a.tf,.int .i64 a.tt,.int .i64 a.hf,.int .i64 a.ht,.int .i64 a.fi,.int .i64 a.t0,.int .i64 a.t1,.int .i64 a.t2,.bool a.t3],.int .i64 p] W fun e w' => e = .returned (.tuple #[.int .i64 (bnd a p).1,.int .i64 (bnd a p).2])∧Below W.heap.size W w'):=fun W => bounds9_any a p W
 have HBo2 : Hid (∀ W,Calls Tryz.prog 265 #[.agg #[.int .i64 b.k,.int .i64 b.tf,.int .i64 b.tt,.int .i64 b.hf,.int .i64 b.ht,.int .i64 b.fi,.int .i64 b.t0,.int .i64 b.t1,.int .i64 b.t2,.bool b.t3],.int .i64 q] W fun e w' => e = .returned (.tuple #[.int .i64 (bnd b q).1,.int .i64 (bnd b q).2])∧Below W.heap.size W w'):=fun W => bounds9_any b q W
 have HR : Hid (rmeetB a p b q = (decide ((bnd a p).1 < (bnd b q).2) && decide ((bnd b q).1 < (bnd a p).2) && decide ((bnd a p).1 < (bnd a p).2) && decide ((bnd b q).1 < (bnd b q).2))):=rfl
 clear hw0 hA hA2
 unfold clV
 go_enter Tryz.func264,Tryz.ntmps264
 go_wp2_with (rw [← HW0.out])
 refine (HBo.out _).mono ?_
 rintro e w1 ⟨rfl,hb1⟩
 clear c0 c1 c2 c3 c4 c5 c6 c7 c8 c9
 obtain ⟨_,⟨d0,d1,d2,d3,d4,d5,d6,d7,d8,d9⟩⟩:=HK.out w1 hb1
 have HB1 : Hid (Below w.heap.size w w1):=bstep HB0.out hb1
 clear hb1
 go_wp2_with fail
 refine (HBo2.out _).mono ?_
 rintro e w2 ⟨rfl,hb2⟩
 have HB2 : Hid (Below w.heap.size w w2):=bstep HB1.out hb2
 clear hb2 d0 d1 d2 d3 d4 d5 d6 d7 d8 d9 HBo HBo2
 generalize (bnd a p).1 = x at *
 generalize (bnd a p).2 = y at *
 generalize (bnd b q).1 = x' at *
 generalize (bnd b q).2 = y' at *
 go_wp2_with fail
 all_goals go_ret
 all_goals refine ⟨ret_bool ?_,HB2.out⟩
 all_goals (rw [HR.out]; simp_all; try omega)

set_option maxHeartbeats 1000000 in
theorem rwithin_any (a : Cl) (p : Int) (b : Cl) (q : Int) (w : World) :
  Calls Tryz.prog 266 #[clV a,.int .i64 p,clV b,.int .i64 q] w fun e w' => e = .returned (.bool (rwithinB a p b q))∧Below w.heap.size w w':=by
 obtain ⟨w0,hw0⟩ : ∃ W,W = (w.alloc (.cells #[.int .i64 a.k,.int .i64 a.tf,.int .i64 a.tt,.int .i64 a.hf,.int .i64 a.ht,.int .i64 a.fi,.int .i64 a.t0,.int .i64 a.t1,.int .i64 a.t2,.bool a.t3] 101)).alloc (.cells #[.int .i64 b.k,.int .i64 b.tf,.int .i64 b.tt,.int .i64 b.hf,.int .i64 b.ht,.int .i64 b.fi,.int .i64 b.t0,.int .i64 b.t1,.int .i64 b.t2,.bool b.t3] 101):=⟨_,rfl⟩
 have HW0 : Hid (w0 = _):=hw0
 have HB0 : Hid (Below w.heap.size w w0):=by rw [hw0]; exact bbox (made_below _ _ _) _
 have hA : At w0 w.heap.size (clC a).toArray 101:=by rw [hw0]; exact (At.made w (clC a).toArray _).next _
 have hA2 : At w0 (w.heap.size + 1) (clC b).toArray 101:=by
  rw [hw0]; exact At.made2 w _ (clC b).toArray 101
 have HK : Hid (∀ W,Below w0.heap.size w0 W → Ten W w.heap.size 0 a∧Ten W (w.heap.size + 1) 0 b):=fun W hW => ⟨(hA.later hW).ten,(hA2.later hW).ten⟩
 obtain ⟨⟨c0,c1,c2,c3,c4,c5,c6,c7,c8,c9⟩,_⟩:=HK.out w0 (Below.refl _ _)
 have HBo : Hid (∀ W,Calls Tryz.prog 265 #[.agg #[.int .i64 a.k,.int .i64 a.tf,.int .i64 a.tt,.int .i64 a.hf,.int .i64 a.ht,.int .i64 a.fi,.int .i64 a.t0,.int .i64 a.t1,.int .i64 a.t2,.bool a.t3],.int .i64 p] W fun e w' => e = .returned (.tuple #[.int .i64 (bnd a p).1,.int .i64 (bnd a p).2])∧Below W.heap.size W w'):=fun W => bounds9_any a p W
 have HBo2 : Hid (∀ W,Calls Tryz.prog 265 #[.agg #[.int .i64 b.k,.int .i64 b.tf,.int .i64 b.tt,.int .i64 b.hf,.int .i64 b.ht,.int .i64 b.fi,.int .i64 b.t0,.int .i64 b.t1,.int .i64 b.t2,.bool b.t3],.int .i64 q] W fun e w' => e = .returned (.tuple #[.int .i64 (bnd b q).1,.int .i64 (bnd b q).2])∧Below W.heap.size W w'):=fun W => bounds9_any b q W
 have HR : Hid (rwithinB a p b q = if (bnd a p).1 = 0∧(bnd a p).2 = 0 then true else decide ((bnd b q).1 ≤ (bnd a p).1) && decide ((bnd a p).2 ≤ (bnd b q).2) && (decide ((bnd b q).1 < (bnd a p).1) || decide ((bnd a p).2 < (bnd b q).2))):=rfl
 clear hw0 hA hA2
 unfold clV
 go_enter Tryz.func266,Tryz.ntmps266
 go_wp2_with (rw [← HW0.out])
 refine (HBo.out _).mono ?_
 rintro e w1 ⟨rfl,hb1⟩
 clear c0 c1 c2 c3 c4 c5 c6 c7 c8 c9
 obtain ⟨_,⟨d0,d1,d2,d3,d4,d5,d6,d7,d8,d9⟩⟩:=HK.out w1 hb1
 have HB1 : Hid (Below w.heap.size w w1):=bstep HB0.out hb1
 clear hb1
 go_wp2_with fail
 refine (HBo2.out _).mono ?_
 rintro e w2 ⟨rfl,hb2⟩
 have HB2 : Hid (Below w.heap.size w w2):=bstep HB1.out hb2
 clear hb2 d0 d1 d2 d3 d4 d5 d6 d7 d8 d9 HBo HBo2
 generalize (bnd a p).1 = x at *
 generalize (bnd a p).2 = y at *
 generalize (bnd b q).1 = x' at *
 generalize (bnd b q).2 = y' at *
 go_wp2_with fail
 all_goals go_ret
 all_goals refine ⟨ret_bool ?_,HB2.out⟩
 all_goals (rw [HR.out]; simp_all; try omega)
end Go.Proofs.YthpmpdpfnlecmaaGreat
