/- Texts joined: Know10, LayBase, TakeH. -/
import Derived.Test.YthpmpdpfnlecmaaGreatQ14
import Derived.Test.YthpmpdpfnlecmaaGreatQ18
import Derived.Test.YthpmpdpfnlecmaaGreatQ12
import Derived.Test.YthpmpdpfnlecmaaGreatQ17
import Derived.Test.YthpmpdpfnlecmaaGreatQ11
import Derived.Test.YthpmpdpfnlecmaaGreatQ01
import Derived.Deep.RegionHeld3
namespace Go.Proofs.YthpmpdpfnlecmaaGreat
set_option linter.unusedVariables false
set_option linter.unusedSimpArgs false
open Go.RowKit
attribute [local go_sem ↓] Go.wp_at_zero Go.wp_at_succ
def szV (a b c : Nat) : Value := .agg #[.int .i64 a,.int .i64 b,.int .i64 c]
def szC (a b c : Nat) : Array Value:=#[.int .i64 a,.int .i64 b,.int .i64 c]
def insA (x : Ins) : Array Value:=#[.int .i64 x.1,.int .i64 x.2.1,.int .i64 x.2.2.1,.int .i64 x.2.2.2.1,.int .i64 x.2.2.2.2.1,.bool x.2.2.2.2.2]
def tyA (x : Ty) : Array Value:=#[.int .i64 x.1,.int .i64 x.2.1,.int .i64 x.2.2.1,.bool x.2.2.2]

theorem two_boxes {w w0 : World} {A B : Array Value} {s t : TypeId} (h : w0 = (w.alloc (.cells A s)).alloc (.cells B t)) :
  Below w.heap.size w w0∧∀ W,Below w0.heap.size w0 W → At W w.heap.size A s∧At W (w.heap.size + 1) B t:=by
 subst h
 refine ⟨bbox (made_below _ _ _) _,fun W hW => ⟨((At.made w A s).next _).later hW, ?_⟩⟩
 have:=(At.made (w.alloc (.cells A s)) B t).later hW
 simpa using this

theorem isNumber_any (i n : Int) (w : World) :
  Calls Tryz.prog 107 #[.int .i64 i,.int .i64 n] w fun e w' => e = .returned (.bool (decide (0 ≤ i) && decide (i < n)))∧w' = w:=by
 go_enter Tryz.func107,Tryz.ntmps107
 go_wp2
 all_goals go_ret
 all_goals refine ⟨ret_bool ?_,rfl⟩
 all_goals (rw [Bool.eq_iff_iff]; simp; try omega)
theorem isWithin_any (i n : Int) (w : World) :
  Calls Tryz.prog 145 #[.int .i64 i,.int .i64 n] w fun e w' => e = .returned (.bool (witB i n))∧w' = w:=by
 go_enter Tryz.func145,Tryz.ntmps145
 go_wp2
 all_goals go_ret
 all_goals refine ⟨ret_bool ?_,rfl⟩
 all_goals (unfold witB; rw [Bool.eq_iff_iff]; simp; try omega)

set_option maxHeartbeats 1000000 in
theorem knows_any (a b c : Nat) (t : Ty) (w : World) :
  Calls Tryz.prog 189 #[szV a b c,tv t] w fun e w' => e = .returned (.bool (ownB a t))∧Below w.heap.size w w':=by
 obtain ⟨k,i,d,r⟩:=t
 have HB : Hid (Below w.heap.size w ((w.alloc (.cells (szC a b c) 109)).alloc (.cells #[.int .i64 k,.int .i64 i,.int .i64 d,.bool r] 51))):=bbox (made_below _ _ _) _
 unfold szV tv
 by_cases h5 : k = 5
 ·subst h5
  go_enter Tryz.func189,Tryz.ntmps189
  go_wp2_with (go_at_call 107; refine (isNumber_any _ _ _).mono ?_; rintro e wz ⟨rfl,hz⟩; subst wz)
  go_ret
  exact ⟨ret_bool (by simp [ownB,numB]),HB.out⟩
 ·by_cases h6 : k = 6
  ·subst h6
   go_enter Tryz.func189,Tryz.ntmps189
   go_wp2_with (go_at_call 107; refine (isNumber_any _ _ _).mono ?_; rintro e wz ⟨rfl,hz⟩; subst wz)
   go_ret
   exact ⟨ret_bool (by simp [ownB,numB]),HB.out⟩
  ·have HO : Hid (ownB a (k,i,d,r) = true):=by show _ = _; unfold ownB; rw [if_neg (by simp; omega)]
   have e5 : (k == 5) = false:=by simpa using h5
   have e6 : (k == 6) = false:=by simpa using h6
   go_enter Tryz.func189,Tryz.ntmps189
   go_wp2
   go_ret
   exact ⟨ret_bool HO.out.symm,HB.out⟩

set_option maxHeartbeats 1000000 in
theorem operandOf10_any (x : Ins) (w : World) :
  Calls Tryz.prog 227 #[iv x] w fun e w' => e = .returned (.int .i64 (opP x.1))∧Below w.heap.size w w':=by
 obtain ⟨w0,hw0⟩ : ∃ W,W = w.alloc (.cells (insA x) 89):=⟨_,rfl⟩
 have HW0 : Hid (w0 = _):=hw0
 have hb0 : Below w.heap.size w w0:=by rw [hw0]; exact made_below _ _ _
 have HB0 : Hid (Below w.heap.size w w0):=hb0
 have hA : At w0 w.heap.size (insA x) 89:=by rw [hw0]; exact At.made w _ _
 have HO : Hid (Calls Tryz.prog 133 #[.int .i64 x.1] w0 fun e w' => ∃ s q z,e = .returned (.tuple #[.agg #[.string s,.int .i64 (opP x.1),.int .i64 q],.int .i64 z])∧Below w0.heap.size w0 w'):=by
  by_cases hin : 1 ≤ x.1∧x.1 ≤ 75
  ·exact (of_in x.1 hin.1 hin.2 w0).mono fun e w' ⟨he,hb⟩ => ⟨_,_,_,he,hb⟩
  ·refine (of_out x.1 hin w0).mono fun e w' ⟨he,hb⟩ => ⟨⟨#[]⟩,0,3, ?_,hb⟩
   rw [he,opP_out hin]
 have hc:=hA.cell
 unfold insA at hc
 unfold insA at HW0
 clear hw0 hb0 hA
 unfold iv
 go_enter Tryz.func227,Tryz.ntmps227
 go_wp2_with (rw [← HW0.out])
 refine Calls.mono HO.out ?_
 rintro e w1 ⟨s,q,z,rfl,hb1⟩
 have HB1 : Hid (Below w.heap.size w w1):=bstep HB0.out hb1
 clear hb1 hc HO
 go_wp2
 go_ret
 exact ⟨rfl,bbox HB1.out _⟩

set_option maxHeartbeats 2000000 in
theorem has_any10 (a b c n : Nat) (x : Ins) (w : World) :
  Calls Tryz.prog 198 #[szV a b c,iv x,.int .i64 n] w fun e w' => e = .returned (.bool (hasI a b c n x))∧Below w.heap.size w w':=by
 obtain ⟨w0,hw0⟩ : ∃ W,W = (w.alloc (.cells (szC a b c) 109)).alloc (.cells (insA x) 89):=⟨_,rfl⟩
 have HW0 : Hid (w0 = _):=hw0
 obtain ⟨hb0,hat⟩:=two_boxes hw0
 have HB0 : Hid (Below w.heap.size w w0):=hb0
 have HAT : Hid (∀ W,Below w0.heap.size w0 W → At W w.heap.size (szC a b c) 109∧At W (w.heap.size + 1) (insA x) 89):=hat
 have HO : Hid (Calls Tryz.prog 227 #[.agg #[.int .i64 x.1,.int .i64 x.2.1,.int .i64 x.2.2.1,.int .i64 x.2.2.2.1,.int .i64 x.2.2.2.2.1,.bool x.2.2.2.2.2]] w0 fun e w' => e = .returned (.int .i64 (opP x.1))∧Below w0.heap.size w0 w'):=operandOf10_any x w0
 have hc:=(hat w0 (Below.refl _ _)).2.cell
 unfold insA at hc
 unfold insA szC at HW0
 clear hw0 hb0 hat
 have HH : Hid (hasI a b c n x = if opP x.1 = 5 then numB x.2.1 n else if opP x.1 = 6 then numB x.2.1 c else if opP x.1 = 7 then numB x.2.1 b else if opP x.1 = 8 then ownB a x.2.2 else true):=rfl
 unfold szV iv
 go_enter Tryz.func198,Tryz.ntmps198
 go_wp2_with (rw [← HW0.out])
 refine Calls.mono HO.out ?_
 rintro e w1 ⟨rfl,hb1⟩
 obtain ⟨hA1,hA2⟩:=HAT.out w1 hb1
 have HB1 : Hid (Below w.heap.size w w1):=bstep HB0.out hb1
 have c1:=hA1.cell
 have c2:=hA2.cell
 unfold szC at c1
 unfold insA at c2
 clear hb1 hc HO hA1 hA2
 generalize opP x.1 = p at *
 by_cases h5 : p = 5
 ·subst h5
  go_wp2_with (go_at_call 107; refine (isNumber_any _ _ _).mono ?_; rintro e wz ⟨rfl,hz⟩; subst wz)
  go_ret
  exact ⟨ret_bool (by rw [HH.out]; rfl),HB1.out⟩
 ·have e5 : (p == 5) = false:=by simpa using h5
  by_cases h6 : p = 6
  ·subst h6
   go_wp2_with (go_at_call 107; refine (isNumber_any _ _ _).mono ?_; rintro e wz ⟨rfl,hz⟩; subst wz)
   go_ret
   exact ⟨ret_bool (by rw [HH.out]; rfl),HB1.out⟩
  ·have e6 : (p == 6) = false:=by simpa using h6
   by_cases h7 : p = 7
   ·subst h7
    go_wp2_with (go_at_call 107; refine (isNumber_any _ _ _).mono ?_; rintro e wz ⟨rfl,hz⟩; subst wz)
    go_ret
    exact ⟨ret_bool (by rw [HH.out]; rfl),HB1.out⟩
   ·have e7 : (p == 7) = false:=by simpa using h7
    by_cases h8 : p = 8
    ·subst h8
     have HKn : Hid (Calls Tryz.prog 189 #[.agg #[.int .i64 a,.int .i64 b,.int .i64 c],.agg #[.int .i64 x.2.2.1,.int .i64 x.2.2.2.1,.int .i64 x.2.2.2.2.1,.bool x.2.2.2.2.2]] w1 fun e w' => e = .returned (.bool (ownB a x.2.2))∧Below w1.heap.size w1 w'):=knows_any a b c x.2.2 w1
     go_wp2_with fail
     refine Calls.mono HKn.out ?_
     rintro e w2 ⟨rfl,hb2⟩
     have HB2 : Hid (Below w.heap.size w w2):=bstep HB1.out hb2
     clear hb2 c1 c2
     go_wp2
     go_ret
     exact ⟨ret_bool (by rw [HH.out]; rfl),HB2.out⟩
    ·have e8 : (p == 8) = false:=by simpa using h8
     go_wp2
     go_ret
     exact ⟨ret_bool (by rw [HH.out,if_neg h5,if_neg h6,if_neg h7,if_neg h8]),HB1.out⟩

set_option maxHeartbeats 1000000 in
theorem isFieldType_any (a b c : Nat) (t : Ty) (w : World) :
  Calls Tryz.prog 149 #[szV a b c,tv t] w fun e w' => e = .returned (.bool (fldB a t))∧Below w.heap.size w w':=by
 obtain ⟨w0,hw0⟩ : ∃ W,W = (w.alloc (.cells (szC a b c) 109)).alloc (.cells (tyA t) 51):=⟨_,rfl⟩
 have HW0 : Hid (w0 = _):=hw0
 obtain ⟨hb0,hat⟩:=two_boxes hw0
 have HB0 : Hid (Below w.heap.size w w0):=hb0
 have HAT : Hid (∀ W,Below w0.heap.size w0 W → At W w.heap.size (szC a b c) 109∧At W (w.heap.size + 1) (tyA t) 51):=hat
 have hc:=(hat w0 (Below.refl _ _)).2.cell
 have HF : Hid (fldB a t = (mayB 1 t.1 t.2.1 t.2.2.1 t.2.2.2 && ownB a t)):=rfl
 unfold tyA at hc
 unfold tyA szC at HW0
 clear hw0 hb0 hat
 unfold szV tv
 cases hm : mayB 1 t.1 t.2.1 t.2.2.1 t.2.2.2 with
 | false =>
  have HP:=putField_no t.1 t.2.1 t.2.2.1 t.2.2.2 w0 hm
  go_enter Tryz.func149,Tryz.ntmps149
  go_wp2_with (rw [← HW0.out])
  refine Calls.mono HP ?_
  rintro e w1 ⟨rfl,hb1⟩
  have HB1 : Hid (Below w.heap.size w w1):=bstep HB0.out hb1
  clear hb1 hc HP
  go_wp2
  go_ret
  exact ⟨ret_bool (by rw [HF.out,hm]; rfl),HB1.out⟩
 | true =>
  have HP : Hid (Calls Tryz.prog 188 #[.agg #[.int .i64 t.1,.int .i64 t.2.1,.int .i64 t.2.2.1,.bool t.2.2.2]] w0 fun e w' => ∃ v,e = .returned (.tuple #[v,.int .i64 0])∧Below w0.heap.size w0 w'):=(putField_yes t.1 t.2.1 t.2.2.1 t.2.2.2 w0 hm).mono fun e w' ⟨v,he,_,hb⟩ => ⟨v,he,hb⟩
  go_enter Tryz.func149,Tryz.ntmps149
  go_wp2_with (rw [← HW0.out])
  refine Calls.mono HP.out ?_
  rintro e w1 ⟨v1,rfl,hb1⟩
  have HB1 : Hid (Below w.heap.size w w1):=bstep HB0.out hb1
  obtain ⟨hA1,hA2⟩:=HAT.out w1 hb1
  have c1:=hA1.cell
  have c2:=hA2.cell
  unfold szC at c1
  unfold tyA at c2
  have HKn : Hid (Calls Tryz.prog 189 #[.agg #[.int .i64 a,.int .i64 b,.int .i64 c],.agg #[.int .i64 t.1,.int .i64 t.2.1,.int .i64 t.2.2.1,.bool t.2.2.2]] w1 fun e w' => e = .returned (.bool (ownB a t))∧Below w1.heap.size w1 w'):=knows_any a b c t w1
  clear hb1 hc HP hA1 hA2
  go_wp2_with fail
  refine Calls.mono HKn.out ?_
  rintro e w2 ⟨rfl,hb2⟩
  have HB2 : Hid (Below w.heap.size w w2):=bstep HB1.out hb2
  clear hb2 c1 c2
  go_wp2
  go_ret
  exact ⟨ret_bool (by rw [HF.out,hm]; rfl),HB2.out⟩

set_option maxHeartbeats 1000000 in
theorem catches_any (a b c : Nat) (x : Cl) (w : World) :
  Calls Tryz.prog 201 #[szV a b c,clV x] w fun e w' => e = .returned (.bool (catB a x))∧Below w.heap.size w w':=by
 obtain ⟨k,tf,tt,hf,ht,fi,t0,t1,t2,t3⟩:=x
 obtain ⟨w0,hw0⟩ : ∃ W,W = (w.alloc (.cells (szC a b c) 109)).alloc (.cells (clC ⟨k,tf,tt,hf,ht,fi,t0,t1,t2,t3⟩).toArray 101):=⟨_,rfl⟩
 have HW0 : Hid (w0 = _):=hw0
 obtain ⟨hb0,hat⟩:=two_boxes hw0
 have HB0 : Hid (Below w.heap.size w w0):=hb0
 obtain ⟨hA1,hA2⟩:=hat w0 (Below.refl _ _)
 have c1:=hA1.cell
 have c2:=hA2.cell
 unfold szC at c1
 unfold clC at c2
 unfold szC clC at HW0
 clear hw0 hb0 hat hA1 hA2
 unfold szV clV
 by_cases h1 : k = 1
 ·subst h1
  have HFt : Hid (Calls Tryz.prog 149 #[.agg #[.int .i64 a,.int .i64 b,.int .i64 c],.agg #[.int .i64 t0,.int .i64 t1,.int .i64 t2,.bool t3]] w0 fun e w' => e = .returned (.bool (fldB a (t0,t1,t2,t3)))∧Below w0.heap.size w0 w'):=isFieldType_any a b c (t0,t1,t2,t3) w0
  go_enter Tryz.func201,Tryz.ntmps201
  go_wp2_with (rw [← HW0.out])
  refine Calls.mono HFt.out ?_
  rintro e w1 ⟨rfl,hb1⟩
  have HB1 : Hid (Below w.heap.size w w1):=bstep HB0.out hb1
  clear hb1 c1 c2
  go_wp2
  go_ret
  exact ⟨ret_bool rfl,HB1.out⟩
 ·have e1 : (k == 1) = false:=by simpa using h1
  have hz : ∀ W : World,(binOp .eql 51 (.agg #[.int .i64 t0,.int .i64 t1,.int .i64 t2,.bool t3]) (.agg #[.int .i64 0,.int .i64 0,.int .i64 0,.bool false])).run Tryz.prog W = .ok (.bool (t0 == 0 && t1 == 0 && t2 == 0 && t3 == false)) W:=fun W => eq_ty W _ _ _ _ _ _ _ _
  have HR : Hid (catB a ⟨k,tf,tt,hf,ht,fi,t0,t1,t2,t3⟩ = (t0 == 0 && t1 == 0 && t2 == 0 && !t3)):=by show _ = _; unfold catB; rw [if_neg h1]
  go_enter Tryz.func201,Tryz.ntmps201
  go_wp2_with (rw [← HW0.out])
  go_ret
  exact ⟨ret_bool HR.out.symm,HB0.out⟩
def Im4 (W : World) (b : Nat) (g : Img) : Prop:=W.cell? ⟨b,0,none⟩ = some (.slice g.ta g.ts.length g.tc)∧W.cell? ⟨b,1,none⟩ = some (.slice g.fa g.fs.length g.fc)∧W.cell? ⟨b,2,none⟩ = some (.slice g.ma g.ms.length g.mc)∧W.cell? ⟨b,3,none⟩ = some (.int .i64 g.en)
theorem img_head {w : World} {g : Img} (hg : Im w g) : ∃ w0,Hid (w0 = w.alloc (.cells #[.slice g.ta g.ts.length g.tc,.slice g.fa g.fs.length g.fc,.slice g.ma g.ms.length g.mc,.int .i64 g.en] 26))∧Hid (Below w.heap.size w w0)∧Hid (GB w0 w.heap.size g)∧Hid (∀ W,Below w0.heap.size w0 W → Im4 W w.heap.size g)∧Hid (∀ W,Below w0.heap.size w0 W → Im W g)∧Im4 w0 w.heap.size g:=by
 obtain ⟨w0,hw0⟩ : ∃ W,W = w.alloc (.cells (imC g) 26):=⟨_,rfl⟩
 obtain ⟨hb0,hgb⟩:=GB.made hg hw0
 exact ⟨w0,hw0,hb0,hgb,fun W hW => (hgb.later hW).cells,fun W hW => hgb.im.later hW,hgb.cells⟩
theorem img_type_head {w : World} {g : Img} (hg : Im w g) (t : Ty) : ∃ w0,Hid (w0 = (w.alloc (.cells #[.slice g.ta g.ts.length g.tc,.slice g.fa g.fs.length g.fc,.slice g.ma g.ms.length g.mc,.int .i64 g.en] 26)).alloc (.cells #[.int .i64 t.1,.int .i64 t.2.1,.int .i64 t.2.2.1,.bool t.2.2.2] 51))∧Hid (Below w.heap.size w w0)∧Hid (∀ W,Below w0.heap.size w0 W → Im4 W w.heap.size g∧(W.cell? ⟨w.heap.size + 1,0,none⟩ = some (.int .i64 t.1)∧W.cell? ⟨w.heap.size + 1,1,none⟩ = some (.int .i64 t.2.1)∧W.cell? ⟨w.heap.size + 1,2,none⟩ = some (.int .i64 t.2.2.1)∧W.cell? ⟨w.heap.size + 1,3,none⟩ = some (.bool t.2.2.2)))∧Hid (∀ W,Below w0.heap.size w0 W → Im W g):=by
 obtain ⟨w0,hw0⟩ : ∃ W,W = (w.alloc (.cells (imC g) 26)).alloc (.cells (tyA t) 51):=⟨_,rfl⟩
 obtain ⟨hb0,hat⟩:=two_boxes hw0
 refine ⟨w0,hw0,hb0,fun W hW => ⟨?_, ?_⟩,fun W hW => (hg.later hb0).later hW⟩
 ·have h:=(hat W hW).1
  exact ⟨h.cell 0,h.cell 1,h.cell 2,h.cell 3⟩
 ·have h:=(hat W hW).2
  exact ⟨h.cell 0,h.cell 1,h.cell 2,h.cell 3⟩
abbrev Ans (f : FuncId) (xs : Array Value) (W : World) (v : Value) : Prop:=Calls Tryz.prog f xs W fun e w' => e = .returned v∧Below W.heap.size W w'
def imA4 (g : Img) : Value := .agg #[.slice g.ta g.ts.length g.tc,.slice g.fa g.fs.length g.fc,.slice g.ma g.ms.length g.mc,.int .i64 g.en]

set_option maxHeartbeats 1000000 in
theorem refWhole_any (t : Ty) (w : World) : Ans 140 #[.agg #[.int .i64 t.1,.int .i64 t.2.1,.int .i64 t.2.2.1,.bool t.2.2.2]] w (.bool (whlB t)):=by
 obtain ⟨k,i,d,r⟩:=t
 go_enter Tryz.func140,Tryz.ntmps140
 go_wp2
 all_goals go_ret
 all_goals refine ⟨ret_bool ?_,made_below _ _ _⟩
 all_goals try simp only [beq_iff_eq,beq_eq_false_iff_ne,ne_eq] at *
 all_goals (rw [Bool.eq_iff_iff]; cases r <;> first | contradiction | (simp [whlB] <;> omega))

theorem usd_plain {g : Img} {t : Ty} (h : plainT t = false) : usdB g t = false:=by unfold usdB; rw [h]; rfl
theorem usd_class {g : Img} {t : Ty} (h : plainT t = true) (h5 : t.1 = 5) : usdB g t = (decide (kndI g t.2.1 ≠ -1) && decide (kndI g t.2.1 ≠ 1)):=by unfold usdB; rw [h,if_pos h5]; rfl
theorem usd_value {g : Img} {t : Ty} (h : plainT t = true) (h6 : t.1 = 6) : usdB g t = decide (kndI g t.2.1 = 1):=by unfold usdB; rw [h,if_neg (by omega),if_pos h6]; rfl
theorem usd_rest {g : Img} {t : Ty} (h : plainT t = true) (h5 : t.1 ≠ 5) (h6 : t.1 ≠ 6) : usdB g t = true:=by unfold usdB; rw [h,if_neg h5,if_neg h6]; rfl

set_option maxHeartbeats 4000000 in
theorem usedWell_any {g : Img} (t : Ty) {w : World} (hg : Im w g) (hi : imB g = true) : Ans 131 #[imV g,.agg #[.int .i64 t.1,.int .i64 t.2.1,.int .i64 t.2.2.1,.bool t.2.2.2]] w (.bool (usdB g t)):=by
 obtain ⟨w0,HW0,HB0,HC,HI⟩:=img_type_head hg t
 have HP : Hid (Ans 179 #[.agg #[.int .i64 t.1,.int .i64 t.2.1,.int .i64 t.2.2.1,.bool t.2.2.2]] w0 (.bool (plainT t))):=plain_any t.1 t.2.1 t.2.2.1 t.2.2.2 w0
 have HK : Hid (∀ W,Below w0.heap.size w0 W → Ans 16 #[imA4 g,.int .i64 t.2.1] W (.int .i64 (kndI g t.2.1))):=fun W hW => kind_any t.2.1 (HI.out W hW) (FlOk.of hi)
 have HU1 : Hid (plainT t = false → usdB g t = false):=usd_plain
 have HU2 : Hid (plainT t = true → t.1 = 5 → usdB g t = (decide (kndI g t.2.1 ≠ -1) && decide (kndI g t.2.1 ≠ 1))):=usd_class
 have HU3 : Hid (plainT t = true → t.1 = 6 → usdB g t = decide (kndI g t.2.1 = 1)):=usd_value
 have HU4 : Hid (plainT t = true → t.1 ≠ 5 → t.1 ≠ 6 → usdB g t = true):=usd_rest
 obtain ⟨⟨c0,c1,c2,c3⟩,d0,d1,d2,d3⟩:=HC.out w0 (Below.refl _ _)
 unfold imA4 at HK
 clear hg hi
 unfold imV
 generalize kndI g t.2.1 = kn at *
 generalize plainT t = pl at *
 generalize usdB g t = F at *
 obtain ⟨k,i,d,r⟩:=t
 simp only at *
 go_enter Tryz.func131,Tryz.ntmps131
 go_wp2_with (rw [← HW0.out])
 refine Calls.mono HP.out ?_
 rintro e w1 ⟨rfl,hb1⟩
 have HB1 : Hid (Below w0.heap.size w0 w1):=hb1
 clear hb1 c0 c1 c2 c3 d0 d1 d2 d3 HP
 obtain ⟨⟨c0,c1,c2,c3⟩,d0,d1,d2,d3⟩:=HC.out w1 HB1.out
 cases pl with
 | false =>
  have HR : Hid (F = false):=HU1.out rfl
  go_wp2_with fail
  go_ret
  exact ⟨ret_bool HR.out.symm,bstep HB0.out HB1.out⟩
 | true =>
  by_cases h5 : k = 5
  ·subst h5
   have HR : Hid (F = (decide (kn ≠ -1) && decide (kn ≠ 1))):=HU2.out (by trivial) rfl
   go_wp2_with fail
   refine Calls.mono (HK.out w1 HB1.out) ?_
   rintro e w2 ⟨rfl,hb2⟩
   have HB2 : Hid (Below w0.heap.size w0 w2):=bstep HB1.out hb2
   clear hb2
   go_wp2
   all_goals go_ret
   all_goals refine ⟨ret_bool ?_,bstep HB0.out HB2.out⟩
   all_goals (rw [HR.out,Bool.eq_iff_iff]; simp; try omega)
  ·have e5 : (k == 5) = false:=by simpa using h5
   by_cases h6 : k = 6
   ·subst h6
    have HR : Hid (F = decide (kn = 1)):=HU3.out (by trivial) rfl
    go_wp2_with fail
    refine Calls.mono (HK.out w1 HB1.out) ?_
    rintro e w2 ⟨rfl,hb2⟩
    have HB2 : Hid (Below w0.heap.size w0 w2):=bstep HB1.out hb2
    clear hb2
    go_wp2
    all_goals go_ret
    all_goals refine ⟨ret_bool ?_,bstep HB0.out HB2.out⟩
    all_goals (rw [HR.out,Bool.eq_iff_iff]; simp)
   ·have e6 : (k == 6) = false:=by simpa using h6
    have HR : Hid (F = true):=HU4.out (by trivial) h5 h6
    clear h5 h6
    go_wp2_with fail
    go_ret
    exact ⟨ret_bool HR.out.symm,bstep HB0.out HB1.out⟩

set_option maxHeartbeats 4000000 in
theorem refUsed_any {g : Img} (t : Ty) {w : World} (hg : Im w g) (hi : imB g = true) : Ans 87 #[imV g,.agg #[.int .i64 t.1,.int .i64 t.2.1,.int .i64 t.2.2.1,.bool t.2.2.2]] w (.bool (usdB g t)):=by
 obtain ⟨w0,HW0,HB0,HC,HI⟩:=img_type_head hg t
 have HP : Hid (Ans 135 #[.agg #[.int .i64 t.1,.int .i64 t.2.1,.int .i64 t.2.2.1,.bool t.2.2.2]] w0 (.bool (plainT t))):=refPlain_any t.1 t.2.1 t.2.2.1 t.2.2.2 w0
 have HK : Hid (∀ W,Below w0.heap.size w0 W → Ans 27 #[imA4 g,.int .i64 t.2.1] W (.int .i64 (kndI g t.2.1))):=fun W hW => refKind_any t.2.1 (HI.out W hW) (FlOk.of hi)
 have HU1 : Hid (plainT t = false → usdB g t = false):=usd_plain
 have HU2 : Hid (plainT t = true → t.1 = 5 → usdB g t = (decide (kndI g t.2.1 ≠ -1) && decide (kndI g t.2.1 ≠ 1))):=usd_class
 have HU3 : Hid (plainT t = true → t.1 = 6 → usdB g t = decide (kndI g t.2.1 = 1)):=usd_value
 have HU4 : Hid (plainT t = true → t.1 ≠ 5 → t.1 ≠ 6 → usdB g t = true):=usd_rest
 have HK4 : kndI g t.2.1 = 0 ∨ kndI g t.2.1 = 2 ∨ kndI g t.2.1 = 1 ∨ kndI g t.2.1 = 3 ∨ kndI g t.2.1 = -1:=by
  unfold kndI
  split
  ·rcases kindF_four (flI g t.2.1) with h | h | h | h <;> simp [h]
  ·simp
 obtain ⟨⟨c0,c1,c2,c3⟩,d0,d1,d2,d3⟩:=HC.out w0 (Below.refl _ _)
 unfold imA4 at HK
 clear hg hi
 unfold imV
 generalize kndI g t.2.1 = kn at *
 generalize plainT t = pl at *
 generalize usdB g t = F at *
 obtain ⟨k,i,d,r⟩:=t
 simp only at *
 go_enter Tryz.func87,Tryz.ntmps87
 go_wp2_with (rw [← HW0.out])
 refine Calls.mono HP.out ?_
 rintro e w1 ⟨rfl,hb1⟩
 have HB1 : Hid (Below w0.heap.size w0 w1):=hb1
 clear hb1 c0 c1 c2 c3 d0 d1 d2 d3 HP
 obtain ⟨⟨c0,c1,c2,c3⟩,d0,d1,d2,d3⟩:=HC.out w1 HB1.out
 cases pl with
 | false =>
  have HR : Hid (F = false):=HU1.out rfl
  go_wp2_with fail
  go_ret
  exact ⟨ret_bool HR.out.symm,bstep HB0.out HB1.out⟩
 | true =>
  go_wp2_with fail
  refine Calls.mono (HK.out w1 HB1.out) ?_
  rintro e w2 ⟨rfl,hb2⟩
  have HB2 : Hid (Below w0.heap.size w0 w2):=bstep HB1.out hb2
  clear hb2 c0 c1 c2 c3 d0 d1 d2 d3
  obtain ⟨⟨c0,c1,c2,c3⟩,d0,d1,d2,d3⟩:=HC.out w2 HB2.out
  by_cases h5 : k = 5
  ·subst h5
   have HR : Hid (F = (decide (kn ≠ -1) && decide (kn ≠ 1))):=HU2.out (by trivial) rfl
   rcases HK4 with rfl | rfl | rfl | rfl | rfl
   all_goals go_wp2
   all_goals go_ret
   all_goals exact ⟨ret_bool (by rw [HR.out]; rfl),bstep HB0.out HB2.out⟩
  ·have e5 : (k == 5) = false:=by simpa using h5
   by_cases h6 : k = 6
   ·subst h6
    have HR : Hid (F = decide (kn = 1)):=HU3.out (by trivial) rfl
    go_wp2
    all_goals go_ret
    all_goals refine ⟨ret_bool ?_,bstep HB0.out HB2.out⟩
    all_goals (rw [HR.out,Bool.eq_iff_iff]; simp)
   ·have e6 : (k != 6) = true:=by simpa using h6
    have HR : Hid (F = true):=HU4.out (by trivial) h5 h6
    clear h5 h6
    go_wp2
    all_goals go_ret
    all_goals exact ⟨ret_bool HR.out.symm,bstep HB0.out HB2.out⟩
end Go.Proofs.YthpmpdpfnlecmaaGreat

namespace Go.Proofs.YthpmpdpfnlecmaaGreat
set_option linter.unusedVariables false
set_option linter.unusedSimpArgs false
open Go.RowKit
theorem sA {α : Type} (l : List α) (i : Nat) (a : α) : l.toArray.setIfInBounds i a = (l.set i a).toArray:=List.setIfInBounds_toArray l i a
theorem s0 {α : Type} (x a : α) (l : List α) : (x :: l).set 0 a = a :: l:=List.set_cons_zero
theorem sS {α : Type} (x a : α) (l : List α) (n : Nat) : (x :: l).set (n + 1) a = x :: l.set n a:=List.set_cons_succ
theorem tY {P : Program} {md : Region.Mode} {ops : Array Oper} {Q : Exit → Act → World → Prop} {S : World → Prop} {fuel : Nat} {listed : Array Bool} {a a' : Act} {w : World} (i : Nat) (oi : Oper) (v : Value)
  (hS : S w) (h : wpAnyH P md ops Q S fuel (listed.setIfInBounds i true) a' w) (ha : a.put oi.dst v = a':=by (simp only [Act.put,sA,s0,sS]; first | done | exact rfl)) (hi : ops[i]? = some oi:=by rfl) (hs : Region.noSelect ops = true:=by kernel_rfl) (hf : Region.free md ops listed i = true:=by kernel_rfl)
  (hr : (Region.ready md ops listed).contains i = true:=by kernel_rfl) (hQ : ∀ c a w,Q (.panic c) (a.put oi.dst v) w → Q (.panic c) a w:=by exact fun _ _ _ h => h)
  (hy : YieldsIf P ops S oi v a:=by exact Or.inl ⟨by rfl,by intro w' hSw; (try dsimp only at hSw); go_simp⟩) : wpAnyH P md ops Q S (fuel + 1) listed a w:=by subst ha; exact wpAnyH_take hi hs hf hr hQ hy hS h
theorem tN {P : Program} {md : Region.Mode} {ops : Array Oper} {Q : Exit → Act → World → Prop} {S : World → Prop} {fuel : Nat} {listed : Array Bool} {a a' : Act} {w : World} (i : Nat) (oi : Oper)
  (hS : S w) (h : wpAnyH P md ops Q S fuel (listed.setIfInBounds i true) a' w) (ha : a.put oi.dst undef = a':=by (simp only [Act.put,sA,s0,sS]; first | done | exact rfl)) (hi : ops[i]? = some oi:=by rfl) (hs : Region.noSelect ops = true:=by kernel_rfl) (hf : Region.free md ops listed i = true:=by kernel_rfl)
  (hr : (Region.ready md ops listed).contains i = true:=by kernel_rfl) (hQ : ∀ c a w,Q (.panic c) (a.put oi.dst undef) w → Q (.panic c) a w:=by exact fun _ _ _ h => h)
  (hy : YieldsIf P ops S oi undef a:=by exact Or.inr ⟨by rfl,rfl⟩) : wpAnyH P md ops Q S (fuel + 1) listed a w:=by subst ha; exact wpAnyH_take hi hs hf hr hQ hy hS h
end Go.Proofs.YthpmpdpfnlecmaaGreat
