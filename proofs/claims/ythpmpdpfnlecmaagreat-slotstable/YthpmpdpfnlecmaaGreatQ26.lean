/- Texts joined: ChkSame11, Has13. -/
import Derived.Test.YthpmpdpfnlecmaaGreatQ22
import Derived.Test.YthpmpdpfnlecmaaGreatQ24
import Derived.Test.YthpmpdpfnlecmaaGreatQ25
import Derived.Deep.QuietTactic
import Derived.BigQuiet
import Derived.Test.YthpmpdpfnlecmaaGreatQ16
import Derived.Test.YthpmpdpfnlecmaaGreatQ19
namespace Go.Proofs.YthpmpdpfnlecmaaGreat
set_option linter.unusedVariables false
set_option linter.unusedSimpArgs false
open Go.RowKit
attribute [local go_sem ↓] Go.wp_at_zero Go.wp_at_succ
set_option maxHeartbeats 1000000 in
theorem equalT11_eq {w : World} {ba oa ca bb ob cb : Nat} {xs ys : List Ty} (hle : xs.length = ys.length) (hl : xs.length ≤ maxLen) (ha : ∀ i (h : i < xs.length),El tyE w ba (oa + i * 4) xs[i]) (hb : ∀ i (h : i < ys.length),El tyE w bb (ob + i * 4) ys[i]) :
  Calls Tryz.prog 178 #[.slice (some ⟨ba,oa,none⟩) xs.length ca,.slice (some ⟨bb,ob,none⟩) xs.length cb] w fun e w' => e = .returned (.bool (decide (xs = ys)))∧∃ n,w' = w.drewN n:=by
 unfold maxLen at hl
 have HA : Hid (∀ i (h : i < xs.length),El tyE w ba (oa + i * 4) xs[i]):=ha
 have HB : Hid (∀ i (h : i < ys.length),El tyE w bb (ob + i * 4) ys[i]):=hb
 have h1 : ((xs.length : Int) != (xs.length : Int)) = false:=by simp
 clear ha hb
 go_enter Tryz.func178,Tryz.ntmps178
 go_wp2_with fail
 go_loopw [5,13] (fun _ z wr => ∃ q n : Nat,q ≤ xs.length∧z = .int .i64 (q : Int)∧wr = w.drewN n∧Hid (xs.take q = ys.take q)) (fun _ z _ => xs.length - (intOf z).toNat)
 case atStart => exact ⟨0,0,Nat.zero_le _,rfl,rfl,by show _ = _; simp⟩
 case round =>
  obtain ⟨q,n,hq,rfl,rfl,HT⟩:=hrel
  by_cases hql : q < xs.length
  ·have hqi : (q : Int) < (xs.length : Int):=by omega
   obtain ⟨c0,c1,c2,c3⟩:=(HA.out q hql).cells_Y
   obtain ⟨d0,d1,d2,d3⟩:=(HB.out q (by omega)).cells_Y
   have HN : Hid (xs[q] ≠ ys[q] → decide (xs = ys) = false):=fun h => by rw [decide_eq_false_iff_not]; intro e; subst e; exact h rfl
   have HY : Hid (xs[q] = ys[q] → xs.take (q + 1) = ys.take (q + 1)):=fun h => by rw [List.take_succ_eq_append_getElem hql,List.take_succ_eq_append_getElem (by omega),HT.out,h]
   have hnq : ∀ W : World,(binOp .neq 51 (.agg #[.int .i64 xs[q].1,.int .i64 xs[q].2.1,.int .i64 xs[q].2.2.1,.bool xs[q].2.2.2]) (.agg #[.int .i64 ys[q].1,.int .i64 ys[q].2.1,.int .i64 ys[q].2.2.1,.bool ys[q].2.2.2])).run Tryz.prog W = .ok (.bool (!decide (xs[q] = ys[q]))) W:=fun W => neq_ty2 W _ _
   by_cases he : xs[q] = ys[q]
   ·rw [decide_eq_true he] at hnq
    have HY2 : Hid _:=HY.out he
    clear he HY HN
    generalize xs[q] = x at *
    generalize ys[q] = y at *
    obtain ⟨x1,x2,x3,x4⟩:=x
    obtain ⟨y1,y2,y3,y4⟩:=y
    simp only at c0 c1 c2 c3 d0 d1 d2 d3 hnq
    go_wp2_with fail
    go_quiet (fail)
    go_wp2_with fail
    go_roundw
    case rel => exact ⟨q + 1,n + nq,by omega,by go_num,rfl,HY2.out⟩
    case measure => simp [intOf]; omega
   ·rw [decide_eq_false he] at hnq
    have HBad : Hid _:=HN.out he
    clear he HY HN
    generalize xs[q] = x at *
    generalize ys[q] = y at *
    obtain ⟨x1,x2,x3,x4⟩:=x
    obtain ⟨y1,y2,y3,y4⟩:=y
    simp only at c0 c1 c2 c3 d0 d1 d2 d3 hnq
    go_wp2_with fail
    go_quiet (fail)
    go_wp2_with fail
    go_ret
    exact ⟨ret_bool HBad.out.symm,n + nq,by rw [World.drewN_drewN]⟩
  ·have hqi : ¬ (q : Int) < (xs.length : Int):=by omega
   have HE : Hid (decide (xs = ys) = true):=by
    show _ = _
    rw [decide_eq_true_iff]
    have:=HT.out
    rwa [List.take_of_length_le (by omega),List.take_of_length_le (by omega)] at this
   go_wp2_with fail
   go_ret
   exact ⟨ret_bool HE.out.symm,n,rfl⟩
theorem equalT11_len (va vb : Option Addr) (la lb ca cb : Nat) (w : World) (hne : la ≠ lb) (ha : la ≤ maxLen) (hb : lb ≤ maxLen) :
  Calls Tryz.prog 178 #[.slice va la ca,.slice vb lb cb] w fun e w' => e = .returned (.bool false)∧w' = w:=by
 have h1 : ((la : Int) != (lb : Int)) = true:=by rw [bne_iff_ne]; omega
 go_enter Tryz.func178,Tryz.ntmps178
 go_wp2
 go_ret
 exact ⟨rfl,rfl⟩
theorem equalT11_empty (va vb : Option Addr) (ca cb : Nat) (w : World) :
  Calls Tryz.prog 178 #[.slice va 0 ca,.slice vb 0 cb] w fun e w' => e = .returned (.bool true)∧w' = w:=by
 go_enter Tryz.func178,Tryz.ntmps178
 go_wp2
 refine wp_loop_rounds 1 ?_; rw [rounds_succ]
 go_wp2
 go_ret
 exact ⟨rfl,rfl⟩
theorem equalT11_any {w : World} {va vb : Value} {xs ys : List Ty} (ha : Es tyE w va xs) (hb : Es tyE w vb ys) :
  Calls Tryz.prog 178 #[va,vb] w fun e w' => e = .returned (.bool (decide (xs = ys)))∧∃ n,w' = w.drewN n:=by
 by_cases hl : xs.length = ys.length
 ·by_cases hx : xs = []
  ·subst hx
   have hy : ys = []:=List.eq_nil_of_length_eq_zero hl.symm
   subst hy
   obtain ⟨a,ca,rfl,_,_⟩:=ha.shape
   obtain ⟨b,cb,rfl,_,_⟩:=hb.shape
   refine (equalT11_empty a b ca cb w).mono ?_
   rintro e w' ⟨rfl,rfl⟩
   exact ⟨ret_bool (by simp),0,rfl⟩
  ·have hll:=ha.len
   obtain ⟨b1,o1,c1,rfl,_,_,_,h1⟩:=ha.parts hx
   obtain ⟨b2,o2,c2,rfl,_,_,_,h2⟩:=hb.parts (by intro e; subst e; exact hx (List.eq_nil_of_length_eq_zero hl))
   have:=equalT11_eq (ca:=c1) (cb:=c2) hl hll h1 h2
   rw [← hl]
   exact this
 ·have h1:=ha.len
  have h2:=hb.len
  obtain ⟨a,ca,rfl,_,_⟩:=ha.shape
  obtain ⟨b,cb,rfl,_,_⟩:=hb.shape
  refine (equalT11_len a b _ _ ca cb w hl h1 h2).mono ?_
  rintro e w' ⟨rfl,rfl⟩
  exact ⟨ret_bool (by symm; rw [decide_eq_false_iff_not]; intro e; subst e; exact hl rfl),0,rfl⟩

set_option maxHeartbeats 4000000 in
theorem isSame_any {x y : MD} {w : World} (hx : x.ok w) (hy : y.ok w) :
  Calls Tryz.prog 166 #[mdV x,mdV y] w fun e w' => e = .returned (.bool (smM x y))∧Below w.heap.size w w':=by
 obtain ⟨w0,hw0⟩ : ∃ W,W = (w.alloc (.cells (mdA x) 55)).alloc (.cells (mdA y) 55):=⟨_,rfl⟩
 have HW0 : Hid (w0 = _):=hw0
 obtain ⟨hb0,hat⟩:=two_boxes hw0
 have HB0 : Hid (Below w.heap.size w w0):=hb0
 have HAT : Hid (∀ n,At (w0.drewN n) w.heap.size (mdA x) 55∧At (w0.drewN n) (w.heap.size + 1) (mdA y) 55):=fun n => hat _ (Below.drewN (Below.refl _ _) n)
 obtain ⟨hA1,hA2⟩:=hat w0 (Below.refl _ _)
 have c1:=hA1.cell
 have c2:=hA2.cell
 have HST : Hid (Calls Tryz.prog 178 #[.slice x.pa x.ps.length x.pc,.slice y.pa y.ps.length y.pc] w0 fun e w' => e = .returned (.bool (decide (x.ps = y.ps)))∧∃ n,w' = w0.drewN n):=equalT11_any (hx.ps.later hb0) (hy.ps.later hb0)
 have hq : ∀ W : World,(binOp .eql 51 (.agg #[.int .i64 x.rt.1,.int .i64 x.rt.2.1,.int .i64 x.rt.2.2.1,.bool x.rt.2.2.2]) (.agg #[.int .i64 y.rt.1,.int .i64 y.rt.2.1,.int .i64 y.rt.2.2.1,.bool y.rt.2.2.2])).run Tryz.prog W = .ok (.bool (decide (x.rt = y.rt))) W:=fun W => eq_ty2 W _ _
 have hs:=str_dec x.nm y.nm
 have m1:=and_one x.fl
 have m2:=and_one y.fl
 have HR : Hid (smM x y = (decide (x.nm = y.nm) && (decide (x.ps = y.ps) && (decide (x.rt = y.rt) && (x.fl % 2 == y.fl % 2))))):=by
  show _ = _
  unfold smM
  rw [Bool.eq_iff_iff]
  simp
 unfold mdA at c1 c2 HW0 HAT
 clear hw0 hb0 hat hA1 hA2 hx hy
 generalize smM x y = F at *
 generalize decide (x.nm = y.nm) = r0 at *
 generalize decide (x.rt = y.rt) = r1 at *
 generalize decide (x.ps = y.ps) = r3 at *
 unfold mdV
 go_enter Tryz.func166,Tryz.ntmps166
 cases r0 with
 | false =>
  have HR2 : Hid (F = false):=by show _ = _; rw [HR.out]; rfl
  go_wp2_with (rw [← HW0.out])
  go_ret
  exact ⟨ret_bool HR2.out.symm,HB0.out⟩
 | true =>
  go_wp2_with (rw [← HW0.out])
  refine Calls.mono HST.out ?_
  rintro e w1 ⟨rfl,n,rfl⟩
  have d1:=(HAT.out n).1.cell
  have d2:=(HAT.out n).2.cell
  clear c1 c2 HST
  cases r3 with
  | false =>
   have HR2 : Hid (F = false):=by show _ = _; rw [HR.out]; rfl
   go_wp2_with fail
   go_ret
   exact ⟨ret_bool HR2.out.symm,Below.drewN HB0.out _⟩
  | true =>
   cases r1 with
   | false =>
    have HR2 : Hid (F = false):=by show _ = _; rw [HR.out]; rfl
    go_wp2_with fail
    go_ret
    exact ⟨ret_bool HR2.out.symm,Below.drewN HB0.out _⟩
   | true =>
    have HR2 : Hid (F = (x.fl % 2 == y.fl % 2)):=by show _ = _; rw [HR.out]; rfl
    clear HR
    generalize x.fl % 2 = z1 at *
    generalize y.fl % 2 = z2 at *
    go_wp2_with fail
    go_ret
    exact ⟨ret_bool HR2.out.symm,Below.drewN HB0.out _⟩
abbrev Mt (W : World) (b : Nat) (x : MD) : Prop:=W.cell? ⟨b,0,none⟩ = some (.string x.nm)∧W.cell? ⟨b,1,none⟩ = some (.int .i64 x.ow)∧W.cell? ⟨b,2,none⟩ = some (.int .i64 x.fl)∧W.cell? ⟨b,3,none⟩ = some (.slice x.pa x.ps.length x.pc) ∧
 W.cell? ⟨b,4,none⟩ = some (.int .i64 x.rt.1)∧W.cell? ⟨b,5,none⟩ = some (.int .i64 x.rt.2.1)∧W.cell? ⟨b,6,none⟩ = some (.int .i64 x.rt.2.2.1)∧W.cell? ⟨b,7,none⟩ = some (.bool x.rt.2.2.2)∧W.cell? ⟨b,8,none⟩ = some (.slice x.la x.ls.length x.lc)∧W.cell? ⟨b,9,none⟩ = some (.int .i64 x.mx) ∧
 W.cell? ⟨b,10,none⟩ = some (.slice x.ca x.co.length x.cc)∧W.cell? ⟨b,11,none⟩ = some (.slice x.ka x.cl.length x.kc)
def mdA13 (x : MD) : Array Value:=#[.string x.nm,.int .i64 x.ow,.int .i64 x.fl,.slice x.pa x.ps.length x.pc,.int .i64 x.rt.1,.int .i64 x.rt.2.1,.int .i64 x.rt.2.2.1,.bool x.rt.2.2.2,.slice x.la x.ls.length x.lc,.int .i64 x.mx,.slice x.ca x.co.length x.cc,.slice x.ka x.cl.length x.kc]
theorem Mt.of {W : World} {b : Nat} {x : MD} (h : At W b (mdA13 x) 55) : Mt W b x :=
 ⟨h.cell 0,h.cell 1,h.cell 2,h.cell 3,h.cell 4,h.cell 5,h.cell 6,h.cell 7,h.cell 8,h.cell 9,h.cell 10,h.cell 11⟩
theorem mth_head (w : World) (x : MD) : ∃ w0,Hid (w0 = w.alloc (.cells #[.string x.nm,.int .i64 x.ow,.int .i64 x.fl,.slice x.pa x.ps.length x.pc,.int .i64 x.rt.1,.int .i64 x.rt.2.1,.int .i64 x.rt.2.2.1,.bool x.rt.2.2.2,.slice x.la x.ls.length x.lc,.int .i64 x.mx,.slice x.ca x.co.length x.cc,.slice x.ka x.cl.length x.kc] 55)) ∧
  Hid (Below w.heap.size w w0)∧Hid (∀ W,Below w0.heap.size w0 W → Mt W w.heap.size x)∧Mt w0 w.heap.size x:=by
 obtain ⟨w0,hw0⟩ : ∃ W,W = w.alloc (.cells (mdA13 x) 55):=⟨_,rfl⟩
 have hat : At w0 w.heap.size (mdA13 x) 55:=by rw [hw0]; exact At.made _ _ _
 exact ⟨w0,hw0,by rw [hw0]; exact made_below _ _ _,fun W hW => Mt.of (hat.later hW),Mt.of hat⟩

theorem has_fl : ∀ f : Fin 32,((bits .and .i64 (f.val : Int) 1 != 0) = bitB (f.val : Int) 1)∧((bits .and .i64 (f.val : Int) 2 != 0) = bitB (f.val : Int) 2)∧((bits .and .i64 (f.val : Int) 4 != 0) = bitB (f.val : Int) 4)∧((bits .and .i64 (f.val : Int) 8 != 0) = bitB (f.val : Int) 8)∧((bits .and .i64 (f.val : Int) 16 != 0) = bitB (f.val : Int) 16)∧((bits .and .i64 (f.val : Int) 12 != 0) = (bitB (f.val : Int) 4 || bitB (f.val : Int) 8)):=by decide +kernel
theorem has_flags {f : Int} (h : 0 ≤ f∧f ≤ 31) : ((bits .and .i64 f 1 != 0) = bitB f 1)∧((bits .and .i64 f 2 != 0) = bitB f 2)∧((bits .and .i64 f 4 != 0) = bitB f 4)∧((bits .and .i64 f 8 != 0) = bitB f 8)∧((bits .and .i64 f 16 != 0) = bitB f 16)∧((bits .and .i64 f 12 != 0) = (bitB f 4 || bitB f 8)):=by
 have:=has_fl ⟨f.toNat,by omega⟩
 rwa [show ((f.toNat : Nat) : Int) = f by omega] at this

set_option maxHeartbeats 1000000 in
theorem hasN13_any (x : MD) (n : Int) (w : World) : Ans 84 #[mdV x,.int .i64 n] w (.bool (bits .and .i64 x.fl n != 0)):=by
 obtain ⟨w0,HW0,HB0,HC,c0,c1,c2,c3,c4,c5,c6,c7,c8,c9,c10,c11⟩:=mth_head w x
 unfold mdV
 go_enter Tryz.func84,Tryz.ntmps84
 go_wp2_with (rw [← HW0.out])
 go_ret
 exact ⟨rfl,HB0.out⟩
theorem has13_any (x : MD) (hx : 0 ≤ x.fl∧x.fl ≤ 31) (w : World) : Ans 84 #[mdV x,.int .i64 1] w (.bool (bitB x.fl 1))∧Ans 84 #[mdV x,.int .i64 2] w (.bool (bitB x.fl 2))∧Ans 84 #[mdV x,.int .i64 4] w (.bool (bitB x.fl 4)) ∧
  Ans 84 #[mdV x,.int .i64 8] w (.bool (bitB x.fl 8))∧Ans 84 #[mdV x,.int .i64 16] w (.bool (bitB x.fl 16))∧Ans 84 #[mdV x,.int .i64 12] w (.bool (bitB x.fl 4 || bitB x.fl 8)):=by
 obtain ⟨h1,h2,h3,h4,h5,h6⟩:=has_flags hx
 refine ⟨?_, ?_, ?_, ?_, ?_, ?_⟩
 ·rw [← h1]; exact hasN13_any x 1 w
 ·rw [← h2]; exact hasN13_any x 2 w
 ·rw [← h3]; exact hasN13_any x 4 w
 ·rw [← h4]; exact hasN13_any x 8 w
 ·rw [← h5]; exact hasN13_any x 16 w
 ·rw [← h6]; exact hasN13_any x 12 w

theorem stat_eq (a b : Int) : ((bits .and .i64 a 1 != 0) == (bits .and .i64 b 1 != 0)) = (a % 2 == b % 2):=by
 rw [and_one,and_one]
 have h1:=Int.emod_two_eq a
 have h2:=Int.emod_two_eq b
 rcases h1 with h1 | h1 <;> rcases h2 with h2 | h2 <;> rw [h1,h2] <;> rfl

abbrev opAl0 : Oper := { dst:=some 5,op:=Op.fieldAddr 55 (Operand.tmp 2) 0,type := 0,pos := "slots.go:49",after:=#[],guard:=none }
abbrev opAl1 : Oper := { dst:=some 6,op:=Op.load 9 (Operand.tmp 5),type := 9,pos := "slots.go:49",after:=#[{ on := 0,ground:=Ground.data }],guard:=none }
abbrev opAl2 : Oper := { dst:=some 7,op:=Op.fieldAddr 55 (Operand.tmp 3) 0,type := 0,pos := "slots.go:49",after:=#[],guard:=none }
abbrev opAl3 : Oper := { dst:=some 8,op:=Op.load 9 (Operand.tmp 7),type := 9,pos := "slots.go:49",after:=#[{ on := 2,ground:=Ground.data }],guard:=none }
abbrev opAl4 : Oper := { dst:=some 9,op:=Op.binOp BinOp.eql 9 (Operand.tmp 6) (Operand.tmp 8) 9,type := 4,pos := "slots.go:49",after:=#[{ on := 1,ground:=Ground.data }, { on := 3,ground:=Ground.data }],guard:=none }
abbrev opAl5 : Oper := { dst:=some 10,op:=Op.move (Operand.tmp 9),type := 4,pos := "slots.go:49",after:=#[{ on := 4,ground:=Ground.data }],guard:=none }
abbrev opAl6 : Oper := { dst:=some 11,op:=Op.fieldAddr 55 (Operand.tmp 2) 3,type := 0,pos := "slots.go:49",after:=#[{ on := 5,ground:=Ground.guard }],guard:=some (5,true) }
abbrev opAl7 : Oper := { dst:=some 12,op:=Op.load 49 (Operand.tmp 11),type := 49,pos := "slots.go:49",after:=#[{ on := 6,ground:=Ground.data }, { on := 5,ground:=Ground.guard }],guard:=some (5,true) }
abbrev opAl8 : Oper := { dst:=some 13,op:=Op.fieldAddr 55 (Operand.tmp 3) 3,type := 0,pos := "slots.go:49",after:=#[{ on := 5,ground:=Ground.guard }],guard:=some (5,true) }
abbrev opAl9 : Oper := { dst:=some 14,op:=Op.load 49 (Operand.tmp 13),type := 49,pos := "slots.go:49",after:=#[{ on := 8,ground:=Ground.data }, { on := 5,ground:=Ground.guard }],guard:=some (5,true) }
abbrev opAl10 : Oper := { dst:=some 15,op:=Op.call { callee:=Callee.value (Operand.func 178),args:=#[Operand.tmp 12,Operand.tmp 14],argTypes:=#[49,49] },type := 4,pos := "slots.go:49",after:=#[{ on := 7,ground:=Ground.data }, { on := 9,ground:=Ground.data }, { on := 5,ground:=Ground.chain }, { on := 5,ground:=Ground.guard }],guard:=some (5,true) }
abbrev opAl11 : Oper := { dst:=some 16,op:=Op.pick (Operand.tmp 10) (Operand.tmp 15) (Operand.const (Value.bool false)),type := 4,pos := "slots.go:49",after:=#[{ on := 5,ground:=Ground.data }, { on := 10,ground:=Ground.data }],guard:=none }
abbrev opAl12 : Oper := { dst:=some 17,op:=Op.move (Operand.tmp 16),type := 4,pos := "slots.go:49",after:=#[{ on := 11,ground:=Ground.data }, { on := 10,ground:=Ground.chain }],guard:=none }
abbrev opAl13 : Oper := { dst:=some 18,op:=Op.fieldAddr 55 (Operand.tmp 2) 4,type := 0,pos := "slots.go:49",after:=#[{ on := 12,ground:=Ground.guard }],guard:=some (12,true) }
abbrev opAl14 : Oper := { dst:=some 19,op:=Op.load 51 (Operand.tmp 18),type := 51,pos := "slots.go:49",after:=#[{ on := 13,ground:=Ground.data }, { on := 12,ground:=Ground.guard }],guard:=some (12,true) }
abbrev opAl15 : Oper := { dst:=some 20,op:=Op.fieldAddr 55 (Operand.tmp 3) 4,type := 0,pos := "slots.go:49",after:=#[{ on := 12,ground:=Ground.guard }],guard:=some (12,true) }
abbrev opAl16 : Oper := { dst:=some 21,op:=Op.load 51 (Operand.tmp 20),type := 51,pos := "slots.go:49",after:=#[{ on := 15,ground:=Ground.data }, { on := 12,ground:=Ground.guard }],guard:=some (12,true) }
abbrev opAl17 : Oper := { dst:=some 22,op:=Op.binOp BinOp.eql 51 (Operand.tmp 19) (Operand.tmp 21) 51,type := 4,pos := "slots.go:49",after:=#[{ on := 14,ground:=Ground.data }, { on := 16,ground:=Ground.data }, { on := 12,ground:=Ground.guard }],guard:=some (12,true) }
abbrev opAl18 : Oper := { dst:=some 23,op:=Op.pick (Operand.tmp 17) (Operand.tmp 22) (Operand.const (Value.bool false)),type := 4,pos := "slots.go:49",after:=#[{ on := 12,ground:=Ground.data }, { on := 17,ground:=Ground.data }],guard:=none }
abbrev opAl19 : Oper := { dst:=some 24,op:=Op.move (Operand.tmp 23),type := 4,pos := "slots.go:49",after:=#[{ on := 18,ground:=Ground.data }, { on := 12,ground:=Ground.chain }],guard:=none }
abbrev opAl20 : Oper := { dst:=some 25,op:=Op.load 55 (Operand.tmp 2),type := 55,pos := "slots.go:49",after:=#[{ on := 19,ground:=Ground.guard }],guard:=some (19,true) }
abbrev opAl21 : Oper := { dst:=some 26,op:=Op.call { callee:=Callee.value (Operand.func 84),args:=#[Operand.tmp 25,Operand.const (Value.int IntKind.i64 1)],argTypes:=#[55,3] },type := 4,pos := "slots.go:49",after:=#[{ on := 20,ground:=Ground.data }, { on := 19,ground:=Ground.chain }, { on := 19,ground:=Ground.guard }],guard:=some (19,true) }
abbrev opAl22 : Oper := { dst:=some 27,op:=Op.load 55 (Operand.tmp 3),type := 55,pos := "slots.go:49",after:=#[{ on := 19,ground:=Ground.guard }],guard:=some (19,true) }
abbrev opAl23 : Oper := { dst:=some 28,op:=Op.call { callee:=Callee.value (Operand.func 84),args:=#[Operand.tmp 27,Operand.const (Value.int IntKind.i64 1)],argTypes:=#[55,3] },type := 4,pos := "slots.go:49",after:=#[{ on := 22,ground:=Ground.data }, { on := 21,ground:=Ground.chain }, { on := 19,ground:=Ground.guard }],guard:=some (19,true) }
abbrev opAl24 : Oper := { dst:=some 29,op:=Op.binOp BinOp.eql 4 (Operand.tmp 26) (Operand.tmp 28) 4,type := 4,pos := "slots.go:49",after:=#[{ on := 21,ground:=Ground.data }, { on := 23,ground:=Ground.data }, { on := 19,ground:=Ground.guard }],guard:=some (19,true) }
abbrev opAl25 : Oper := { dst:=some 30,op:=Op.pick (Operand.tmp 24) (Operand.tmp 29) (Operand.const (Value.bool false)),type := 4,pos := "slots.go:49",after:=#[{ on := 19,ground:=Ground.data }, { on := 24,ground:=Ground.data }],guard:=none }
abbrev opAl26 : Oper := { dst:=some 4,op:=Op.assign (Operand.tmp 30),type := 4,pos := "slots.go:49",after:=#[{ on := 25,ground:=Ground.data }, { on := 23,ground:=Ground.chain }, { on := 0,ground:=Ground.phase }, { on := 1,ground:=Ground.phase }, { on := 2,ground:=Ground.phase }, { on := 3,ground:=Ground.phase }, { on := 4,ground:=Ground.phase }, { on := 5,ground:=Ground.phase }, { on := 6,ground:=Ground.phase }, { on := 7,ground:=Ground.phase }, { on := 8,ground:=Ground.phase }, { on := 9,ground:=Ground.phase }, { on := 10,ground:=Ground.phase }, { on := 11,ground:=Ground.phase }, { on := 12,ground:=Ground.phase }, { on := 13,ground:=Ground.phase }, { on := 14,ground:=Ground.phase }, { on := 15,ground:=Ground.phase }, { on := 16,ground:=Ground.phase }, { on := 17,ground:=Ground.phase }, { on := 18,ground:=Ground.phase }, { on := 19,ground:=Ground.phase }, { on := 20,ground:=Ground.phase }, { on := 21,ground:=Ground.phase }, { on := 22,ground:=Ground.phase }, { on := 23,ground:=Ground.phase }, { on := 24,ground:=Ground.phase }, { on := 25,ground:=Ground.phase }],guard:=none }
set_option maxHeartbeats 8000000 in
set_option maxRecDepth 20000 in
theorem alike13_any {x y : MD} {w : World} (hx : x.ok w) (hy : y.ok w) : Ans 130 #[mdV x,mdV y] w (.bool (smM x y)):=by
 obtain ⟨w0,hw0⟩ : ∃ W,W = (w.alloc (.cells (mdA13 x) 55)).alloc (.cells (mdA13 y) 55):=⟨_,rfl⟩
 have HW0 : Hid (w0 = _):=hw0
 obtain ⟨hb0,hat⟩:=two_boxes hw0
 have HB0 : Hid (Below w.heap.size w w0):=hb0
 have HAT : Hid (∀ W,Below w0.heap.size w0 W → Mt W w.heap.size x∧Mt W (w.heap.size + 1) y):=fun W hW => ⟨Mt.of (hat W hW).1,Mt.of (hat W hW).2⟩
 have HST : Hid (∀ W,Below w0.heap.size w0 W → Ans 178 #[.slice x.pa x.ps.length x.pc,.slice y.pa y.ps.length y.pc] W (.bool (decide (x.ps = y.ps)))):=fun W hW => by
  refine (equalT11_any ((hx.ps.later hb0).later hW) ((hy.ps.later hb0).later hW)).mono ?_
  rintro e w' ⟨rfl,n,rfl⟩
  exact ⟨rfl,Below.drewN (Below.refl _ _) n⟩
 have HH1 : Hid (∀ W,Ans 84 #[mdV x,.int .i64 1] W (.bool (bits .and .i64 x.fl 1 != 0))):=fun W => hasN13_any x 1 W
 have HH2 : Hid (∀ W,Ans 84 #[mdV y,.int .i64 1] W (.bool (bits .and .i64 y.fl 1 != 0))):=fun W => hasN13_any y 1 W
 have hq : ∀ W : World,(binOp .eql 51 (.agg #[.int .i64 x.rt.1,.int .i64 x.rt.2.1,.int .i64 x.rt.2.2.1,.bool x.rt.2.2.2]) (.agg #[.int .i64 y.rt.1,.int .i64 y.rt.2.1,.int .i64 y.rt.2.2.1,.bool y.rt.2.2.2])).run Tryz.prog W = .ok (.bool (decide (x.rt = y.rt))) W:=fun W => eq_ty2 W _ _
 have hs:=str_dec x.nm y.nm
 have HR : Hid (smM x y = (decide (x.nm = y.nm) && (decide (x.ps = y.ps) && (decide (x.rt = y.rt) && ((bits .and .i64 x.fl 1 != 0) == (bits .and .i64 y.fl 1 != 0)))))):=by
  show _ = _
  rw [stat_eq]
  unfold smM
  rw [Bool.eq_iff_iff]
  simp
 unfold mdA13 at HW0
 unfold mdV at HH1 HH2
 clear hw0 hb0 hat hx hy
 generalize smM x y = F at *
 generalize decide (x.nm = y.nm) = r0 at *
 generalize decide (x.rt = y.rt) = r1 at *
 generalize decide (x.ps = y.ps) = r3 at *
 generalize (bits .and .i64 x.fl 1 != 0) = s1 at *
 generalize (bits .and .i64 y.fl 1 != 0) = s2 at *
 unfold mdV
 go_enter Tryz.func130,Tryz.ntmps130
 go_wp2_with (rw [← HW0.out])
 cases r0 with
 | false =>
  have HR2 : Hid (F = false):=by show _ = _; rw [HR.out]; rfl
  refine wp_region_held_drew (S:=(fun W : World => Mt W w.heap.size x∧Mt W (w.heap.size + 1) y)) (by kernel_rfl) (HAT.out _ (bdrew _)) (fun hHeld => ?_)
  refine tY 0 opAl0 (.pointer (some ⟨w.heap.size,0,none⟩)) hHeld ?_
  refine tY 1 opAl1 (.string x.nm) hHeld ?_
  refine tY 2 opAl2 (.pointer (some ⟨w.heap.size + 1,0,none⟩)) hHeld ?_
  refine tY 3 opAl3 (.string y.nm) hHeld ?_
  refine tY 4 opAl4 (.bool false) hHeld ?_
  refine tY 5 opAl5 (.bool false) hHeld ?_
  refine tN 6 opAl6 hHeld ?_
  refine tN 7 opAl7 hHeld ?_
  refine tN 8 opAl8 hHeld ?_
  refine tN 9 opAl9 hHeld ?_
  refine tN 10 opAl10 hHeld ?_
  refine tY 11 opAl11 (.bool false) hHeld ?_
  refine tY 12 opAl12 (.bool false) hHeld ?_
  refine tN 13 opAl13 hHeld ?_
  refine tN 14 opAl14 hHeld ?_
  refine tN 15 opAl15 hHeld ?_
  refine tN 16 opAl16 hHeld ?_
  refine tN 17 opAl17 hHeld ?_
  refine tY 18 opAl18 (.bool false) hHeld ?_
  refine tY 19 opAl19 (.bool false) hHeld ?_
  refine tN 20 opAl20 hHeld ?_
  refine tN 21 opAl21 hHeld ?_
  refine tN 22 opAl22 hHeld ?_
  refine tN 23 opAl23 hHeld ?_
  refine tN 24 opAl24 hHeld ?_
  refine tY 25 opAl25 (.bool false) hHeld ?_
  refine tY 26 opAl26 (.bool false) hHeld ?_
  refine wpAnyH_done (by kernel_rfl) ?_ _
  go_wp2_with fail
  go_ret
  exact ⟨ret_bool HR2.out.symm,Below.drew HB0.out⟩
 | true =>
  cases r3 with
  | false =>
   have HR2 : Hid (F = false):=by show _ = _; rw [HR.out]; rfl
   refine wp_region_held_drew (S:=(fun W : World => Mt W w.heap.size x∧Mt W (w.heap.size + 1) y)) (by kernel_rfl) (HAT.out _ (bdrew _)) (fun hHeld => ?_)
   refine tY 0 opAl0 (.pointer (some ⟨w.heap.size,0,none⟩)) hHeld ?_
   refine tY 1 opAl1 (.string x.nm) hHeld ?_
   refine tY 2 opAl2 (.pointer (some ⟨w.heap.size + 1,0,none⟩)) hHeld ?_
   refine tY 3 opAl3 (.string y.nm) hHeld ?_
   refine tY 4 opAl4 (.bool true) hHeld ?_
   refine tY 5 opAl5 (.bool true) hHeld ?_
   refine tY 6 opAl6 (.pointer (some ⟨w.heap.size,3,none⟩)) hHeld ?_
   refine tY 7 opAl7 (.slice x.pa x.ps.length x.pc) hHeld ?_
   refine tY 8 opAl8 (.pointer (some ⟨w.heap.size + 1,3,none⟩)) hHeld ?_
   refine tY 9 opAl9 (.slice y.pa y.ps.length y.pc) hHeld ?_
   refine wpAnyH_ready (rs := [10]) (by kernel_rfl) (by simp) ?_
   refine AllReadyH.cons (o:=opAl10) rfl (fun K hK => ?_) AllReadyH.nil
   go_simp
   refine (HST.out _ (bdrew _)).mono ?_
   rintro e w1 ⟨rfl,hb1⟩
   have hB1 : Below w0.heap.size w0 w1:=bstep (bdrew _) hb1
   try go_wp2_with fail
   refine hK.out _ _ (HAT.out _ hB1) (fun hHeld => ?_)
   clear hK K
   try simp only [Act.put,sA,s0,sS]
   refine tY 11 opAl11 (.bool false) hHeld ?_
   refine tY 12 opAl12 (.bool false) hHeld ?_
   refine tN 13 opAl13 hHeld ?_
   refine tN 14 opAl14 hHeld ?_
   refine tN 15 opAl15 hHeld ?_
   refine tN 16 opAl16 hHeld ?_
   refine tN 17 opAl17 hHeld ?_
   refine tY 18 opAl18 (.bool false) hHeld ?_
   refine tY 19 opAl19 (.bool false) hHeld ?_
   refine tN 20 opAl20 hHeld ?_
   refine tN 21 opAl21 hHeld ?_
   refine tN 22 opAl22 hHeld ?_
   refine tN 23 opAl23 hHeld ?_
   refine tN 24 opAl24 hHeld ?_
   refine tY 25 opAl25 (.bool false) hHeld ?_
   refine tY 26 opAl26 (.bool false) hHeld ?_
   refine wpAnyH_done (by kernel_rfl) ?_ _
   have HB1 : Hid (Below w0.heap.size w0 w1):=hB1
   clear hb1 hB1
   go_wp2_with fail
   go_ret
   exact ⟨ret_bool HR2.out.symm,bstep HB0.out HB1.out⟩
  | true =>
   cases r1 with
   | false =>
    have HR2 : Hid (F = false):=by show _ = _; rw [HR.out]; rfl
    refine wp_region_held_drew (S:=(fun W : World => Mt W w.heap.size x∧Mt W (w.heap.size + 1) y)) (by kernel_rfl) (HAT.out _ (bdrew _)) (fun hHeld => ?_)
    refine tY 0 opAl0 (.pointer (some ⟨w.heap.size,0,none⟩)) hHeld ?_
    refine tY 1 opAl1 (.string x.nm) hHeld ?_
    refine tY 2 opAl2 (.pointer (some ⟨w.heap.size + 1,0,none⟩)) hHeld ?_
    refine tY 3 opAl3 (.string y.nm) hHeld ?_
    refine tY 4 opAl4 (.bool true) hHeld ?_
    refine tY 5 opAl5 (.bool true) hHeld ?_
    refine tY 6 opAl6 (.pointer (some ⟨w.heap.size,3,none⟩)) hHeld ?_
    refine tY 7 opAl7 (.slice x.pa x.ps.length x.pc) hHeld ?_
    refine tY 8 opAl8 (.pointer (some ⟨w.heap.size + 1,3,none⟩)) hHeld ?_
    refine tY 9 opAl9 (.slice y.pa y.ps.length y.pc) hHeld ?_
    refine wpAnyH_ready (rs := [10]) (by kernel_rfl) (by simp) ?_
    refine AllReadyH.cons (o:=opAl10) rfl (fun K hK => ?_) AllReadyH.nil
    go_simp
    refine (HST.out _ (bdrew _)).mono ?_
    rintro e w1 ⟨rfl,hb1⟩
    have hB1 : Below w0.heap.size w0 w1:=bstep (bdrew _) hb1
    try go_wp2_with fail
    refine hK.out _ _ (HAT.out _ hB1) (fun hHeld => ?_)
    clear hK K
    try simp only [Act.put,sA,s0,sS]
    refine tY 11 opAl11 (.bool true) hHeld ?_
    refine tY 12 opAl12 (.bool true) hHeld ?_
    refine tY 13 opAl13 (.pointer (some ⟨w.heap.size,4,none⟩)) hHeld ?_
    refine tY 14 opAl14 (.agg #[.int .i64 x.rt.1,.int .i64 x.rt.2.1,.int .i64 x.rt.2.2.1,.bool x.rt.2.2.2]) hHeld ?_
    refine tY 15 opAl15 (.pointer (some ⟨w.heap.size + 1,4,none⟩)) hHeld ?_
    refine tY 16 opAl16 (.agg #[.int .i64 y.rt.1,.int .i64 y.rt.2.1,.int .i64 y.rt.2.2.1,.bool y.rt.2.2.2]) hHeld ?_
    refine tY 17 opAl17 (.bool false) hHeld ?_
    refine tY 18 opAl18 (.bool false) hHeld ?_
    refine tY 19 opAl19 (.bool false) hHeld ?_
    refine tN 20 opAl20 hHeld ?_
    refine tN 21 opAl21 hHeld ?_
    refine tN 22 opAl22 hHeld ?_
    refine tN 23 opAl23 hHeld ?_
    refine tN 24 opAl24 hHeld ?_
    refine tY 25 opAl25 (.bool false) hHeld ?_
    refine tY 26 opAl26 (.bool false) hHeld ?_
    refine wpAnyH_done (by kernel_rfl) ?_ _
    have HB1 : Hid (Below w0.heap.size w0 w1):=hB1
    clear hb1 hB1
    go_wp2_with fail
    go_ret
    exact ⟨ret_bool HR2.out.symm,bstep HB0.out HB1.out⟩
   | true =>
    have HR2 : Hid (F = (s1 == s2)):=by show _ = _; rw [HR.out]; rfl
    refine wp_region_held_drew (S:=(fun W : World => Mt W w.heap.size x∧Mt W (w.heap.size + 1) y)) (by kernel_rfl) (HAT.out _ (bdrew _)) (fun hHeld => ?_)
    refine tY 0 opAl0 (.pointer (some ⟨w.heap.size,0,none⟩)) hHeld ?_
    refine tY 1 opAl1 (.string x.nm) hHeld ?_
    refine tY 2 opAl2 (.pointer (some ⟨w.heap.size + 1,0,none⟩)) hHeld ?_
    refine tY 3 opAl3 (.string y.nm) hHeld ?_
    refine tY 4 opAl4 (.bool true) hHeld ?_
    refine tY 5 opAl5 (.bool true) hHeld ?_
    refine tY 6 opAl6 (.pointer (some ⟨w.heap.size,3,none⟩)) hHeld ?_
    refine tY 7 opAl7 (.slice x.pa x.ps.length x.pc) hHeld ?_
    refine tY 8 opAl8 (.pointer (some ⟨w.heap.size + 1,3,none⟩)) hHeld ?_
    refine tY 9 opAl9 (.slice y.pa y.ps.length y.pc) hHeld ?_
    refine wpAnyH_ready (rs := [10]) (by kernel_rfl) (by simp) ?_
    refine AllReadyH.cons (o:=opAl10) rfl (fun K hK => ?_) AllReadyH.nil
    go_simp
    refine (HST.out _ (bdrew _)).mono ?_
    rintro e w1 ⟨rfl,hb1⟩
    have hB1 : Below w0.heap.size w0 w1:=bstep (bdrew _) hb1
    try go_wp2_with fail
    refine hK.out _ _ (HAT.out _ hB1) (fun hHeld => ?_)
    clear hK K
    try simp only [Act.put,sA,s0,sS]
    refine tY 11 opAl11 (.bool true) hHeld ?_
    refine tY 12 opAl12 (.bool true) hHeld ?_
    refine tY 13 opAl13 (.pointer (some ⟨w.heap.size,4,none⟩)) hHeld ?_
    refine tY 14 opAl14 (.agg #[.int .i64 x.rt.1,.int .i64 x.rt.2.1,.int .i64 x.rt.2.2.1,.bool x.rt.2.2.2]) hHeld ?_
    refine tY 15 opAl15 (.pointer (some ⟨w.heap.size + 1,4,none⟩)) hHeld ?_
    refine tY 16 opAl16 (.agg #[.int .i64 y.rt.1,.int .i64 y.rt.2.1,.int .i64 y.rt.2.2.1,.bool y.rt.2.2.2]) hHeld ?_
    refine tY 17 opAl17 (.bool true) hHeld ?_
    refine tY 18 opAl18 (.bool true) hHeld ?_
    refine tY 19 opAl19 (.bool true) hHeld ?_
    refine tY 20 opAl20 (.agg #[.string x.nm,.int .i64 x.ow,.int .i64 x.fl,.slice x.pa x.ps.length x.pc,.int .i64 x.rt.1,.int .i64 x.rt.2.1,.int .i64 x.rt.2.2.1,.bool x.rt.2.2.2,.slice x.la x.ls.length x.lc,.int .i64 x.mx,.slice x.ca x.co.length x.cc,.slice x.ka x.cl.length x.kc]) hHeld ?_
    refine tY 22 opAl22 (.agg #[.string y.nm,.int .i64 y.ow,.int .i64 y.fl,.slice y.pa y.ps.length y.pc,.int .i64 y.rt.1,.int .i64 y.rt.2.1,.int .i64 y.rt.2.2.1,.bool y.rt.2.2.2,.slice y.la y.ls.length y.lc,.int .i64 y.mx,.slice y.ca y.co.length y.cc,.slice y.ka y.cl.length y.kc]) hHeld ?_
    refine wpAnyH_ready (rs := [21]) (by kernel_rfl) (by simp) ?_
    refine AllReadyH.cons (o:=opAl21) rfl (fun K hK => ?_) AllReadyH.nil
    go_simp
    refine (HH1.out _).mono ?_
    rintro e w2 ⟨rfl,hb2⟩
    have hB2 : Below w0.heap.size w0 w2:=bstep hB1 hb2
    try go_wp2_with fail
    refine hK.out _ _ (HAT.out _ hB2) (fun hHeld => ?_)
    clear hK K
    try simp only [Act.put,sA,s0,sS]
    refine wpAnyH_ready (rs := [23]) (by kernel_rfl) (by simp) ?_
    refine AllReadyH.cons (o:=opAl23) rfl (fun K hK => ?_) AllReadyH.nil
    go_simp
    refine (HH2.out _).mono ?_
    rintro e w3 ⟨rfl,hb3⟩
    have hB3 : Below w0.heap.size w0 w3:=bstep hB2 hb3
    try go_wp2_with fail
    refine hK.out _ _ (HAT.out _ hB3) (fun hHeld => ?_)
    clear hK K
    try simp only [Act.put,sA,s0,sS]
    refine tY 24 opAl24 (.bool (s1 == s2)) hHeld ?_
    refine tY 25 opAl25 (.bool (s1 == s2)) hHeld ?_
    refine tY 26 opAl26 (.bool (s1 == s2)) hHeld ?_
    refine wpAnyH_done (by kernel_rfl) ?_ _
    have HB3 : Hid (Below w0.heap.size w0 w3):=hB3
    clear hb1 hB1 hb2 hB2 hb3 hB3
    go_wp2_with fail
    go_ret
    exact ⟨ret_bool HR2.out.symm,bstep HB0.out HB3.out⟩
end Go.Proofs.YthpmpdpfnlecmaaGreat
