/- Texts joined: Form10, RefSig11, LiF11. -/
import Derived.Test.YthpmpdpfnlecmaaGreatQ19
import Derived.Test.YthpmpdpfnlecmaaGreatQ23
import Derived.Test.YthpmpdpfnlecmaaGreatQ12
namespace Go.Proofs.YthpmpdpfnlecmaaGreat
set_option linter.unusedVariables false
set_option linter.unusedSimpArgs false
open Go.RowKit
attribute [local go_sem ↓] Go.wp_at_zero Go.wp_at_succ
def mdA (x : MD) : Array Value:=#[.string x.nm,.int .i64 x.ow,.int .i64 x.fl,.slice x.pa x.ps.length x.pc,.int .i64 x.rt.1,.int .i64 x.rt.2.1,.int .i64 x.rt.2.2.1,.bool x.rt.2.2.2,.slice x.la x.ls.length x.lc,.int .i64 x.mx,.slice x.ca x.co.length x.cc,.slice x.ka x.cl.length x.kc]
def fdA (x : FD) : Array Value:=#[.string x.nm,.int .i64 x.ow,.int .i64 x.t.1,.int .i64 x.t.2.1,.int .i64 x.t.2.2.1,.bool x.t.2.2.2,.bool x.st]
def tdA (x : TD) : Array Value:=#[.string x.nm,.int .i64 x.fl,.int .i64 x.ex,.slice x.fa x.fs.length x.fc]

theorem tells_knows (a b c : Nat) (w : World) (l : List Ty) : Tells Tryz.prog tv w 189 #[szV a b c] #[] (ownB a) l :=
 ⟨run_enter9 Tryz.func189 (by kernel_rfl) rfl,fun W _ x _ => by simpa using knows_any a b c x W⟩

theorem and_one (n : Int) : bits .and .i64 n 1 = n % 2:=by
 have h1 : (BitVec.ofInt 64 1).toNat = 2 ^ 1 - 1:=by decide
 have key : (BitVec.ofInt 64 n &&& BitVec.ofInt 64 1).toNat = (n % ((2 ^ 64 : Nat) : Int)).toNat % 2:=by
  rw [BitVec.toNat_and,BitVec.toNat_ofInt,h1,Nat.and_two_pow_sub_one_eq_mod]
 have e : bits .and .i64 n 1 = IntKind.i64.wrap ((BitVec.ofInt 64 n &&& BitVec.ofInt 64 1).toNat : Nat):=rfl
 rw [e,key,IntKind.wrap_i64]
 omega

set_option maxHeartbeats 1000000 in
theorem sigOf_any (x : MD) (w : World) :
  Calls Tryz.prog 192 #[mdV x] w fun e w' => e = .returned (.agg #[.bool (decide (x.fl % 2 = 0)),.slice x.pa x.ps.length x.pc,.int .i64 x.rt.1,.int .i64 x.rt.2.1,.int .i64 x.rt.2.2.1,.bool x.rt.2.2.2])∧Below w.heap.size w w':=by
 obtain ⟨w0,hw0⟩ : ∃ W,W = (w.alloc (.cells (mdA x) 55)).alloc (.cells #[.bool false,.slice none 0 0,.int .i64 0,.int .i64 0,.int .i64 0,.bool false] 166):=⟨_,rfl⟩
 have HW0 : Hid (w0 = _):=hw0
 obtain ⟨hb0,hat⟩:=two_boxes hw0
 obtain ⟨hA1,hA2⟩:=hat w0 (Below.refl _ _)
 have c1:=hA1.cell
 have c2:=hA2.cell
 have m2:=hA2.melt
 have ha:=and_one x.fl
 have hd : (x.fl % 2 == 0) = decide (x.fl % 2 = 0):=by rw [Bool.eq_iff_iff]; simp
 have HF:=(hA2.set6 (.bool (decide (x.fl % 2 = 0))) (.slice x.pa x.ps.length x.pc) (.int .i64 x.rt.1) (.int .i64 x.rt.2.1) (.int .i64 x.rt.2.2.1) (.bool x.rt.2.2.2)).cell
 have HB:=below_set6 hb0 (Nat.le_succ w.heap.size) (.bool (decide (x.fl % 2 = 0))) (.slice x.pa x.ps.length x.pc) (.int .i64 x.rt.1) (.int .i64 x.rt.2.1) (.int .i64 x.rt.2.2.1) (.bool x.rt.2.2.2)
 unfold mdA at c1 HW0
 clear hw0 hb0 hat hA1 hA2
 unfold mdV
 go_enter Tryz.func192,Tryz.ntmps192
 go_wp2_with (rw [← HW0.out])
 exact bodyPost_ret (v := .agg #[.bool (decide (x.fl % 2 = 0)),.slice x.pa x.ps.length x.pc,.int .i64 x.rt.1,.int .i64 x.rt.2.1,.int .i64 x.rt.2.2.1,.bool x.rt.2.2.2]) (by simp [results,Tryz.results192,go_sem,HF]) rfl ⟨rfl,HB⟩

set_option maxHeartbeats 2000000 in
theorem isSig_any (a b c : Nat) (x : MD) {w : World} (hx : x.ok w) :
  Calls Tryz.prog 153 #[szV a b c,mdV x] w fun e w' => e = .returned (.bool (decide (sigE x.ps x.rt = 0) && ownB a x.rt && x.ps.all (ownB a)))∧Below w.heap.size w w':=by
 obtain ⟨w0,hw0⟩ : ∃ W,W = (w.alloc (.cells (szC a b c) 109)).alloc (.cells (mdA x) 55):=⟨_,rfl⟩
 have HW0 : Hid (w0 = _):=hw0
 obtain ⟨hb0,hat⟩:=two_boxes hw0
 have HB0 : Hid (Below w.heap.size w w0):=hb0
 have HAT : Hid (∀ W,Below w0.heap.size w0 W → At W w.heap.size (szC a b c) 109∧At W (w.heap.size + 1) (mdA x) 55):=hat
 have HX : Hid (∀ W,Below w.heap.size w W → Es tyE W (.slice x.pa x.ps.length x.pc) x.ps):=fun W hW => hx.ps.later hW
 obtain ⟨hA1,hA2⟩:=hat w0 (Below.refl _ _)
 have c1:=hA1.cell
 have c2:=hA2.cell
 have HS : Hid (Calls Tryz.prog 192 #[.agg (mdA x)] w0 fun e w' => e = .returned (.agg #[.bool (decide (x.fl % 2 = 0)),.slice x.pa x.ps.length x.pc,.int .i64 x.rt.1,.int .i64 x.rt.2.1,.int .i64 x.rt.2.2.1,.bool x.rt.2.2.2])∧Below w0.heap.size w0 w'):=sigOf_any x w0
 unfold mdA at c2 HW0 HS
 unfold szC at c1 HW0
 clear hw0 hb0 hat hA1 hA2 hx
 unfold mdV szV
 go_enter Tryz.func153,Tryz.ntmps153
 go_wp2_with (rw [← HW0.out])
 refine Calls.mono HS.out ?_
 rintro e w1 ⟨rfl,hb1⟩
 have HB1 : Hid (Below w0.heap.size w0 w1):=hb1
 have HPS : Hid (Calls Tryz.prog 191 #[.agg #[.bool (decide (x.fl % 2 = 0)),.slice x.pa x.ps.length x.pc,.int .i64 x.rt.1,.int .i64 x.rt.2.1,.int .i64 x.rt.2.2.1,.bool x.rt.2.2.2]] w1 fun e w' => ∃ v,e = .returned (.tuple #[v,.int .i64 (sigE x.ps x.rt : Int)])∧Below w1.heap.size w1 w'):=by
  refine (putSig_any (HX.out w1 (bstep HB0.out hb1)).toTs (decide (x.fl % 2 = 0)) x.rt.1 x.rt.2.1 x.rt.2.2.1 x.rt.2.2.2).mono ?_
  rintro e w' ⟨h1,h2,h3⟩
  by_cases he : sigE x.ps x.rt = 0
  ·obtain ⟨v',rfl,_⟩:=h1 he
   exact ⟨v',by rw [he]; rfl,h3⟩
  ·exact ⟨_,h2 he,h3⟩
 clear hb1 c1 c2 HS
 go_wp2_with fail
 refine Calls.mono HPS.out ?_
 rintro e w2 ⟨v2,rfl,hb2⟩
 have HB2 : Hid (Below w0.heap.size w0 w2):=bstep HB1.out hb2
 obtain ⟨hA1,hA2⟩:=HAT.out w2 HB2.out
 have c1:=hA1.cell
 have c2:=hA2.cell
 unfold mdA at c2
 unfold szC at c1
 clear hb2 hA1 hA2 HPS
 obtain ⟨E,hE⟩ : ∃ E,E = sigE x.ps x.rt:=⟨_,rfl⟩
 have HE : Hid (decide (sigE x.ps x.rt = 0) = decide (E = 0)):=by show _ = _; rw [hE]
 rw [← hE]
 by_cases h0 : E = 0
 ·subst h0
  have HKn : Hid (Calls Tryz.prog 189 #[.agg #[.int .i64 a,.int .i64 b,.int .i64 c],.agg #[.int .i64 x.rt.1,.int .i64 x.rt.2.1,.int .i64 x.rt.2.2.1,.bool x.rt.2.2.2]] w2 fun e w' => e = .returned (.bool (ownB a x.rt))∧Below w2.heap.size w2 w'):=knows_any a b c x.rt w2
  clear hE
  go_wp2_with fail
  refine Calls.mono HKn.out ?_
  rintro e w3 ⟨rfl,hb3⟩
  have HB3 : Hid (Below w0.heap.size w0 w3):=bstep HB2.out hb3
  obtain ⟨hA1,hA2⟩:=HAT.out w3 HB3.out
  have d1:=hA1.cell
  have d2:=hA2.cell
  unfold mdA at d2
  unfold szC at d1
  clear hb3 hA1 hA2 HKn c1 c2
  cases hk : ownB a x.rt with
  | false =>
   go_wp2
   go_ret
   exact ⟨ret_bool (by rw [HE.out,hk]; simp),bstep HB0.out HB3.out⟩
  | true =>
   have HAl : Hid (Calls Tryz.prog 193 #[.slice x.pa x.ps.length x.pc,.func (.func 189) #[.agg #[.int .i64 a,.int .i64 b,.int .i64 c]] #[]] w3 fun e w' => e = .returned (.bool (x.ps.all (ownB a)))∧Below w3.heap.size w3 w'):=allY10_any (HX.out w3 (bstep HB0.out HB3.out)) (tells_knows a b c w3 x.ps)
   go_wp2_with fail
   refine Calls.mono HAl.out ?_
   rintro e w4 ⟨rfl,hb4⟩
   have HB4 : Hid (Below w0.heap.size w0 w4):=bstep HB3.out hb4
   clear hb4 d1 d2 HAl
   go_wp2
   go_ret
   exact ⟨ret_bool (by rw [HE.out,hk]; simp),bstep HB0.out HB4.out⟩
 ·have e0 : ((E : Int) == 0) = false:=by simp; omega
  have hd : decide (E = 0) = false:=by simpa using h0
  clear hE
  go_wp2
  go_ret
  exact ⟨ret_bool (by rw [HE.out,hd]; rfl),bstep HB0.out HB2.out⟩

set_option maxHeartbeats 2000000 in
theorem isLocals_any (a b c : Nat) {v : Value} {l : List Ty} {w : World} (hl : Es tyE w v l) :
  Calls Tryz.prog 154 #[szV a b c,v] w fun e w' => e = .returned (.bool (decide (locE l = 0) && l.all (ownB a)))∧Below w.heap.size w w':=by
 obtain ⟨w0,hw0⟩ : ∃ W,W = w.alloc (.cells (szC a b c) 109):=⟨_,rfl⟩
 have HW0 : Hid (w0 = _):=hw0
 have hb0 : Below w.heap.size w w0:=by rw [hw0]; exact made_below _ _ _
 have hA : At w0 w.heap.size (szC a b c) 109:=by rw [hw0]; exact At.made w _ _
 have HB0 : Hid (Below w.heap.size w w0):=hb0
 have HAT : Hid (∀ W,Below w0.heap.size w0 W → At W w.heap.size (szC a b c) 109):=fun W hW => hA.later hW
 have HX : Hid (∀ W,Below w.heap.size w W → Es tyE W v l):=fun W hW => hl.later hW
 obtain ⟨va,vc,hv,_,_⟩:=hl.shape
 subst hv
 have HPS : Hid (Calls Tryz.prog 194 #[.slice va l.length vc] w0 fun e w' => ∃ v,e = .returned (.tuple #[v,.int .i64 (locE l : Int)])∧Below w0.heap.size w0 w'):=by
  refine (putLocals_any (HX.out w0 hb0).toTs).mono ?_
  rintro e w' ⟨h1,h2,h3⟩
  by_cases he : locE l = 0
  ·obtain ⟨v',rfl,_⟩:=h1 he
   exact ⟨v',by rw [he]; rfl,h3⟩
  ·exact ⟨_,h2 he,h3⟩
 unfold szC at HW0
 clear hw0 hb0 hA hl
 unfold szV
 go_enter Tryz.func154,Tryz.ntmps154
 go_wp2_with (rw [← HW0.out])
 refine Calls.mono HPS.out ?_
 rintro e w2 ⟨v2,rfl,hb2⟩
 have HB2 : Hid (Below w0.heap.size w0 w2):=hb2
 have hA1:=HAT.out w2 HB2.out
 have c1:=hA1.cell
 unfold szC at c1
 clear hb2 hA1 HPS
 obtain ⟨E,hE⟩ : ∃ E,E = locE l:=⟨_,rfl⟩
 have HE : Hid (decide (locE l = 0) = decide (E = 0)):=by show _ = _; rw [hE]
 rw [← hE]
 by_cases h0 : E = 0
 ·subst h0
  have HAl : Hid (Calls Tryz.prog 193 #[.slice va l.length vc,.func (.func 189) #[.agg #[.int .i64 a,.int .i64 b,.int .i64 c]] #[]] w2 fun e w' => e = .returned (.bool (l.all (ownB a)))∧Below w2.heap.size w2 w'):=allY10_any (HX.out w2 (bstep HB0.out HB2.out)) (tells_knows a b c w2 l)
  clear hE
  go_wp2_with fail
  refine Calls.mono HAl.out ?_
  rintro e w4 ⟨rfl,hb4⟩
  have HB4 : Hid (Below w0.heap.size w0 w4):=bstep HB2.out hb4
  clear hb4 c1 HAl
  go_wp2
  go_ret
  exact ⟨ret_bool (by rw [HE.out]; simp),bstep HB0.out HB4.out⟩
 ·have e0 : ((E : Int) == 0) = false:=by simp; omega
  have hd : decide (E = 0) = false:=by simpa using h0
  clear hE
  go_wp2
  go_ret
  exact ⟨ret_bool (by rw [HE.out,hd]; rfl),bstep HB0.out HB2.out⟩

set_option maxHeartbeats 2000000 in
theorem isCode1_any (a b c n : Nat) (x : Ins) {w : World} {gs gl : Nat} {ca : Option Addr} {cc : Nat} (hs : At w gs (szC a b c) 109) (hl : At w gl #[.slice ca n cc] 52) :
  Calls Tryz.prog 196 #[iv x,.pointer (some ⟨gs,0,none⟩),.pointer (some ⟨gl,0,none⟩)] w fun e w' => e = .returned (.bool (insB a b c n x))∧Below w.heap.size w w':=by
 obtain ⟨w0,hw0⟩ : ∃ W,W = w.alloc (.cells (insA x) 89):=⟨_,rfl⟩
 have HW0 : Hid (w0 = _):=hw0
 have hb0 : Below w.heap.size w w0:=by rw [hw0]; exact made_below _ _ _
 have HB0 : Hid (Below w.heap.size w w0):=hb0
 have hA : At w0 w.heap.size (insA x) 89:=by rw [hw0]; exact At.made w _ _
 have HAT : Hid (∀ W,Below w0.heap.size w0 W → At W w.heap.size (insA x) 89∧At W gs (szC a b c) 109∧At W gl #[.slice ca n cc] 52):=fun W hW => ⟨hA.later hW,hs.later (bstep hb0 hW),hl.later (bstep hb0 hW)⟩
 have HF : Hid (insB a b c n x = (decide (fitE x.1 x.2.1 x.2.2.1 x.2.2.2.1 x.2.2.2.2.1 x.2.2.2.2.2 = 0) && hasI a b c n x)):=rfl
 have HFi : Hid (Calls Tryz.prog 197 #[.agg #[.int .i64 x.1,.int .i64 x.2.1,.int .i64 x.2.2.1,.int .i64 x.2.2.2.1,.int .i64 x.2.2.2.2.1,.bool x.2.2.2.2.2]] w0 fun e w' => e = .returned (.int .i64 (fitE x.1 x.2.1 x.2.2.1 x.2.2.2.1 x.2.2.2.2.1 x.2.2.2.2.2))∧Below w0.heap.size w0 w'):=fits_any _ _ _ _ _ _ w0
 have hc:=hA.cell
 unfold insA at hc HW0
 clear hw0 hb0 hA hs hl
 unfold iv
 go_enter Tryz.func196,Tryz.ntmps196
 go_wp2_with (rw [← HW0.out])
 refine Calls.mono HFi.out ?_
 rintro e w1 ⟨rfl,hb1⟩
 obtain ⟨hA1,hA2,hA3⟩:=HAT.out w1 hb1
 have HB1 : Hid (Below w0.heap.size w0 w1):=hb1
 have c1:=hA1.cell
 have c2:=hA2.cell
 have c3:=hA3.cell0
 unfold insA at c1
 unfold szC at c2
 clear hb1 hc HFi hA1 hA2 hA3
 generalize fitE x.1 x.2.1 x.2.2.1 x.2.2.2.1 x.2.2.2.2.1 x.2.2.2.2.2 = E at *
 by_cases h0 : E = 0
 ·subst h0
  have HH : Hid (Calls Tryz.prog 198 #[.agg #[.int .i64 a,.int .i64 b,.int .i64 c],.agg #[.int .i64 x.1,.int .i64 x.2.1,.int .i64 x.2.2.1,.int .i64 x.2.2.2.1,.int .i64 x.2.2.2.2.1,.bool x.2.2.2.2.2],.int .i64 n] w1 fun e w' => e = .returned (.bool (hasI a b c n x))∧Below w1.heap.size w1 w'):=has_any10 a b c n x w1
  go_wp2_with fail
  refine Calls.mono HH.out ?_
  rintro e w2 ⟨rfl,hb2⟩
  have HB2 : Hid (Below w0.heap.size w0 w2):=bstep HB1.out hb2
  clear hb2 c1 c2 c3 HH
  go_wp2
  go_ret
  exact ⟨ret_bool (by rw [HF.out]; rfl),bstep HB0.out HB2.out⟩
 ·have e0 : (E == 0) = false:=by simpa using h0
  have hd : decide (E = 0) = false:=by simpa using h0
  go_wp2
  go_ret
  exact ⟨ret_bool (by rw [HF.out,hd]; rfl),bstep HB0.out HB1.out⟩

set_option maxHeartbeats 2000000 in
theorem isCode_any (a b c : Nat) {v : Value} {l : List Ins} {w : World} (hl : Es insE w v l) :
  Calls Tryz.prog 155 #[szV a b c,v] w fun e w' => e = .returned (.bool (decide (l.length ≤ 160) && l.all (insB a b c l.length)))∧Below w.heap.size w w':=by
 obtain ⟨va,vc,hv,_,hvm⟩:=hl.shape
 have hlm:=hl.len
 unfold maxLen at hlm
 subst hv
 obtain ⟨w0,hw0⟩ : ∃ W,W = (w.alloc (.cells (szC a b c) 109)).alloc (.cells #[.slice va l.length vc] 52):=⟨_,rfl⟩
 have HW0 : Hid (w0 = _):=hw0
 obtain ⟨hb0,hat⟩:=two_boxes hw0
 have HB0 : Hid (Below w.heap.size w w0):=hb0
 have HAT : Hid (∀ W,Below w0.heap.size w0 W → At W w.heap.size (szC a b c) 109∧At W (w.heap.size + 1) #[.slice va l.length vc] 52):=hat
 have HAl : Hid (Calls Tryz.prog 195 #[.slice va l.length vc,.func (.func 196) #[] #[.pointer (some ⟨w.heap.size,0,none⟩),.pointer (some ⟨w.heap.size + 1,0,none⟩)]] w0 fun e w' => e = .returned (.bool (l.all (insB a b c l.length)))∧Below w0.heap.size w0 w'):=by
  refine allI10_any (hl.later hb0) ⟨run_enter9 Tryz.func196 (by kernel_rfl) rfl,fun W hW x _ => ?_⟩
  obtain ⟨q1,q2⟩:=hat W hW
  simpa using isCode1_any a b c l.length x q1 q2
 obtain ⟨hA1,hA2⟩:=hat w0 (Below.refl _ _)
 have c2:=hA2.cell0
 unfold szC at HW0
 clear hw0 hb0 hat hA1 hA2 hl hvm
 unfold szV
 by_cases h : l.length ≤ 160
 ·have h' : (l.length : Int) ≤ 160:=by omega
  go_enter Tryz.func155,Tryz.ntmps155
  go_wp2_with (rw [← HW0.out])
  refine Calls.mono HAl.out ?_
  rintro e w1 ⟨rfl,hb1⟩
  have HB1 : Hid (Below w0.heap.size w0 w1):=hb1
  clear hb1 c2 HAl
  have hd : decide (l.length ≤ 160) = true:=by simpa using h
  go_wp2
  go_ret
  exact ⟨ret_bool (by rw [hd]; rfl),bstep HB0.out HB1.out⟩
 ·have h' : ¬ (l.length : Int) ≤ 160:=by omega
  have hd : decide (l.length ≤ 160) = false:=by simpa using h
  go_enter Tryz.func155,Tryz.ntmps155
  go_wp2_with (rw [← HW0.out])
  go_ret
  exact ⟨ret_bool (by first | rfl | (rw [hd]; rfl)),HB0.out⟩
theorem neq_ty2 (W : World) (x y : Ty) : (binOp .neq 51 (.agg #[.int .i64 x.1,.int .i64 x.2.1,.int .i64 x.2.2.1,.bool x.2.2.2]) (.agg #[.int .i64 y.1,.int .i64 y.2.1,.int .i64 y.2.2.1,.bool y.2.2.2])).run Tryz.prog W = .ok (.bool (!decide (x = y))) W:=by
 obtain ⟨k,i,d,r⟩:=x
 obtain ⟨k',i',d',r'⟩:=y
 simp [go_sem]
 cases h1 : (k == k') <;> cases h2 : (i == i') <;> cases h3 : (d == d') <;> cases h4 : (r == r') <;> simp_all [go_sem]
theorem eq_ty2 (W : World) (x y : Ty) : (binOp .eql 51 (.agg #[.int .i64 x.1,.int .i64 x.2.1,.int .i64 x.2.2.1,.bool x.2.2.2]) (.agg #[.int .i64 y.1,.int .i64 y.2.1,.int .i64 y.2.2.1,.bool y.2.2.2])).run Tryz.prog W = .ok (.bool (decide (x = y))) W:=by
 rw [eq_ty]
 congr 2
 obtain ⟨k,i,d,r⟩:=x
 obtain ⟨k',i',d',r'⟩:=y
 rw [Bool.eq_iff_iff]
 simp [and_assoc]

set_option maxHeartbeats 1000000 in
theorem sameT11_eq {w : World} {ba oa ca bb ob cb : Nat} {xs ys : List Ty} (hle : xs.length = ys.length) (hl : xs.length ≤ maxLen) (ha : ∀ i (h : i < xs.length),El tyE w ba (oa + i * 4) xs[i]) (hb : ∀ i (h : i < ys.length),El tyE w bb (ob + i * 4) ys[i]) :
  Calls Tryz.prog 91 #[.slice (some ⟨ba,oa,none⟩) xs.length ca,.slice (some ⟨bb,ob,none⟩) xs.length cb] w fun e w' => e = .returned (.bool (decide (xs = ys)))∧∃ n,w' = w.drewN n:=by
 unfold maxLen at hl
 have HA : Hid (∀ i (h : i < xs.length),El tyE w ba (oa + i * 4) xs[i]):=ha
 have HB : Hid (∀ i (h : i < ys.length),El tyE w bb (ob + i * 4) ys[i]):=hb
 have h1 : ((xs.length : Int) != (xs.length : Int)) = false:=by simp
 clear ha hb
 go_enter Tryz.func91,Tryz.ntmps91
 go_wp2_with fail
 go_loopw [5] (fun z wr => ∃ q n : Nat,q ≤ xs.length∧z = .int .i64 (q : Int)∧wr = w.drewN n∧Hid (xs.take q = ys.take q)) (fun z _ => xs.length - (intOf z).toNat)
 case atStart => exact ⟨0,0,Nat.zero_le _,rfl,rfl,by show _ = _; simp⟩
 case round =>
  obtain ⟨q,n,hq,rfl,rfl,HT⟩:=hrel
  by_cases hql : q < xs.length
  ·have hqi : (q : Int) < (xs.length : Int):=by omega
   obtain ⟨c0,c1,c2,c3⟩:=(HA.out q hql).cells_Y
   obtain ⟨d0,d1,d2,d3⟩:=(HB.out q (by omega)).cells_Y
   have HN : Hid (xs[q] ≠ ys[q] → decide (xs = ys) = false):=fun h => by rw [decide_eq_false_iff_not]; intro e; subst e; exact h rfl
   have HY : Hid (xs[q] = ys[q] → xs.take (q + 1) = ys.take (q + 1)):=fun h => by rw [List.take_succ_eq_append_getElem hql,List.take_succ_eq_append_getElem (by omega),HT.out,h]
   have hnq : ∀ W : World,(binOp .neq 51 (.agg #[.int .i64 xs[q].1,.int .i64 xs[q].2.1,.int .i64 xs[q].2.2.1,.bool xs[q].2.2.2]) (.agg #[.int .i64 ys[q].1,.int .i64 ys[q].2.1,.int .i64 ys[q].2.2.1,.bool ys[q].2.2.2])).run Tryz.prog W = .ok (.bool (!decide (xs[q] = ys[q]))) W:=fun W => neq_ty2 W _ _
   by_cases he : xs[q] = ys[q]
   ·rw [decide_eq_true he] at hnq
    have HY2 : Hid _:=HY.out he
    clear he HY HN
    generalize xs[q] = x at *
    generalize ys[q] = y at *
    obtain ⟨x1,x2,x3,x4⟩:=x
    obtain ⟨y1,y2,y3,y4⟩:=y
    simp only at c0 c1 c2 c3 d0 d1 d2 d3 hnq
    go_wp2_with fail
    go_quiet (fail)
    go_wp2_with fail
    go_roundw
    case rel => exact ⟨q + 1,n + nq,by omega,by go_num,rfl,HY2.out⟩
    case measure => simp [intOf]; omega
   ·rw [decide_eq_false he] at hnq
    have HBad : Hid _:=HN.out he
    clear he HY HN
    generalize xs[q] = x at *
    generalize ys[q] = y at *
    obtain ⟨x1,x2,x3,x4⟩:=x
    obtain ⟨y1,y2,y3,y4⟩:=y
    simp only at c0 c1 c2 c3 d0 d1 d2 d3 hnq
    go_wp2_with fail
    go_quiet (fail)
    go_wp2_with fail
    go_ret
    exact ⟨ret_bool HBad.out.symm,n + nq,by rw [World.drewN_drewN]⟩
  ·have hqi : ¬ (q : Int) < (xs.length : Int):=by omega
   have HE : Hid (decide (xs = ys) = true):=by
    show _ = _
    rw [decide_eq_true_iff]
    have:=HT.out
    rwa [List.take_of_length_le (by omega),List.take_of_length_le (by omega)] at this
   go_wp2_with fail
   go_ret
   exact ⟨ret_bool HE.out.symm,n,rfl⟩
theorem sameT11_len (va vb : Option Addr) (la lb ca cb : Nat) (w : World) (hne : la ≠ lb) (ha : la ≤ maxLen) (hb : lb ≤ maxLen) :
  Calls Tryz.prog 91 #[.slice va la ca,.slice vb lb cb] w fun e w' => e = .returned (.bool false)∧w' = w:=by
 have h1 : ((la : Int) != (lb : Int)) = true:=by rw [bne_iff_ne]; omega
 go_enter Tryz.func91,Tryz.ntmps91
 go_wp2
 go_ret
 exact ⟨rfl,rfl⟩
theorem sameT11_empty (va vb : Option Addr) (ca cb : Nat) (w : World) :
  Calls Tryz.prog 91 #[.slice va 0 ca,.slice vb 0 cb] w fun e w' => e = .returned (.bool true)∧w' = w:=by
 go_enter Tryz.func91,Tryz.ntmps91
 go_wp2
 refine wp_loop_rounds 1 ?_; rw [rounds_succ]
 go_wp2
 go_ret
 exact ⟨rfl,rfl⟩
theorem sameT11_any {w : World} {va vb : Value} {xs ys : List Ty} (ha : Es tyE w va xs) (hb : Es tyE w vb ys) :
  Calls Tryz.prog 91 #[va,vb] w fun e w' => e = .returned (.bool (decide (xs = ys)))∧∃ n,w' = w.drewN n:=by
 by_cases hl : xs.length = ys.length
 ·by_cases hx : xs = []
  ·subst hx
   have hy : ys = []:=List.eq_nil_of_length_eq_zero hl.symm
   subst hy
   obtain ⟨a,ca,rfl,_,_⟩:=ha.shape
   obtain ⟨b,cb,rfl,_,_⟩:=hb.shape
   refine (sameT11_empty a b ca cb w).mono ?_
   rintro e w' ⟨rfl,rfl⟩
   exact ⟨ret_bool (by simp),0,rfl⟩
  ·have hll:=ha.len
   obtain ⟨b1,o1,c1,rfl,_,_,_,h1⟩:=ha.parts hx
   obtain ⟨b2,o2,c2,rfl,_,_,_,h2⟩:=hb.parts (by intro e; subst e; exact hx (List.eq_nil_of_length_eq_zero hl))
   have:=sameT11_eq (ca:=c1) (cb:=c2) hl hll h1 h2
   rw [← hl]
   exact this
 ·have h1:=ha.len
  have h2:=hb.len
  obtain ⟨a,ca,rfl,_,_⟩:=ha.shape
  obtain ⟨b,cb,rfl,_,_⟩:=hb.shape
  refine (sameT11_len a b _ _ ca cb w hl h1 h2).mono ?_
  rintro e w' ⟨rfl,rfl⟩
  exact ⟨ret_bool (by symm; rw [decide_eq_false_iff_not]; intro e; subst e; exact hl rfl),0,rfl⟩

def sgM (x y : MD) : Bool:=decide (x.rt = y.rt∧x.fl % 2 = y.fl % 2∧x.ps = y.ps)
theorem smM_eq (x y : MD) : smM x y = (decide (x.nm = y.nm) && sgM x y):=by
 unfold smM sgM
 rw [Bool.eq_iff_iff]
 simp only [decide_eq_true_iff,Bool.and_eq_true]
 constructor
 ·rintro ⟨a,b,c,d⟩; exact ⟨a,c,d,b⟩
 ·rintro ⟨a,c,d,b⟩; exact ⟨a,b,c,d⟩
theorem tmod2 {f : Int} (h : 0 ≤ f) : f.tmod 2 = f % 2:=Int.tmod_eq_emod_of_nonneg h

set_option maxHeartbeats 4000000 in
theorem refSameSig_any {x y : MD} {w : World} (hx : x.ok w) (hy : y.ok w) (h1 : 0 ≤ x.fl) (h2 : 0 ≤ y.fl) :
  Calls Tryz.prog 61 #[mdV x,mdV y] w fun e w' => e = .returned (.bool (sgM x y))∧Below w.heap.size w w':=by
 obtain ⟨w0,hw0⟩ : ∃ W,W = (w.alloc (.cells (mdA x) 55)).alloc (.cells (mdA y) 55):=⟨_,rfl⟩
 have HW0 : Hid (w0 = _):=hw0
 obtain ⟨hb0,hat⟩:=two_boxes hw0
 have HB0 : Hid (Below w.heap.size w w0):=hb0
 obtain ⟨hA1,hA2⟩:=hat w0 (Below.refl _ _)
 have c1:=hA1.cell
 have c2:=hA2.cell
 have HST : Hid (Calls Tryz.prog 91 #[.slice x.pa x.ps.length x.pc,.slice y.pa y.ps.length y.pc] w0 fun e w' => e = .returned (.bool (decide (x.ps = y.ps)))∧∃ n,w' = w0.drewN n):=sameT11_any (hx.ps.later hb0) (hy.ps.later hb0)
 have hq : ∀ W : World,(binOp .eql 51 (.agg #[.int .i64 x.rt.1,.int .i64 x.rt.2.1,.int .i64 x.rt.2.2.1,.bool x.rt.2.2.2]) (.agg #[.int .i64 y.rt.1,.int .i64 y.rt.2.1,.int .i64 y.rt.2.2.1,.bool y.rt.2.2.2])).run Tryz.prog W = .ok (.bool (decide (x.rt = y.rt))) W:=fun W => eq_ty2 W _ _
 have m1:=tmod2 h1
 have m2:=tmod2 h2
 have HR : Hid (sgM x y = (decide (x.rt = y.rt) && (x.fl % 2 == y.fl % 2) && decide (x.ps = y.ps))):=by
  show _ = _
  unfold sgM
  rw [Bool.eq_iff_iff]
  simp [and_assoc]
 unfold mdA at c1 c2 HW0
 clear hw0 hb0 hat hA1 hA2 hx hy
 generalize decide (x.rt = y.rt) = r1 at *
 generalize decide (x.ps = y.ps) = r3 at *
 unfold mdV
 go_enter Tryz.func61,Tryz.ntmps61
 cases r1 with
 | false =>
  go_wp2_with (rw [← HW0.out])
  go_ret
  exact ⟨ret_bool (by rw [HR.out]; rfl),HB0.out⟩
 | true =>
  cases r2 : (x.fl % 2 == y.fl % 2) with
  | false =>
   go_wp2_with (rw [← HW0.out])
   go_ret
   exact ⟨ret_bool (by rw [HR.out,r2]; rfl),HB0.out⟩
  | true =>
   go_wp2_with (rw [← HW0.out])
   refine Calls.mono HST.out ?_
   rintro e w1 ⟨rfl,n,rfl⟩
   go_wp2_with fail
   go_ret
   exact ⟨ret_bool (by rw [HR.out,r2]; rfl),Below.drewN HB0.out _⟩
structure LiF (w : World) (a : Option Addr) (n c : Nat) (L : List Int) : Prop where
 is : Is w (.slice a n c) L
 at0 : ∀ {i : Nat},i < L.length → ∃ b,a = some ⟨b,0,none⟩
theorem LiF.of {w : World} {base : Nat} {a : Option Addr} {c : Nat} {L : List Int} (h : OwnI w base (.slice a L.length c) L) : Hid (LiF w a L.length c L):=⟨h.is,fun {i} hi => by
 obtain ⟨g,cap,hv,_⟩:=h.parts (by intro e; rw [e] at hi; simp at hi)
 simp only [Value.slice.injEq] at hv
 exact ⟨g,hv.1⟩⟩
end Go.Proofs.YthpmpdpfnlecmaaGreat
