/- Texts joined: Form10, FormB10. -/
import Derived.Test.YthpmpdpfnlecmaaGreatK17
import Derived.Test.YthpmpdpfnlecmaaGreatK18
import Derived.Test.YthpmpdpfnlecmaaGreatK05
namespace Go.Proofs.YthpmpdpfnlecmaaGreat
set_option linter.unusedVariables false
set_option linter.unusedSimpArgs false
open Go.RowKit
attribute [local go_sem ↓] Go.wp_at_zero Go.wp_at_succ
def mdA (x : MD) : Array Value := #[.string x.nm, .int .i64 x.ow, .int .i64 x.fl, .slice x.pa x.ps.length x.pc, .int .i64 x.rt.1, .int .i64 x.rt.2.1, .int .i64 x.rt.2.2.1, .bool x.rt.2.2.2, .slice x.la x.ls.length x.lc, .int .i64 x.mx, .slice x.ca x.co.length x.cc, .slice x.ka x.cl.length x.kc]
def fdA (x : FD) : Array Value := #[.string x.nm, .int .i64 x.ow, .int .i64 x.t.1, .int .i64 x.t.2.1, .int .i64 x.t.2.2.1, .bool x.t.2.2.2, .bool x.st]
def tdA (x : TD) : Array Value := #[.string x.nm, .int .i64 x.fl, .int .i64 x.ex, .slice x.fa x.fs.length x.fc]

theorem tells_knows (a b c : Nat) (w : World) (l : List Ty) : Tells Tryz.prog tv w 189 #[szV a b c] #[] (ownB a) l :=
 ⟨run_enter9 Tryz.func189 (by kernel_rfl) rfl, fun W _ x _ => by simpa using knows_any a b c x W⟩

theorem and_one (n : Int) : bits .and .i64 n 1 = n % 2 := by
 have h1 : (BitVec.ofInt 64 1).toNat = 2 ^ 1 - 1 := by decide
 have key : (BitVec.ofInt 64 n &&& BitVec.ofInt 64 1).toNat = (n % ((2 ^ 64 : Nat) : Int)).toNat % 2 := by
  rw [BitVec.toNat_and, BitVec.toNat_ofInt, h1, Nat.and_two_pow_sub_one_eq_mod]
 have e : bits .and .i64 n 1 = IntKind.i64.wrap ((BitVec.ofInt 64 n &&& BitVec.ofInt 64 1).toNat : Nat) := rfl
 rw [e, key, IntKind.wrap_i64]
 omega

set_option maxHeartbeats 1000000 in
/-- A method's signature. -/
theorem sigOf_any (x : MD) (w : World) :
  Calls Tryz.prog 192 #[mdV x] w fun e w' => e = .returned (.agg #[.bool (decide (x.fl % 2 = 0)), .slice x.pa x.ps.length x.pc, .int .i64 x.rt.1, .int .i64 x.rt.2.1, .int .i64 x.rt.2.2.1, .bool x.rt.2.2.2]) ∧ Below w.heap.size w w' := by
 obtain ⟨w0, hw0⟩ : ∃ W, W = (w.alloc (.cells (mdA x) 55)).alloc (.cells #[.bool false, .slice none 0 0, .int .i64 0, .int .i64 0, .int .i64 0, .bool false] 166) := ⟨_, rfl⟩
 have HW0 : Hid (w0 = _) := hw0
 obtain ⟨hb0, hat⟩ := two_boxes hw0
 obtain ⟨hA1, hA2⟩ := hat w0 (Below.refl _ _)
 have c1 := hA1.cell
 have c2 := hA2.cell
 have m2 := hA2.melt
 have ha := and_one x.fl
 have hd : (x.fl % 2 == 0) = decide (x.fl % 2 = 0) := by rw [Bool.eq_iff_iff]; simp
 have HF := (hA2.set6 (.bool (decide (x.fl % 2 = 0))) (.slice x.pa x.ps.length x.pc) (.int .i64 x.rt.1) (.int .i64 x.rt.2.1) (.int .i64 x.rt.2.2.1) (.bool x.rt.2.2.2)).cell
 have HB := below_set6 hb0 (Nat.le_succ w.heap.size) (.bool (decide (x.fl % 2 = 0))) (.slice x.pa x.ps.length x.pc) (.int .i64 x.rt.1) (.int .i64 x.rt.2.1) (.int .i64 x.rt.2.2.1) (.bool x.rt.2.2.2)
 unfold mdA at c1 HW0
 clear hw0 hb0 hat hA1 hA2
 unfold mdV
 go_enter Tryz.func192, Tryz.ntmps192
 go_wp2_with (rw [← HW0.out])
 exact bodyPost_ret (v := .agg #[.bool (decide (x.fl % 2 = 0)), .slice x.pa x.ps.length x.pc, .int .i64 x.rt.1, .int .i64 x.rt.2.1, .int .i64 x.rt.2.2.1, .bool x.rt.2.2.2]) (by simp [results, Tryz.results192, go_sem, HF]) rfl ⟨rfl, HB⟩

set_option maxHeartbeats 2000000 in
theorem isSig_any (a b c : Nat) (x : MD) {w : World} (hx : x.ok w) :
  Calls Tryz.prog 153 #[szV a b c, mdV x] w fun e w' => e = .returned (.bool (decide (sigE x.ps x.rt = 0) && ownB a x.rt && x.ps.all (ownB a))) ∧ Below w.heap.size w w' := by
 obtain ⟨w0, hw0⟩ : ∃ W, W = (w.alloc (.cells (szC a b c) 109)).alloc (.cells (mdA x) 55) := ⟨_, rfl⟩
 have HW0 : Hid (w0 = _) := hw0
 obtain ⟨hb0, hat⟩ := two_boxes hw0
 have HB0 : Hid (Below w.heap.size w w0) := hb0
 have HAT : Hid (∀ W, Below w0.heap.size w0 W → At W w.heap.size (szC a b c) 109 ∧ At W (w.heap.size + 1) (mdA x) 55) := hat
 have HX : Hid (∀ W, Below w.heap.size w W → Es tyE W (.slice x.pa x.ps.length x.pc) x.ps) := fun W hW => hx.ps.later hW
 obtain ⟨hA1, hA2⟩ := hat w0 (Below.refl _ _)
 have c1 := hA1.cell
 have c2 := hA2.cell
 have HS : Hid (Calls Tryz.prog 192 #[.agg (mdA x)] w0 fun e w' => e = .returned (.agg #[.bool (decide (x.fl % 2 = 0)), .slice x.pa x.ps.length x.pc, .int .i64 x.rt.1, .int .i64 x.rt.2.1, .int .i64 x.rt.2.2.1, .bool x.rt.2.2.2]) ∧ Below w0.heap.size w0 w') := sigOf_any x w0
 unfold mdA at c2 HW0 HS
 unfold szC at c1 HW0
 clear hw0 hb0 hat hA1 hA2 hx
 unfold mdV szV
 go_enter Tryz.func153, Tryz.ntmps153
 go_wp2_with (rw [← HW0.out])
 refine Calls.mono HS.out ?_
 rintro e w1 ⟨rfl, hb1⟩
 have HB1 : Hid (Below w0.heap.size w0 w1) := hb1
 have HPS : Hid (Calls Tryz.prog 191 #[.agg #[.bool (decide (x.fl % 2 = 0)), .slice x.pa x.ps.length x.pc, .int .i64 x.rt.1, .int .i64 x.rt.2.1, .int .i64 x.rt.2.2.1, .bool x.rt.2.2.2]] w1 fun e w' => ∃ v, e = .returned (.tuple #[v, .int .i64 (sigE x.ps x.rt : Int)]) ∧ Below w1.heap.size w1 w') := by
  refine (putSig_any (HX.out w1 (bstep HB0.out hb1)).toTs (decide (x.fl % 2 = 0)) x.rt.1 x.rt.2.1 x.rt.2.2.1 x.rt.2.2.2).mono ?_
  rintro e w' ⟨h1, h2, h3⟩
  by_cases he : sigE x.ps x.rt = 0
  ·obtain ⟨v', rfl, _⟩ := h1 he
   exact ⟨v', by rw [he]; rfl, h3⟩
  ·exact ⟨_, h2 he, h3⟩
 clear hb1 c1 c2 HS
 go_wp2_with fail
 refine Calls.mono HPS.out ?_
 rintro e w2 ⟨v2, rfl, hb2⟩
 have HB2 : Hid (Below w0.heap.size w0 w2) := bstep HB1.out hb2
 obtain ⟨hA1, hA2⟩ := HAT.out w2 HB2.out
 have c1 := hA1.cell
 have c2 := hA2.cell
 unfold mdA at c2
 unfold szC at c1
 clear hb2 hA1 hA2 HPS
 obtain ⟨E, hE⟩ : ∃ E, E = sigE x.ps x.rt := ⟨_, rfl⟩
 have HE : Hid (decide (sigE x.ps x.rt = 0) = decide (E = 0)) := by show _ = _; rw [hE]
 rw [← hE]
 by_cases h0 : E = 0
 ·subst h0
  have HKn : Hid (Calls Tryz.prog 189 #[.agg #[.int .i64 a, .int .i64 b, .int .i64 c], .agg #[.int .i64 x.rt.1, .int .i64 x.rt.2.1, .int .i64 x.rt.2.2.1, .bool x.rt.2.2.2]] w2 fun e w' => e = .returned (.bool (ownB a x.rt)) ∧ Below w2.heap.size w2 w') := knows_any a b c x.rt w2
  clear hE
  go_wp2_with fail
  refine Calls.mono HKn.out ?_
  rintro e w3 ⟨rfl, hb3⟩
  have HB3 : Hid (Below w0.heap.size w0 w3) := bstep HB2.out hb3
  obtain ⟨hA1, hA2⟩ := HAT.out w3 HB3.out
  have d1 := hA1.cell
  have d2 := hA2.cell
  unfold mdA at d2
  unfold szC at d1
  clear hb3 hA1 hA2 HKn c1 c2
  cases hk : ownB a x.rt with
  | false =>
   go_wp2
   go_ret
   exact ⟨ret_bool (by rw [HE.out, hk]; simp), bstep HB0.out HB3.out⟩
  | true =>
   have HAl : Hid (Calls Tryz.prog 193 #[.slice x.pa x.ps.length x.pc, .func (.func 189) #[.agg #[.int .i64 a, .int .i64 b, .int .i64 c]] #[]] w3 fun e w' => e = .returned (.bool (x.ps.all (ownB a))) ∧ Below w3.heap.size w3 w') := allY10_any (HX.out w3 (bstep HB0.out HB3.out)) (tells_knows a b c w3 x.ps)
   go_wp2_with fail
   refine Calls.mono HAl.out ?_
   rintro e w4 ⟨rfl, hb4⟩
   have HB4 : Hid (Below w0.heap.size w0 w4) := bstep HB3.out hb4
   clear hb4 d1 d2 HAl
   go_wp2
   go_ret
   exact ⟨ret_bool (by rw [HE.out, hk]; simp), bstep HB0.out HB4.out⟩
 ·have e0 : ((E : Int) == 0) = false := by simp; omega
  have hd : decide (E = 0) = false := by simpa using h0
  clear hE
  go_wp2
  go_ret
  exact ⟨ret_bool (by rw [HE.out, hd]; rfl), bstep HB0.out HB2.out⟩

set_option maxHeartbeats 2000000 in
theorem isLocals_any (a b c : Nat) {v : Value} {l : List Ty} {w : World} (hl : Es tyE w v l) :
  Calls Tryz.prog 154 #[szV a b c, v] w fun e w' => e = .returned (.bool (decide (locE l = 0) && l.all (ownB a))) ∧ Below w.heap.size w w' := by
 obtain ⟨w0, hw0⟩ : ∃ W, W = w.alloc (.cells (szC a b c) 109) := ⟨_, rfl⟩
 have HW0 : Hid (w0 = _) := hw0
 have hb0 : Below w.heap.size w w0 := by rw [hw0]; exact made_below _ _ _
 have hA : At w0 w.heap.size (szC a b c) 109 := by rw [hw0]; exact At.made w _ _
 have HB0 : Hid (Below w.heap.size w w0) := hb0
 have HAT : Hid (∀ W, Below w0.heap.size w0 W → At W w.heap.size (szC a b c) 109) := fun W hW => hA.later hW
 have HX : Hid (∀ W, Below w.heap.size w W → Es tyE W v l) := fun W hW => hl.later hW
 obtain ⟨va, vc, hv, _, _⟩ := hl.shape
 subst hv
 have HPS : Hid (Calls Tryz.prog 194 #[.slice va l.length vc] w0 fun e w' => ∃ v, e = .returned (.tuple #[v, .int .i64 (locE l : Int)]) ∧ Below w0.heap.size w0 w') := by
  refine (putLocals_any (HX.out w0 hb0).toTs).mono ?_
  rintro e w' ⟨h1, h2, h3⟩
  by_cases he : locE l = 0
  ·obtain ⟨v', rfl, _⟩ := h1 he
   exact ⟨v', by rw [he]; rfl, h3⟩
  ·exact ⟨_, h2 he, h3⟩
 unfold szC at HW0
 clear hw0 hb0 hA hl
 unfold szV
 go_enter Tryz.func154, Tryz.ntmps154
 go_wp2_with (rw [← HW0.out])
 refine Calls.mono HPS.out ?_
 rintro e w2 ⟨v2, rfl, hb2⟩
 have HB2 : Hid (Below w0.heap.size w0 w2) := hb2
 have hA1 := HAT.out w2 HB2.out
 have c1 := hA1.cell
 unfold szC at c1
 clear hb2 hA1 HPS
 obtain ⟨E, hE⟩ : ∃ E, E = locE l := ⟨_, rfl⟩
 have HE : Hid (decide (locE l = 0) = decide (E = 0)) := by show _ = _; rw [hE]
 rw [← hE]
 by_cases h0 : E = 0
 ·subst h0
  have HAl : Hid (Calls Tryz.prog 193 #[.slice va l.length vc, .func (.func 189) #[.agg #[.int .i64 a, .int .i64 b, .int .i64 c]] #[]] w2 fun e w' => e = .returned (.bool (l.all (ownB a))) ∧ Below w2.heap.size w2 w') := allY10_any (HX.out w2 (bstep HB0.out HB2.out)) (tells_knows a b c w2 l)
  clear hE
  go_wp2_with fail
  refine Calls.mono HAl.out ?_
  rintro e w4 ⟨rfl, hb4⟩
  have HB4 : Hid (Below w0.heap.size w0 w4) := bstep HB2.out hb4
  clear hb4 c1 HAl
  go_wp2
  go_ret
  exact ⟨ret_bool (by rw [HE.out]; simp), bstep HB0.out HB4.out⟩
 ·have e0 : ((E : Int) == 0) = false := by simp; omega
  have hd : decide (E = 0) = false := by simpa using h0
  clear hE
  go_wp2
  go_ret
  exact ⟨ret_bool (by rw [HE.out, hd]; rfl), bstep HB0.out HB2.out⟩

set_option maxHeartbeats 2000000 in
theorem isCode1_any (a b c n : Nat) (x : Ins) {w : World} {gs gl : Nat} {ca : Option Addr} {cc : Nat} (hs : At w gs (szC a b c) 109) (hl : At w gl #[.slice ca n cc] 52) :
  Calls Tryz.prog 196 #[iv x, .pointer (some ⟨gs, 0, none⟩), .pointer (some ⟨gl, 0, none⟩)] w fun e w' => e = .returned (.bool (insB a b c n x)) ∧ Below w.heap.size w w' := by
 obtain ⟨w0, hw0⟩ : ∃ W, W = w.alloc (.cells (insA x) 89) := ⟨_, rfl⟩
 have HW0 : Hid (w0 = _) := hw0
 have hb0 : Below w.heap.size w w0 := by rw [hw0]; exact made_below _ _ _
 have HB0 : Hid (Below w.heap.size w w0) := hb0
 have hA : At w0 w.heap.size (insA x) 89 := by rw [hw0]; exact At.made w _ _
 have HAT : Hid (∀ W, Below w0.heap.size w0 W → At W w.heap.size (insA x) 89 ∧ At W gs (szC a b c) 109 ∧ At W gl #[.slice ca n cc] 52) := fun W hW => ⟨hA.later hW, hs.later (bstep hb0 hW), hl.later (bstep hb0 hW)⟩
 have HF : Hid (insB a b c n x = (decide (fitE x.1 x.2.1 x.2.2.1 x.2.2.2.1 x.2.2.2.2.1 x.2.2.2.2.2 = 0) && hasI a b c n x)) := rfl
 have HFi : Hid (Calls Tryz.prog 197 #[.agg #[.int .i64 x.1, .int .i64 x.2.1, .int .i64 x.2.2.1, .int .i64 x.2.2.2.1, .int .i64 x.2.2.2.2.1, .bool x.2.2.2.2.2]] w0 fun e w' => e = .returned (.int .i64 (fitE x.1 x.2.1 x.2.2.1 x.2.2.2.1 x.2.2.2.2.1 x.2.2.2.2.2)) ∧ Below w0.heap.size w0 w') := fits_any _ _ _ _ _ _ w0
 have hc := hA.cell
 unfold insA at hc HW0
 clear hw0 hb0 hA hs hl
 unfold iv
 go_enter Tryz.func196, Tryz.ntmps196
 go_wp2_with (rw [← HW0.out])
 refine Calls.mono HFi.out ?_
 rintro e w1 ⟨rfl, hb1⟩
 obtain ⟨hA1, hA2, hA3⟩ := HAT.out w1 hb1
 have HB1 : Hid (Below w0.heap.size w0 w1) := hb1
 have c1 := hA1.cell
 have c2 := hA2.cell
 have c3 := hA3.cell0
 unfold insA at c1
 unfold szC at c2
 clear hb1 hc HFi hA1 hA2 hA3
 generalize fitE x.1 x.2.1 x.2.2.1 x.2.2.2.1 x.2.2.2.2.1 x.2.2.2.2.2 = E at *
 by_cases h0 : E = 0
 ·subst h0
  have HH : Hid (Calls Tryz.prog 198 #[.agg #[.int .i64 a, .int .i64 b, .int .i64 c], .agg #[.int .i64 x.1, .int .i64 x.2.1, .int .i64 x.2.2.1, .int .i64 x.2.2.2.1, .int .i64 x.2.2.2.2.1, .bool x.2.2.2.2.2], .int .i64 n] w1 fun e w' => e = .returned (.bool (hasI a b c n x)) ∧ Below w1.heap.size w1 w') := has_any10 a b c n x w1
  go_wp2_with fail
  refine Calls.mono HH.out ?_
  rintro e w2 ⟨rfl, hb2⟩
  have HB2 : Hid (Below w0.heap.size w0 w2) := bstep HB1.out hb2
  clear hb2 c1 c2 c3 HH
  go_wp2
  go_ret
  exact ⟨ret_bool (by rw [HF.out]; rfl), bstep HB0.out HB2.out⟩
 ·have e0 : (E == 0) = false := by simpa using h0
  have hd : decide (E = 0) = false := by simpa using h0
  go_wp2
  go_ret
  exact ⟨ret_bool (by rw [HF.out, hd]; rfl), bstep HB0.out HB1.out⟩

set_option maxHeartbeats 2000000 in
theorem isCode_any (a b c : Nat) {v : Value} {l : List Ins} {w : World} (hl : Es insE w v l) :
  Calls Tryz.prog 155 #[szV a b c, v] w fun e w' => e = .returned (.bool (decide (l.length ≤ 160) && l.all (insB a b c l.length))) ∧ Below w.heap.size w w' := by
 obtain ⟨va, vc, hv, _, hvm⟩ := hl.shape
 have hlm := hl.len
 unfold maxLen at hlm
 subst hv
 obtain ⟨w0, hw0⟩ : ∃ W, W = (w.alloc (.cells (szC a b c) 109)).alloc (.cells #[.slice va l.length vc] 52) := ⟨_, rfl⟩
 have HW0 : Hid (w0 = _) := hw0
 obtain ⟨hb0, hat⟩ := two_boxes hw0
 have HB0 : Hid (Below w.heap.size w w0) := hb0
 have HAT : Hid (∀ W, Below w0.heap.size w0 W → At W w.heap.size (szC a b c) 109 ∧ At W (w.heap.size + 1) #[.slice va l.length vc] 52) := hat
 have HAl : Hid (Calls Tryz.prog 195 #[.slice va l.length vc, .func (.func 196) #[] #[.pointer (some ⟨w.heap.size, 0, none⟩), .pointer (some ⟨w.heap.size + 1, 0, none⟩)]] w0 fun e w' => e = .returned (.bool (l.all (insB a b c l.length))) ∧ Below w0.heap.size w0 w') := by
  refine allI10_any (hl.later hb0) ⟨run_enter9 Tryz.func196 (by kernel_rfl) rfl, fun W hW x _ => ?_⟩
  obtain ⟨q1, q2⟩ := hat W hW
  simpa using isCode1_any a b c l.length x q1 q2
 obtain ⟨hA1, hA2⟩ := hat w0 (Below.refl _ _)
 have c2 := hA2.cell0
 unfold szC at HW0
 clear hw0 hb0 hat hA1 hA2 hl hvm
 unfold szV
 by_cases h : l.length ≤ 160
 ·have h' : (l.length : Int) ≤ 160 := by omega
  go_enter Tryz.func155, Tryz.ntmps155
  go_wp2_with (rw [← HW0.out])
  refine Calls.mono HAl.out ?_
  rintro e w1 ⟨rfl, hb1⟩
  have HB1 : Hid (Below w0.heap.size w0 w1) := hb1
  clear hb1 c2 HAl
  have hd : decide (l.length ≤ 160) = true := by simpa using h
  go_wp2
  go_ret
  exact ⟨ret_bool (by rw [hd]; rfl), bstep HB0.out HB1.out⟩
 ·have h' : ¬ (l.length : Int) ≤ 160 := by omega
  have hd : decide (l.length ≤ 160) = false := by simpa using h
  go_enter Tryz.func155, Tryz.ntmps155
  go_wp2_with (rw [← HW0.out])
  go_ret
  exact ⟨ret_bool (by first | rfl | (rw [hd]; rfl)), HB0.out⟩
theorem tells_catches (a b c : Nat) (w : World) (l : List Cl) : Tells Tryz.prog clV w 201 #[szV a b c] #[] (catB a) l :=
 ⟨run_enter9 Tryz.func201 (by kernel_rfl) rfl, fun W _ x _ => by simpa using catches_any a b c x W⟩

set_option maxHeartbeats 2000000 in
theorem isClauses_any (a b c : Nat) (x : MD) {w : World} (hx : x.ok w) :
  Calls Tryz.prog 156 #[szV a b c, mdV x] w fun e w' => e = .returned (.bool (rgtB x.co.length x.cl && x.cl.all (catB a))) ∧ Below w.heap.size w w' := by
 obtain ⟨w0, hw0⟩ : ∃ W, W = (w.alloc (.cells (szC a b c) 109)).alloc (.cells (mdA x) 55) := ⟨_, rfl⟩
 have HW0 : Hid (w0 = _) := hw0
 obtain ⟨hb0, hat⟩ := two_boxes hw0
 have HB0 : Hid (Below w.heap.size w w0) := hb0
 have HAT : Hid (∀ W, Below w0.heap.size w0 W → At W w.heap.size (szC a b c) 109 ∧ At W (w.heap.size + 1) (mdA x) 55) := hat
 have HX : Hid (∀ W, Below w.heap.size w W → Es clE9 W (.slice x.ka x.cl.length x.kc) x.cl) := fun W hW => hx.cl.later hW
 obtain ⟨hA1, hA2⟩ := hat w0 (Below.refl _ _)
 have c2 := hA2.cell
 have hcm := hx.co.len
 have HC : Hid (Calls Tryz.prog 199 #[.int .i64 x.co.length, .slice x.ka x.cl.length x.kc] w0 fun e w' => ∃ i y, e = .returned (.tuple #[.int .i64 i, .int .i64 y]) ∧ decide (y = 0) = rgtB x.co.length x.cl ∧ Below w0.heap.size w0 w') := by
  refine (check_any (x.co.length : Int) (HX.out w0 hb0)).mono ?_
  rintro e w' ⟨i, y, rfl, h1, h2⟩
  exact ⟨i, y, rfl, by unfold rgtB; rw [decide_eq_decide]; exact check_right h1, h2⟩
 unfold mdA at c2 HW0
 unfold szC at HW0
 clear hw0 hb0 hat hA1 hA2 hx
 unfold mdV szV
 go_enter Tryz.func156, Tryz.ntmps156
 go_wp2_with (rw [← HW0.out])
 refine Calls.mono HC.out ?_
 rintro e w1 ⟨i, y, rfl, hy, hb1⟩
 have HB1 : Hid (Below w0.heap.size w0 w1) := hb1
 have HY : Hid (decide (y = 0) = rgtB x.co.length x.cl) := hy
 obtain ⟨hA1, hA2⟩ := HAT.out w1 hb1
 have c1 := hA1.cell
 have d2 := hA2.cell
 unfold szC at c1
 unfold mdA at d2
 clear hb1 hy c2 hA1 hA2 HC
 by_cases h0 : y = 0
 ·subst h0
  have HAl : Hid (Calls Tryz.prog 200 #[.slice x.ka x.cl.length x.kc, .func (.func 201) #[.agg #[.int .i64 a, .int .i64 b, .int .i64 c]] #[]] w1 fun e w' => e = .returned (.bool (x.cl.all (catB a))) ∧ Below w1.heap.size w1 w') := allC10_any (HX.out w1 (bstep HB0.out HB1.out)) (tells_catches a b c w1 x.cl)
  go_wp2_with fail
  refine Calls.mono HAl.out ?_
  rintro e w2 ⟨rfl, hb2⟩
  have HB2 : Hid (Below w0.heap.size w0 w2) := bstep HB1.out hb2
  clear hb2 c1 d2 HAl
  go_wp2
  go_ret
  exact ⟨ret_bool (by rw [← HY.out]; simp), bstep HB0.out HB2.out⟩
 ·have e0 : (y == 0) = false := by simpa using h0
  have hd : decide (y = 0) = false := by simpa using h0
  go_wp2
  go_ret
  exact ⟨ret_bool (by rw [← HY.out, hd]; rfl), bstep HB0.out HB1.out⟩

set_option maxHeartbeats 1000000 in
theorem isFace_any (a b c : Nat) (x : Int) {w : World} {gs : Nat} (hs : At w gs (szC a b c) 109) :
  Calls Tryz.prog 143 #[intV x, .pointer (some ⟨gs, 0, none⟩)] w fun e w' => e = .returned (.bool (numB x a)) ∧ Below w.heap.size w w' := by
 have c1 := hs.cell
 unfold szC at c1
 clear hs
 unfold intV
 go_enter Tryz.func143, Tryz.ntmps143
 go_wp2_with (go_at_call 107; refine (isNumber_any _ _ _).mono ?_; rintro e wz ⟨rfl, hz⟩; subst wz)
 go_ret
 exact ⟨ret_bool rfl, Below.refl _ _⟩

set_option maxHeartbeats 4000000 in
theorem isType_any (a b c : Nat) (x : TD) {w : World} (hx : x.ok w) :
  Calls Tryz.prog 98 #[szV a b c, tdV x] w fun e w' => e = .returned (.bool (tdB a x)) ∧ Below w.heap.size w w' := by
 obtain ⟨w0, hw0⟩ : ∃ W, W = (w.alloc (.cells (szC a b c) 109)).alloc (.cells (tdA x) 34) := ⟨_, rfl⟩
 have HW0 : Hid (w0 = _) := hw0
 obtain ⟨hb0, hat⟩ := two_boxes hw0
 have HB0 : Hid (Below w.heap.size w w0) := hb0
 have hlm := hx.len
 unfold maxLen at hlm
 have HAl : Hid (Calls Tryz.prog 146 #[.slice x.fa x.fs.length x.fc, .func (.func 143) #[] #[.pointer (some ⟨w.heap.size, 0, none⟩)]] w0 fun e w' => e = .returned (.bool (x.fs.all (fun i => numB i a))) ∧ Below w0.heap.size w0 w') := by
  refine allN10_any (hx.later hb0) ⟨run_enter9 Tryz.func143 (by kernel_rfl) rfl, fun W hW y _ => ?_⟩
  simpa using isFace_any a b c y (hat W hW).1
 obtain ⟨hA1, hA2⟩ := hat w0 (Below.refl _ _)
 have c1 := hA1.cell
 have c2 := hA2.cell
 have HF : Hid (tdB a x = (fineB x.nm.data.toList && witB x.fl 31 && (decide (x.ex = -1) || (decide (0 ≤ x.ex) && decide (x.ex < a))) && decide (x.fs.length ≤ 4) && x.fs.all (fun i => numB i a))) := rfl
 unfold tdA at c2 HW0
 unfold szC at c1 HW0
 clear hw0 hb0 hat hA1 hA2 hx
 unfold tdV szV
 go_enter Tryz.func98, Tryz.ntmps98
 go_wp2_with (rw [← HW0.out])
 refine (fine_any _ _).mono ?_
 rintro e wz ⟨rfl, hz⟩
 subst wz
 cases hfi : fineB x.nm.data.toList with
 | false =>
  go_wp2_with fail
  go_ret
  exact ⟨ret_bool (by rw [HF.out, hfi]; simp), HB0.out⟩
 | true =>
  go_wp2_with fail
  refine (isWithin_any _ _ _).mono ?_
  rintro e wz ⟨rfl, hz⟩
  subst wz
  cases hwi : witB x.fl 31 with
  | false =>
   go_wp2_with fail
   go_ret
   exact ⟨ret_bool (by rw [HF.out, hwi]; simp), HB0.out⟩
  | true =>
   have HX : Hid (∀ r : Bool, r = (decide (x.ex = -1) || (decide (0 ≤ x.ex) && decide (x.ex < a))) → tdB a x = (r && decide (x.fs.length ≤ 4) && x.fs.all (fun i => numB i a))) := fun r hr => by rw [HF.out, hfi, hwi, ← hr]; simp
   clear hfi hwi HF
   by_cases h1 : x.ex = -1
   ·have HXt : Hid (tdB a x = (decide (x.fs.length ≤ 4) && x.fs.all (fun i => numB i a))) := by show _ = _; rw [HX.out true (by simp [h1])]; simp
    by_cases h4 : x.fs.length ≤ 4
    ·have h4' : (x.fs.length : Int) ≤ 4 := by omega
     have hd : decide (x.fs.length ≤ 4) = true := by simpa using h4
     go_wp2_with fail
     refine Calls.mono HAl.out ?_
     rintro e w1 ⟨rfl, hb1⟩
     have HB1 : Hid (Below w0.heap.size w0 w1) := hb1
     clear hb1 c1 c2 HAl
     go_wp2
     go_ret
     exact ⟨ret_bool (by rw [HXt.out, hd]; simp), bstep HB0.out HB1.out⟩
    ·have h4' : ¬ (x.fs.length : Int) ≤ 4 := by omega
     have hd : decide (x.fs.length ≤ 4) = false := by simpa using h4
     go_wp2_with fail
     go_ret
     exact ⟨ret_bool (by rw [HXt.out, hd]; simp), HB0.out⟩
   ·have e1 : (x.ex == -1) = false := by simpa using h1
    go_wp2_with fail
    refine (isNumber_any _ _ _).mono ?_
    rintro e wz ⟨rfl, hz⟩
    subst wz
    cases hnu : (decide (0 ≤ x.ex) && decide (x.ex < a)) with
    | false =>
     have HXt : Hid (tdB a x = false) := by show _ = _; rw [HX.out false (by rw [hnu]; simp [h1])]; simp
     go_wp2_with fail
     go_ret
     exact ⟨ret_bool HXt.out.symm, HB0.out⟩
    | true =>
     have HXt : Hid (tdB a x = (decide (x.fs.length ≤ 4) && x.fs.all (fun i => numB i a))) := by show _ = _; rw [HX.out true (by rw [hnu]; simp)]; simp
     by_cases h4 : x.fs.length ≤ 4
     ·have h4' : (x.fs.length : Int) ≤ 4 := by omega
      have hd : decide (x.fs.length ≤ 4) = true := by simpa using h4
      go_wp2_with fail
      refine Calls.mono HAl.out ?_
      rintro e w1 ⟨rfl, hb1⟩
      have HB1 : Hid (Below w0.heap.size w0 w1) := hb1
      clear hb1 c1 c2 HAl
      go_wp2
      go_ret
      exact ⟨ret_bool (by rw [HXt.out, hd]; simp), bstep HB0.out HB1.out⟩
     ·have h4' : ¬ (x.fs.length : Int) ≤ 4 := by omega
      have hd : decide (x.fs.length ≤ 4) = false := by simpa using h4
      go_wp2_with fail
      go_ret
      exact ⟨ret_bool (by rw [HXt.out, hd]; simp), HB0.out⟩

set_option maxHeartbeats 2000000 in
theorem isField10_any (a b c : Nat) (x : FD) (w : World) :
  Calls Tryz.prog 100 #[szV a b c, fdV x] w fun e w' => e = .returned (.bool (fdB a x)) ∧ Below w.heap.size w w' := by
 obtain ⟨w0, hw0⟩ : ∃ W, W = (w.alloc (.cells (szC a b c) 109)).alloc (.cells (fdA x) 75) := ⟨_, rfl⟩
 have HW0 : Hid (w0 = _) := hw0
 obtain ⟨hb0, hat⟩ := two_boxes hw0
 have HB0 : Hid (Below w.heap.size w w0) := hb0
 have HFt : Hid (Calls Tryz.prog 149 #[.agg #[.int .i64 a, .int .i64 b, .int .i64 c], .agg #[.int .i64 x.t.1, .int .i64 x.t.2.1, .int .i64 x.t.2.2.1, .bool x.t.2.2.2]] w0 fun e w' => e = .returned (.bool (fldB a x.t)) ∧ Below w0.heap.size w0 w') := isFieldType_any a b c x.t w0
 obtain ⟨hA1, hA2⟩ := hat w0 (Below.refl _ _)
 have c1 := hA1.cell
 have c2 := hA2.cell
 have HF : Hid (fdB a x = (fineB x.nm.data.toList && (decide (0 ≤ x.ow) && decide (x.ow < a)) && fldB a x.t)) := rfl
 unfold fdA at c2 HW0
 unfold szC at c1 HW0
 clear hw0 hb0 hat hA1 hA2
 unfold fdV szV
 go_enter Tryz.func100, Tryz.ntmps100
 go_wp2_with (rw [← HW0.out])
 refine (fine_any _ _).mono ?_
 rintro e wz ⟨rfl, hz⟩
 subst wz
 cases hfi : fineB x.nm.data.toList with
 | false =>
  go_wp2_with fail
  go_ret
  exact ⟨ret_bool (by rw [HF.out, hfi]; simp), HB0.out⟩
 | true =>
  go_wp2_with fail
  refine (isNumber_any _ _ _).mono ?_
  rintro e wz ⟨rfl, hz⟩
  subst wz
  cases hnu : (decide (0 ≤ x.ow) && decide (x.ow < a)) with
  | false =>
   go_wp2_with fail
   go_ret
   exact ⟨ret_bool (by rw [HF.out, hnu]; simp), HB0.out⟩
  | true =>
   go_wp2_with fail
   refine Calls.mono HFt.out ?_
   rintro e w1 ⟨rfl, hb1⟩
   have HB1 : Hid (Below w0.heap.size w0 w1) := hb1
   clear hb1 c1 c2 HFt
   go_wp2
   go_ret
   exact ⟨ret_bool (by rw [HF.out, hfi, hnu]; simp), bstep HB0.out HB1.out⟩
end Go.Proofs.YthpmpdpfnlecmaaGreat
