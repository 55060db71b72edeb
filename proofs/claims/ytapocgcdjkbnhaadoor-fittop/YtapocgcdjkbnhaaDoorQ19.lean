/- Texts joined: RefOwn10, RefBase9, RefAlone9. -/
import Derived.Test.YtapocgcdjkbnhaaDoorQ10
import Derived.Test.YtapocgcdjkbnhaaDoorQ18
import Derived.Test.YtapocgcdjkbnhaaDoorQ01
namespace Go.Proofs.YtapocgcdjkbnhaaDoor
set_option linter.unusedVariables false
set_option linter.unusedSimpArgs false
open Go.RowKit
attribute [local go_sem ↓] Go.wp_at_zero Go.wp_at_succ
def mB (p n : Nat) (t : Ty) : Bool:=mayT p t && ownB n t
def rownB (n : Nat) (t : Ty) : Bool:=(decide (t.1 ≠ 5) && decide (t.1 ≠ 6)) || decide (t.2.1 < n)
theorem rown_eq {p n : Nat} {t : Ty} (hp : p = 1 ∨ p = 2 ∨ p = 3) (h : mayT p t = true) : rownB n t = ownB n t:=by
 have hpl : plainB t.1 t.2.1 t.2.2.1 t.2.2.2 = true:=by
  unfold mayT mayB at h
  rcases hp with rfl | rfl | rfl
  ·rw [if_pos rfl] at h; simp only [Bool.and_eq_true] at h; exact h.1.1
  ·rw [if_neg (by decide),if_pos rfl] at h; simp only [Bool.and_eq_true] at h; exact h.1
  ·rw [if_neg (by decide),if_neg (by decide),if_pos rfl] at h; simp only [Bool.and_eq_true] at h; exact h.1
 have h0 : 0 ≤ t.2.1:=(plain_facts hpl).2.2.1
 unfold rownB ownB numB
 rw [Bool.eq_iff_iff]
 by_cases h5 : t.1 = 5 ∨ t.1 = 6
 ·rw [if_pos h5]; simp; omega
 ·rw [if_neg h5]; simp; omega
theorem mB_eq {p n : Nat} {t : Ty} (hp : p = 1 ∨ p = 2 ∨ p = 3) : (mayT p t && rownB n t) = mB p n t:=by
 unfold mB
 cases h : mayT p t with
 | false => simp
 | true => rw [rown_eq hp h]

set_option maxHeartbeats 1000000 in
theorem refOwn_any (t : Ty) (n : Nat) (w : World) :
  Calls Tryd.prog 49 #[tv t,.int .i64 n] w fun e w' => e = .returned (.bool (rownB n t))∧Below w.heap.size w w':=by
 obtain ⟨k,i,d,r⟩:=t
 unfold tv
 go_enter Tryd.func49,Tryd.ntmps49
 go_wp2
 all_goals go_ret
 all_goals refine ⟨ret_bool ?_,(Below.refl _ _).alloc (Nat.le_refl _) _⟩
 all_goals try simp only [bne_iff_ne,ne_eq,bne_eq_false_iff_eq,beq_iff_eq,beq_eq_false_iff_ne] at *
 all_goals (unfold rownB; rw [Bool.eq_iff_iff]; simp [*])

set_option maxHeartbeats 1000000 in
theorem refMay_any {p : Nat} (hp : p = 1 ∨ p = 2 ∨ p = 3) (t : Ty) (n : Nat) (w : World) :
  Calls Tryd.prog 33 #[tv t,.int .i64 p,.int .i64 n] w fun e w' => e = .returned (.bool (mB p n t))∧Below w.heap.size w w':=by
 have HE : Hid ((mayT p t && rownB n t) = mB p n t):=mB_eq hp
 obtain ⟨k,i,d,r⟩:=t
 obtain ⟨w0,hw0⟩ : ∃ W,W = w.alloc (.cells #[.int .i64 k,.int .i64 i,.int .i64 d,.bool r] 28):=⟨_,rfl⟩
 have HW0 : Hid (w0 = _):=hw0
 have hb0 : Below w.heap.size w w0:=by rw [hw0]; exact made_below _ _ _
 have HB0 : Hid (Below w.heap.size w w0):=hb0
 have hA : At w0 w.heap.size #[.int .i64 k,.int .i64 i,.int .i64 d,.bool r] 28:=by rw [hw0]; exact At.made w _ _
 have HA : Hid (∀ W,Below w0.heap.size w0 W → At W w.heap.size #[.int .i64 k,.int .i64 i,.int .i64 d,.bool r] 28):=fun W hW => hA.later hW
 have HWh : Hid (Calls Tryd.prog 48 #[.agg #[.int .i64 k,.int .i64 i,.int .i64 d,.bool r],.int .i64 p] w0 fun e w' => e = .returned (.bool (mayB p k i d r))∧Below w0.heap.size w0 w'):=by
  rcases hp with rfl | rfl | rfl
  ·exact where1_any k i d r w0
  ·exact where2_any k i d r w0
  ·exact where3_any k i d r w0
 have hc:=hA.cell
 clear hw0 hb0 hA hp
 unfold tv
 go_enter Tryd.func33,Tryd.ntmps33
 go_wp2_with (rw [← HW0.out])
 refine Calls.mono HWh.out ?_
 rintro e w1 ⟨rfl,hb1⟩
 have HB1 : Hid (Below w0.heap.size w0 w1):=hb1
 have c1:=(HA.out w1 hb1).cell
 clear hb1 hc HWh
 cases hm : mayB p k i d r with
 | false =>
  go_wp2_with fail
  go_ret
  exact ⟨ret_bool (by rw [← HE.out]; unfold mayT; rw [hm]; rfl),bstep HB0.out HB1.out⟩
 | true =>
  have HO : Hid (Calls Tryd.prog 49 #[.agg #[.int .i64 k,.int .i64 i,.int .i64 d,.bool r],.int .i64 n] w1 fun e w' => e = .returned (.bool (rownB n (k,i,d,r)))∧Below w1.heap.size w1 w'):=refOwn_any (k,i,d,r) n w1
  go_wp2_with fail
  refine Calls.mono HO.out ?_
  rintro e w2 ⟨rfl,hb2⟩
  have HB2 : Hid (Below w0.heap.size w0 w2):=bstep HB1.out hb2
  clear hb2 c1 HO
  go_wp2
  go_ret
  exact ⟨ret_bool (by rw [← HE.out]; unfold mayT; rw [hm]; rfl),bstep HB0.out HB2.out⟩

theorem refOf10_any (op : Int) (w : World) :
  Calls Tryd.prog 59 #[.int .i64 op] w fun e w' => ∃ s q z,e = .returned (.tuple #[.agg #[.string s,.int .i64 (opP op),.int .i64 q],.int .i64 z])∧Below w.heap.size w w':=by
 by_cases hin : 1 ≤ op∧op ≤ 75
 ·exact (refOf_at op hin.1 hin.2 w).mono fun e w' ⟨he,hb⟩ => ⟨_,_,_,he,hb⟩
 ·refine (refOf_out op hin w).mono fun e w' ⟨he,hb⟩ => ⟨⟨#[]⟩,0,3, ?_,hb⟩
  rw [he,opP_out hin]
theorem At.made2 (w : World) (o : Obj) (C : Array Value) (t : TypeId) : At ((w.alloc o).alloc (.cells C t)) (w.heap.size + 1) C t:=by
 have:=At.made (w.alloc o) C t
 simpa using this

set_option maxHeartbeats 1000000 in
theorem bounds9_any (c : Cl) (p : Int) (w : World) :
  Calls Tryd.prog 85 #[clV c,.int .i64 p] w fun e w' => e = .returned (.tuple #[.int .i64 (bnd c p).1,.int .i64 (bnd c p).2])∧Below w.heap.size w w':=by
 obtain ⟨w0,hw0⟩ : ∃ W,W = w.alloc (.cells #[.int .i64 c.k,.int .i64 c.tf,.int .i64 c.tt,.int .i64 c.hf,.int .i64 c.ht,.int .i64 c.fi,.int .i64 c.t0,.int .i64 c.t1,.int .i64 c.t2,.bool c.t3] 84):=⟨_,rfl⟩
 have HW0 : Hid (w0 = _):=hw0
 have HB0 : Hid (Below w.heap.size w w0):=by rw [hw0]; exact made_below _ _ _
 have hA : At w0 w.heap.size (clC c).toArray 84:=by rw [hw0]; exact At.made w (clC c).toArray _
 obtain ⟨c0,c1,c2,c3,c4,c5,c6,c7,c8,c9⟩:=hA.ten
 clear hw0 hA
 unfold clV
 go_enter Tryd.func85,Tryd.ntmps85
 by_cases h1 : p = 1
 ·subst h1
  go_wp2_with (rw [← HW0.out])
  go_quiet (fail)
  go_wp2_with fail
  go_ret2
  exact ⟨rfl,bstep HB0.out (Below.drewN (Below.refl _ _) _)⟩
 ·have h1' : (p == 1) = false:=by rw [beq_eq_false_iff_ne]; exact h1
  by_cases h2 : p = 2
  ·subst h2
   go_wp2_with (rw [← HW0.out])
   go_quiet (fail)
   go_wp2_with fail
   go_ret2
   exact ⟨rfl,bstep HB0.out (Below.drewN (Below.refl _ _) _)⟩
  ·have h2' : (p == 2) = false:=by rw [beq_eq_false_iff_ne]; exact h2
   have HR : Hid (bnd c p = if c.k = 2 then (c.fi,c.hf) else (0,0)):=by show _ = _; unfold bnd; rw [if_neg h1,if_neg h2]
   clear h1 h2
   by_cases hk : c.k = 2
   ·have hk' : (c.k == 2) = true:=by rw [hk]; rfl
    have HR2 : Hid (bnd c p = (c.fi,c.hf)):=by show _ = _; rw [HR.out,if_pos hk]
    clear hk
    go_wp2_with (rw [← HW0.out])
    go_quiet (fail)
    go_wp2_with fail
    go_ret2
    exact ⟨by rw [HR2.out]; rfl,bstep HB0.out (Below.drewN (Below.refl _ _) _)⟩
   ·have hk' : (c.k == 2) = false:=by rw [beq_eq_false_iff_ne]; exact hk
    have HR2 : Hid (bnd c p = (0,0)):=by show _ = _; rw [HR.out,if_neg hk]
    clear hk
    go_wp2_with (rw [← HW0.out])
    go_ret2
    exact ⟨by rw [HR2.out]; rfl,HB0.out⟩

set_option maxHeartbeats 1000000 in
theorem rmeet_any (a : Cl) (p : Int) (b : Cl) (q : Int) (w : World) :
  Calls Tryd.prog 84 #[clV a,.int .i64 p,clV b,.int .i64 q] w fun e w' => e = .returned (.bool (rmeetB a p b q))∧Below w.heap.size w w':=by
 obtain ⟨w0,hw0⟩ : ∃ W,W = (w.alloc (.cells #[.int .i64 a.k,.int .i64 a.tf,.int .i64 a.tt,.int .i64 a.hf,.int .i64 a.ht,.int .i64 a.fi,.int .i64 a.t0,.int .i64 a.t1,.int .i64 a.t2,.bool a.t3] 84)).alloc (.cells #[.int .i64 b.k,.int .i64 b.tf,.int .i64 b.tt,.int .i64 b.hf,.int .i64 b.ht,.int .i64 b.fi,.int .i64 b.t0,.int .i64 b.t1,.int .i64 b.t2,.bool b.t3] 84):=⟨_,rfl⟩
 have HW0 : Hid (w0 = _):=hw0
 have HB0 : Hid (Below w.heap.size w w0):=by rw [hw0]; exact bbox (made_below _ _ _) _
 have hA : At w0 w.heap.size (clC a).toArray 84:=by rw [hw0]; exact (At.made w (clC a).toArray _).next _
 have hA2 : At w0 (w.heap.size + 1) (clC b).toArray 84:=by
  rw [hw0]; exact At.made2 w _ (clC b).toArray 84
 have HK : Hid (∀ W,Below w0.heap.size w0 W → Ten W w.heap.size 0 a∧Ten W (w.heap.size + 1) 0 b):=fun W hW => ⟨(hA.later hW).ten,(hA2.later hW).ten⟩
 obtain ⟨⟨c0,c1,c2,c3,c4,c5,c6,c7,c8,c9⟩,_⟩:=HK.out w0 (Below.refl _ _)
 have HBo : Hid (∀ W,Calls Tryd.prog 85 #[.agg #[.int .i64 a.k,.int .i64 a.tf,.int .i64 a.tt,.int .i64 a.hf,.int .i64 a.ht,.int .i64 a.fi,.int .i64 a.t0,.int .i64 a.t1,.int .i64 a.t2,.bool a.t3],.int .i64 p] W fun e w' => e = .returned (.tuple #[.int .i64 (bnd a p).1,.int .i64 (bnd a p).2])∧Below W.heap.size W w'):=fun W => bounds9_any a p W
 have HBo2 : Hid (∀ W,Calls Tryd.prog 85 #[.agg #[.int .i64 b.k,.int .i64 b.tf,.int .i64 b.tt,.int .i64 b.hf,.int .i64 b.ht,.int .i64 b.fi,.int .i64 b.t0,.int .i64 b.t1,.int .i64 b.t2,.bool b.t3],.int .i64 q] W fun e w' => e = .returned (.tuple #[.int .i64 (bnd b q).1,.int .i64 (bnd b q).2])∧Below W.heap.size W w'):=fun W => bounds9_any b q W
 have HR : Hid (rmeetB a p b q = (decide ((bnd a p).1 < (bnd b q).2) && decide ((bnd b q).1 < (bnd a p).2) && decide ((bnd a p).1 < (bnd a p).2) && decide ((bnd b q).1 < (bnd b q).2))):=rfl
 clear hw0 hA hA2
 unfold clV
 go_enter Tryd.func84,Tryd.ntmps84
 go_wp2_with (rw [← HW0.out])
 refine (HBo.out _).mono ?_
 rintro e w1 ⟨rfl,hb1⟩
 clear c0 c1 c2 c3 c4 c5 c6 c7 c8 c9
 obtain ⟨_,⟨d0,d1,d2,d3,d4,d5,d6,d7,d8,d9⟩⟩:=HK.out w1 hb1
 have HB1 : Hid (Below w.heap.size w w1):=bstep HB0.out hb1
 clear hb1
 go_wp2_with fail
 refine (HBo2.out _).mono ?_
 rintro e w2 ⟨rfl,hb2⟩
 have HB2 : Hid (Below w.heap.size w w2):=bstep HB1.out hb2
 clear hb2 d0 d1 d2 d3 d4 d5 d6 d7 d8 d9 HBo HBo2
 generalize (bnd a p).1 = x at *
 generalize (bnd a p).2 = y at *
 generalize (bnd b q).1 = x' at *
 generalize (bnd b q).2 = y' at *
 go_wp2_with fail
 all_goals go_ret
 all_goals refine ⟨ret_bool ?_,HB2.out⟩
 all_goals (rw [HR.out]; simp_all; try omega)

set_option maxHeartbeats 1000000 in
theorem rwithin_any (a : Cl) (p : Int) (b : Cl) (q : Int) (w : World) :
  Calls Tryd.prog 86 #[clV a,.int .i64 p,clV b,.int .i64 q] w fun e w' => e = .returned (.bool (rwithinB a p b q))∧Below w.heap.size w w':=by
 obtain ⟨w0,hw0⟩ : ∃ W,W = (w.alloc (.cells #[.int .i64 a.k,.int .i64 a.tf,.int .i64 a.tt,.int .i64 a.hf,.int .i64 a.ht,.int .i64 a.fi,.int .i64 a.t0,.int .i64 a.t1,.int .i64 a.t2,.bool a.t3] 84)).alloc (.cells #[.int .i64 b.k,.int .i64 b.tf,.int .i64 b.tt,.int .i64 b.hf,.int .i64 b.ht,.int .i64 b.fi,.int .i64 b.t0,.int .i64 b.t1,.int .i64 b.t2,.bool b.t3] 84):=⟨_,rfl⟩
 have HW0 : Hid (w0 = _):=hw0
 have HB0 : Hid (Below w.heap.size w w0):=by rw [hw0]; exact bbox (made_below _ _ _) _
 have hA : At w0 w.heap.size (clC a).toArray 84:=by rw [hw0]; exact (At.made w (clC a).toArray _).next _
 have hA2 : At w0 (w.heap.size + 1) (clC b).toArray 84:=by
  rw [hw0]; exact At.made2 w _ (clC b).toArray 84
 have HK : Hid (∀ W,Below w0.heap.size w0 W → Ten W w.heap.size 0 a∧Ten W (w.heap.size + 1) 0 b):=fun W hW => ⟨(hA.later hW).ten,(hA2.later hW).ten⟩
 obtain ⟨⟨c0,c1,c2,c3,c4,c5,c6,c7,c8,c9⟩,_⟩:=HK.out w0 (Below.refl _ _)
 have HBo : Hid (∀ W,Calls Tryd.prog 85 #[.agg #[.int .i64 a.k,.int .i64 a.tf,.int .i64 a.tt,.int .i64 a.hf,.int .i64 a.ht,.int .i64 a.fi,.int .i64 a.t0,.int .i64 a.t1,.int .i64 a.t2,.bool a.t3],.int .i64 p] W fun e w' => e = .returned (.tuple #[.int .i64 (bnd a p).1,.int .i64 (bnd a p).2])∧Below W.heap.size W w'):=fun W => bounds9_any a p W
 have HBo2 : Hid (∀ W,Calls Tryd.prog 85 #[.agg #[.int .i64 b.k,.int .i64 b.tf,.int .i64 b.tt,.int .i64 b.hf,.int .i64 b.ht,.int .i64 b.fi,.int .i64 b.t0,.int .i64 b.t1,.int .i64 b.t2,.bool b.t3],.int .i64 q] W fun e w' => e = .returned (.tuple #[.int .i64 (bnd b q).1,.int .i64 (bnd b q).2])∧Below W.heap.size W w'):=fun W => bounds9_any b q W
 have HR : Hid (rwithinB a p b q = if (bnd a p).1 = 0∧(bnd a p).2 = 0 then true else decide ((bnd b q).1 ≤ (bnd a p).1) && decide ((bnd a p).2 ≤ (bnd b q).2) && (decide ((bnd b q).1 < (bnd a p).1) || decide ((bnd a p).2 < (bnd b q).2))):=rfl
 clear hw0 hA hA2
 unfold clV
 go_enter Tryd.func86,Tryd.ntmps86
 go_wp2_with (rw [← HW0.out])
 refine (HBo.out _).mono ?_
 rintro e w1 ⟨rfl,hb1⟩
 clear c0 c1 c2 c3 c4 c5 c6 c7 c8 c9
 obtain ⟨_,⟨d0,d1,d2,d3,d4,d5,d6,d7,d8,d9⟩⟩:=HK.out w1 hb1
 have HB1 : Hid (Below w.heap.size w w1):=bstep HB0.out hb1
 clear hb1
 go_wp2_with fail
 refine (HBo2.out _).mono ?_
 rintro e w2 ⟨rfl,hb2⟩
 have HB2 : Hid (Below w.heap.size w w2):=bstep HB1.out hb2
 clear hb2 d0 d1 d2 d3 d4 d5 d6 d7 d8 d9 HBo HBo2
 generalize (bnd a p).1 = x at *
 generalize (bnd a p).2 = y at *
 generalize (bnd b q).1 = x' at *
 generalize (bnd b q).2 = y' at *
 go_wp2_with fail
 all_goals go_ret
 all_goals refine ⟨ret_bool ?_,HB2.out⟩
 all_goals (rw [HR.out]; simp_all; try omega)
set_option maxHeartbeats 1000000 in
theorem alone_any (n : Int) (c : Cl) (w : World) :
  Calls Tryd.prog 81 #[.int .i64 n,clV c] w fun e w' => e = .returned (.int .i64 (raloneI n c))∧Below w.heap.size w w':=by
 obtain ⟨w0,hw0⟩ : ∃ W,W = w.alloc (.cells #[.int .i64 c.k,.int .i64 c.tf,.int .i64 c.tt,.int .i64 c.hf,.int .i64 c.ht,.int .i64 c.fi,.int .i64 c.t0,.int .i64 c.t1,.int .i64 c.t2,.bool c.t3] 84):=⟨_,rfl⟩
 have HW0 : Hid (w0 = _):=hw0
 have HB0 : Hid (Below w.heap.size w w0):=by rw [hw0]; exact made_below _ _ _
 have hA : At w0 w.heap.size (clC c).toArray 84:=by rw [hw0]; exact At.made w (clC c).toArray _
 have HK : Hid (∀ W,Below w0.heap.size w0 W → Ten W w.heap.size 0 c):=fun W hW => (hA.later hW).ten
 have HM : Hid (∀ W p q,Calls Tryd.prog 84 #[.agg #[.int .i64 c.k,.int .i64 c.tf,.int .i64 c.tt,.int .i64 c.hf,.int .i64 c.ht,.int .i64 c.fi,.int .i64 c.t0,.int .i64 c.t1,.int .i64 c.t2,.bool c.t3],.int .i64 p,.agg #[.int .i64 c.k,.int .i64 c.tf,.int .i64 c.tt,.int .i64 c.hf,.int .i64 c.ht,.int .i64 c.fi,.int .i64 c.t0,.int .i64 c.t1,.int .i64 c.t2,.bool c.t3],.int .i64 q] W fun e w' => e = .returned (.bool (rmeetB c p c q))∧Below W.heap.size W w'):=fun W p q => rmeet_any c p c q W
 obtain ⟨c0,c1,c2,c3,c4,c5,c6,c7,c8,c9⟩:=hA.ten
 clear hw0 hA
 unfold clV
 go_enter Tryd.func81,Tryd.ntmps81
 by_cases hA : c.k < 1 ∨ 4 < c.k ∨ ¬ (0 ≤ c.tf∧c.tf < c.tt∧c.tt ≤ n) ∨ ¬ (0 ≤ c.hf∧c.hf < c.ht∧c.ht ≤ n)
 ·have HX : Hid (raloneI n c = 3):=by show _ = _; unfold raloneI; rw [if_pos hA]
  have HA : Hid (c.k < 1 ∨ 4 < c.k ∨ ¬ (0 ≤ c.tf∧c.tf < c.tt∧c.tt ≤ n) ∨ ¬ (0 ≤ c.hf∧c.hf < c.ht∧c.ht ≤ n)):=hA
  clear hA
  go_wp2_with (rw [← HW0.out])
  all_goals first
   | (go_ret; exact ⟨ret_int HX.out.symm,HB0.out⟩)
   | (exfalso; have:=HA.out; simp only [Bool.not_eq_true',Bool.not_eq_false',decide_eq_true_eq,decide_eq_false_iff_not] at *; omega)
 ·have HX : Hid (raloneI n c = if (c.k = 2∧(c.fi < 0 ∨ c.hf ≤ c.fi)) ∨ (c.k ≠ 2∧c.fi ≠ -1) then 3 else if (rmeetB c 1 c 2 || rmeetB c 1 c 3 || rmeetB c 2 c 3) = true then 12 else 0):=by show _ = _; unfold raloneI; rw [if_neg hA]
  obtain ⟨g1,g2,g3,g4,g5,g6,g7,g8⟩ : 1 ≤ c.k∧c.k ≤ 4∧0 ≤ c.tf∧c.tf < c.tt∧c.tt ≤ n∧0 ≤ c.hf∧c.hf < c.ht∧c.ht ≤ n:=by omega
  clear hA
  by_cases hF : (c.k = 2∧(c.fi < 0 ∨ c.hf ≤ c.fi)) ∨ (c.k ≠ 2∧c.fi ≠ -1)
  ·have HX2 : Hid (raloneI n c = 3):=by show _ = _; rw [HX.out,if_pos hF]
   have HF : Hid ((c.k = 2∧(c.fi < 0 ∨ c.hf ≤ c.fi)) ∨ (c.k ≠ 2∧c.fi ≠ -1)):=hF
   clear hF
   go_wp2_with (rw [← HW0.out])
   all_goals first
    | (go_ret; exact ⟨ret_int HX2.out.symm,HB0.out⟩)
    | (exfalso; have:=HF.out; simp only [beq_iff_eq,beq_eq_false_iff_ne,bne_iff_ne,bne_eq_false_iff_eq,ne_eq] at *; omega)
  ·have HX2 : Hid (raloneI n c = if (rmeetB c 1 c 2 || rmeetB c 1 c 3 || rmeetB c 2 c 3) = true then 12 else 0):=by show _ = _; rw [HX.out,if_neg hF]
   have HP : Hid (c.k = 2∧0 ≤ c.fi∧c.fi < c.hf ∨ (c.k == 2) = false∧c.fi = -1):=by
    show _ ∨ _
    rw [beq_eq_false_iff_ne]
    omega
   clear hF
   have fin : Hid (∀ W a b d,Below w0.heap.size w0 W → a = rmeetB c 1 c 2 → b = rmeetB c 1 c 3 → d = rmeetB c 2 c 3 → Ending.returned (.int .i64 (if (a || b || d) = true then 12 else 0)) = Ending.returned (.int .i64 (raloneI n c))∧Below w.heap.size w W):=fun W a b d hW ha hb hd => ⟨by rw [HX2.out,ha,hb,hd],bstep HB0.out hW⟩
   obtain ⟨hk,h5,h6⟩ | ⟨hk,h5⟩:=HP.out
   ·obtain ⟨k,tf,tt,hf,ht,fi,t0,t1,t2,t3⟩:=c
    simp only at *
    subst hk
    go_wp2_with (rw [← HW0.out])
    refine (HM.out _ _ _).mono ?_
    rintro e w1 ⟨rfl,hb1⟩
    have HB1 : Hid (Below w0.heap.size w0 w1):=bstep (Below.refl _ _) hb1
    clear hb1 c0 c1 c2 c3 c4 c5 c6 c7 c8 c9
    obtain ⟨c0,c1,c2,c3,c4,c5,c6,c7,c8,c9⟩:=HK.out w1 HB1.out
    cases m1 : rmeetB ⟨2,tf,tt,hf,ht,fi,t0,t1,t2,t3⟩ 1 ⟨2,tf,tt,hf,ht,fi,t0,t1,t2,t3⟩ 2 with
    | true =>
     go_wp2_with fail
     go_ret
     have:=fin.out w1 true _ _ HB1.out m1.symm rfl rfl
     simpa using this
    | false =>
     go_wp2_with fail
     refine (HM.out _ _ _).mono ?_
     rintro e w2 ⟨rfl,hb2⟩
     have HB2 : Hid (Below w0.heap.size w0 w2):=bstep HB1.out hb2
     clear hb2 c0 c1 c2 c3 c4 c5 c6 c7 c8 c9
     obtain ⟨c0,c1,c2,c3,c4,c5,c6,c7,c8,c9⟩:=HK.out w2 HB2.out
     cases m2 : rmeetB ⟨2,tf,tt,hf,ht,fi,t0,t1,t2,t3⟩ 1 ⟨2,tf,tt,hf,ht,fi,t0,t1,t2,t3⟩ 3 with
     | true =>
      go_wp2_with fail
      go_ret
      have:=fin.out w2 false true _ HB2.out m1.symm m2.symm rfl
      simpa using this
     | false =>
      go_wp2_with fail
      refine (HM.out _ _ _).mono ?_
      rintro e w3 ⟨rfl,hb3⟩
      have HB3 : Hid (Below w0.heap.size w0 w3):=bstep HB2.out hb3
      clear hb3 c0 c1 c2 c3 c4 c5 c6 c7 c8 c9
      obtain ⟨c0,c1,c2,c3,c4,c5,c6,c7,c8,c9⟩:=HK.out w3 HB3.out
      cases m3 : rmeetB ⟨2,tf,tt,hf,ht,fi,t0,t1,t2,t3⟩ 2 ⟨2,tf,tt,hf,ht,fi,t0,t1,t2,t3⟩ 3 with
      | true =>
       go_wp2_with fail
       go_ret
       have:=fin.out w3 false false true HB3.out m1.symm m2.symm m3.symm
       simpa using this
      | false =>
       go_wp2_with fail
       go_ret
       have:=fin.out w3 false false false HB3.out m1.symm m2.symm m3.symm
       simpa using this
   ·have n1 : ¬ c.k < 1:=by omega
    have n2 : ¬ 4 < c.k:=by omega
    obtain ⟨k,tf,tt,hf,ht,fi,t0,t1,t2,t3⟩:=c
    simp only at *
    have n3 : ¬ k = 2:=by rw [beq_eq_false_iff_ne] at hk; exact hk
    subst h5
    go_wp2_with (rw [← HW0.out])
    refine (HM.out _ _ _).mono ?_
    rintro e w1 ⟨rfl,hb1⟩
    have HB1 : Hid (Below w0.heap.size w0 w1):=bstep (Below.refl _ _) hb1
    clear hb1 c0 c1 c2 c3 c4 c5 c6 c7 c8 c9
    obtain ⟨c0,c1,c2,c3,c4,c5,c6,c7,c8,c9⟩:=HK.out w1 HB1.out
    cases m1 : rmeetB ⟨k,tf,tt,hf,ht, -1,t0,t1,t2,t3⟩ 1 ⟨k,tf,tt,hf,ht, -1,t0,t1,t2,t3⟩ 2 with
    | true =>
     go_wp2_with fail
     go_ret
     have:=fin.out w1 true _ _ HB1.out m1.symm rfl rfl
     simpa using this
    | false =>
     go_wp2_with fail
     refine (HM.out _ _ _).mono ?_
     rintro e w2 ⟨rfl,hb2⟩
     have HB2 : Hid (Below w0.heap.size w0 w2):=bstep HB1.out hb2
     clear hb2 c0 c1 c2 c3 c4 c5 c6 c7 c8 c9
     obtain ⟨c0,c1,c2,c3,c4,c5,c6,c7,c8,c9⟩:=HK.out w2 HB2.out
     cases m2 : rmeetB ⟨k,tf,tt,hf,ht, -1,t0,t1,t2,t3⟩ 1 ⟨k,tf,tt,hf,ht, -1,t0,t1,t2,t3⟩ 3 with
     | true =>
      go_wp2_with fail
      go_ret
      have:=fin.out w2 false true _ HB2.out m1.symm m2.symm rfl
      simpa using this
     | false =>
      go_wp2_with fail
      refine (HM.out _ _ _).mono ?_
      rintro e w3 ⟨rfl,hb3⟩
      have HB3 : Hid (Below w0.heap.size w0 w3):=bstep HB2.out hb3
      clear hb3 c0 c1 c2 c3 c4 c5 c6 c7 c8 c9
      obtain ⟨c0,c1,c2,c3,c4,c5,c6,c7,c8,c9⟩:=HK.out w3 HB3.out
      cases m3 : rmeetB ⟨k,tf,tt,hf,ht, -1,t0,t1,t2,t3⟩ 2 ⟨k,tf,tt,hf,ht, -1,t0,t1,t2,t3⟩ 3 with
      | true =>
       go_wp2_with fail
       go_ret
       have:=fin.out w3 false false true HB3.out m1.symm m2.symm m3.symm
       simpa using this
      | false =>
       go_wp2_with fail
       go_ret
       have:=fin.out w3 false false false HB3.out m1.symm m2.symm m3.symm
       simpa using this
end Go.Proofs.YtapocgcdjkbnhaaDoor
