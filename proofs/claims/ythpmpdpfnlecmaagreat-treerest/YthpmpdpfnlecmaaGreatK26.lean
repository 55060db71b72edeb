/- Texts joined: RefSig11, LiF11. -/
import Derived.Test.YthpmpdpfnlecmaaGreatK23
import Derived.Test.YthpmpdpfnlecmaaGreatK19
namespace Go.Proofs.YthpmpdpfnlecmaaGreat
set_option linter.unusedVariables false
set_option linter.unusedSimpArgs false
open Go.RowKit
attribute [local go_sem ↓] Go.wp_at_zero Go.wp_at_succ
theorem neq_ty2 (W : World) (x y : Ty) : (binOp .neq 51 (.agg #[.int .i64 x.1, .int .i64 x.2.1, .int .i64 x.2.2.1, .bool x.2.2.2]) (.agg #[.int .i64 y.1, .int .i64 y.2.1, .int .i64 y.2.2.1, .bool y.2.2.2])).run Tryz.prog W = .ok (.bool (!decide (x = y))) W := by
 obtain ⟨k, i, d, r⟩ := x
 obtain ⟨k', i', d', r'⟩ := y
 simp [go_sem]
 cases h1 : (k == k') <;> cases h2 : (i == i') <;> cases h3 : (d == d') <;> cases h4 : (r == r') <;> simp_all [go_sem]
theorem eq_ty2 (W : World) (x y : Ty) : (binOp .eql 51 (.agg #[.int .i64 x.1, .int .i64 x.2.1, .int .i64 x.2.2.1, .bool x.2.2.2]) (.agg #[.int .i64 y.1, .int .i64 y.2.1, .int .i64 y.2.2.1, .bool y.2.2.2])).run Tryz.prog W = .ok (.bool (decide (x = y))) W := by
 rw [eq_ty]
 congr 2
 obtain ⟨k, i, d, r⟩ := x
 obtain ⟨k', i', d', r'⟩ := y
 rw [Bool.eq_iff_iff]
 simp [and_assoc]

set_option maxHeartbeats 1000000 in
theorem sameT11_eq {w : World} {ba oa ca bb ob cb : Nat} {xs ys : List Ty} (hle : xs.length = ys.length) (hl : xs.length ≤ maxLen) (ha : ∀ i (h : i < xs.length), El tyE w ba (oa + i * 4) xs[i]) (hb : ∀ i (h : i < ys.length), El tyE w bb (ob + i * 4) ys[i]) :
  Calls Tryz.prog 91 #[.slice (some ⟨ba, oa, none⟩) xs.length ca, .slice (some ⟨bb, ob, none⟩) xs.length cb] w fun e w' => e = .returned (.bool (decide (xs = ys))) ∧ ∃ n, w' = w.drewN n := by
 unfold maxLen at hl
 have HA : Hid (∀ i (h : i < xs.length), El tyE w ba (oa + i * 4) xs[i]) := ha
 have HB : Hid (∀ i (h : i < ys.length), El tyE w bb (ob + i * 4) ys[i]) := hb
 have h1 : ((xs.length : Int) != (xs.length : Int)) = false := by simp
 clear ha hb
 go_enter Tryz.func91, Tryz.ntmps91
 go_wp2_with fail
 go_loopw [5] (fun z wr => ∃ q n : Nat, q ≤ xs.length ∧ z = .int .i64 (q : Int) ∧ wr = w.drewN n ∧ Hid (xs.take q = ys.take q)) (fun z _ => xs.length - (intOf z).toNat)
 case atStart => exact ⟨0, 0, Nat.zero_le _, rfl, rfl, by show _ = _; simp⟩
 case round =>
  obtain ⟨q, n, hq, rfl, rfl, HT⟩ := hrel
  by_cases hql : q < xs.length
  ·have hqi : (q : Int) < (xs.length : Int) := by omega
   obtain ⟨c0, c1, c2, c3⟩ := (HA.out q hql).cells_Y
   obtain ⟨d0, d1, d2, d3⟩ := (HB.out q (by omega)).cells_Y
   have HN : Hid (xs[q] ≠ ys[q] → decide (xs = ys) = false) := fun h => by rw [decide_eq_false_iff_not]; intro e; subst e; exact h rfl
   have HY : Hid (xs[q] = ys[q] → xs.take (q + 1) = ys.take (q + 1)) := fun h => by rw [List.take_succ_eq_append_getElem hql, List.take_succ_eq_append_getElem (by omega), HT.out, h]
   have hnq : ∀ W : World, (binOp .neq 51 (.agg #[.int .i64 xs[q].1, .int .i64 xs[q].2.1, .int .i64 xs[q].2.2.1, .bool xs[q].2.2.2]) (.agg #[.int .i64 ys[q].1, .int .i64 ys[q].2.1, .int .i64 ys[q].2.2.1, .bool ys[q].2.2.2])).run Tryz.prog W = .ok (.bool (!decide (xs[q] = ys[q]))) W := fun W => neq_ty2 W _ _
   by_cases he : xs[q] = ys[q]
   ·rw [decide_eq_true he] at hnq
    have HY2 : Hid _ := HY.out he
    clear he HY HN
    generalize xs[q] = x at *
    generalize ys[q] = y at *
    obtain ⟨x1, x2, x3, x4⟩ := x
    obtain ⟨y1, y2, y3, y4⟩ := y
    simp only at c0 c1 c2 c3 d0 d1 d2 d3 hnq
    go_wp2_with fail
    go_quiet (fail)
    go_wp2_with fail
    go_roundw
    case rel => exact ⟨q + 1, n + nq, by omega, by go_num, rfl, HY2.out⟩
    case measure => simp [intOf]; omega
   ·rw [decide_eq_false he] at hnq
    have HBad : Hid _ := HN.out he
    clear he HY HN
    generalize xs[q] = x at *
    generalize ys[q] = y at *
    obtain ⟨x1, x2, x3, x4⟩ := x
    obtain ⟨y1, y2, y3, y4⟩ := y
    simp only at c0 c1 c2 c3 d0 d1 d2 d3 hnq
    go_wp2_with fail
    go_quiet (fail)
    go_wp2_with fail
    go_ret
    exact ⟨ret_bool HBad.out.symm, n + nq, by rw [World.drewN_drewN]⟩
  ·have hqi : ¬ (q : Int) < (xs.length : Int) := by omega
   have HE : Hid (decide (xs = ys) = true) := by
    show _ = _
    rw [decide_eq_true_iff]
    have := HT.out
    rwa [List.take_of_length_le (by omega), List.take_of_length_le (by omega)] at this
   go_wp2_with fail
   go_ret
   exact ⟨ret_bool HE.out.symm, n, rfl⟩
theorem sameT11_len (va vb : Option Addr) (la lb ca cb : Nat) (w : World) (hne : la ≠ lb) (ha : la ≤ maxLen) (hb : lb ≤ maxLen) :
  Calls Tryz.prog 91 #[.slice va la ca, .slice vb lb cb] w fun e w' => e = .returned (.bool false) ∧ w' = w := by
 have h1 : ((la : Int) != (lb : Int)) = true := by rw [bne_iff_ne]; omega
 go_enter Tryz.func91, Tryz.ntmps91
 go_wp2
 go_ret
 exact ⟨rfl, rfl⟩
theorem sameT11_empty (va vb : Option Addr) (ca cb : Nat) (w : World) :
  Calls Tryz.prog 91 #[.slice va 0 ca, .slice vb 0 cb] w fun e w' => e = .returned (.bool true) ∧ w' = w := by
 go_enter Tryz.func91, Tryz.ntmps91
 go_wp2
 refine wp_loop_rounds 1 ?_; rw [rounds_succ]
 go_wp2
 go_ret
 exact ⟨rfl, rfl⟩
theorem sameT11_any {w : World} {va vb : Value} {xs ys : List Ty} (ha : Es tyE w va xs) (hb : Es tyE w vb ys) :
  Calls Tryz.prog 91 #[va, vb] w fun e w' => e = .returned (.bool (decide (xs = ys))) ∧ ∃ n, w' = w.drewN n := by
 by_cases hl : xs.length = ys.length
 ·by_cases hx : xs = []
  ·subst hx
   have hy : ys = [] := List.eq_nil_of_length_eq_zero hl.symm
   subst hy
   obtain ⟨a, ca, rfl, _, _⟩ := ha.shape
   obtain ⟨b, cb, rfl, _, _⟩ := hb.shape
   refine (sameT11_empty a b ca cb w).mono ?_
   rintro e w' ⟨rfl, rfl⟩
   exact ⟨ret_bool (by simp), 0, rfl⟩
  ·have hll := ha.len
   obtain ⟨b1, o1, c1, rfl, _, _, _, h1⟩ := ha.parts hx
   obtain ⟨b2, o2, c2, rfl, _, _, _, h2⟩ := hb.parts (by intro e; subst e; exact hx (List.eq_nil_of_length_eq_zero hl))
   have := sameT11_eq (ca := c1) (cb := c2) hl hll h1 h2
   rw [← hl]
   exact this
 ·have h1 := ha.len
  have h2 := hb.len
  obtain ⟨a, ca, rfl, _, _⟩ := ha.shape
  obtain ⟨b, cb, rfl, _, _⟩ := hb.shape
  refine (sameT11_len a b _ _ ca cb w hl h1 h2).mono ?_
  rintro e w' ⟨rfl, rfl⟩
  exact ⟨ret_bool (by symm; rw [decide_eq_false_iff_not]; intro e; subst e; exact hl rfl), 0, rfl⟩

def sgM (x y : MD) : Bool := decide (x.rt = y.rt ∧ x.fl % 2 = y.fl % 2 ∧ x.ps = y.ps)
theorem smM_eq (x y : MD) : smM x y = (decide (x.nm = y.nm) && sgM x y) := by
 unfold smM sgM
 rw [Bool.eq_iff_iff]
 simp only [decide_eq_true_iff, Bool.and_eq_true]
 constructor
 ·rintro ⟨a, b, c, d⟩; exact ⟨a, c, d, b⟩
 ·rintro ⟨a, c, d, b⟩; exact ⟨a, b, c, d⟩
theorem tmod2 {f : Int} (h : 0 ≤ f) : f.tmod 2 = f % 2 := Int.tmod_eq_emod_of_nonneg h

set_option maxHeartbeats 4000000 in
theorem refSameSig_any {x y : MD} {w : World} (hx : x.ok w) (hy : y.ok w) (h1 : 0 ≤ x.fl) (h2 : 0 ≤ y.fl) :
  Calls Tryz.prog 61 #[mdV x, mdV y] w fun e w' => e = .returned (.bool (sgM x y)) ∧ Below w.heap.size w w' := by
 obtain ⟨w0, hw0⟩ : ∃ W, W = (w.alloc (.cells (mdA x) 55)).alloc (.cells (mdA y) 55) := ⟨_, rfl⟩
 have HW0 : Hid (w0 = _) := hw0
 obtain ⟨hb0, hat⟩ := two_boxes hw0
 have HB0 : Hid (Below w.heap.size w w0) := hb0
 obtain ⟨hA1, hA2⟩ := hat w0 (Below.refl _ _)
 have c1 := hA1.cell
 have c2 := hA2.cell
 have HST : Hid (Calls Tryz.prog 91 #[.slice x.pa x.ps.length x.pc, .slice y.pa y.ps.length y.pc] w0 fun e w' => e = .returned (.bool (decide (x.ps = y.ps))) ∧ ∃ n, w' = w0.drewN n) := sameT11_any (hx.ps.later hb0) (hy.ps.later hb0)
 have hq : ∀ W : World, (binOp .eql 51 (.agg #[.int .i64 x.rt.1, .int .i64 x.rt.2.1, .int .i64 x.rt.2.2.1, .bool x.rt.2.2.2]) (.agg #[.int .i64 y.rt.1, .int .i64 y.rt.2.1, .int .i64 y.rt.2.2.1, .bool y.rt.2.2.2])).run Tryz.prog W = .ok (.bool (decide (x.rt = y.rt))) W := fun W => eq_ty2 W _ _
 have m1 := tmod2 h1
 have m2 := tmod2 h2
 have HR : Hid (sgM x y = (decide (x.rt = y.rt) && (x.fl % 2 == y.fl % 2) && decide (x.ps = y.ps))) := by
  show _ = _
  unfold sgM
  rw [Bool.eq_iff_iff]
  simp [and_assoc]
 unfold mdA at c1 c2 HW0
 clear hw0 hb0 hat hA1 hA2 hx hy
 generalize decide (x.rt = y.rt) = r1 at *
 generalize decide (x.ps = y.ps) = r3 at *
 unfold mdV
 go_enter Tryz.func61, Tryz.ntmps61
 cases r1 with
 | false =>
  go_wp2_with (rw [← HW0.out])
  go_ret
  exact ⟨ret_bool (by rw [HR.out]; rfl), HB0.out⟩
 | true =>
  cases r2 : (x.fl % 2 == y.fl % 2) with
  | false =>
   go_wp2_with (rw [← HW0.out])
   go_ret
   exact ⟨ret_bool (by rw [HR.out, r2]; rfl), HB0.out⟩
  | true =>
   go_wp2_with (rw [← HW0.out])
   refine Calls.mono HST.out ?_
   rintro e w1 ⟨rfl, n, rfl⟩
   go_wp2_with fail
   go_ret
   exact ⟨ret_bool (by rw [HR.out, r2]; rfl), Below.drewN HB0.out _⟩
/-- A list of numbers of a call's own, laid from a block's beginning on. -/
structure LiF (w : World) (a : Option Addr) (n c : Nat) (L : List Int) : Prop where
 is : Is w (.slice a n c) L
 at0 : ∀ {i : Nat}, i < L.length → ∃ b, a = some ⟨b, 0, none⟩
theorem LiF.of {w : World} {base : Nat} {a : Option Addr} {c : Nat} {L : List Int} (h : OwnI w base (.slice a L.length c) L) : Hid (LiF w a L.length c L) := ⟨h.is, fun {i} hi => by
 obtain ⟨g, cap, hv, _⟩ := h.parts (by intro e; rw [e] at hi; simp at hi)
 simp only [Value.slice.injEq] at hv
 exact ⟨g, hv.1⟩⟩
end Go.Proofs.YthpmpdpfnlecmaaGreat
