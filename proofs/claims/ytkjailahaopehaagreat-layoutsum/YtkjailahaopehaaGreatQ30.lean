/- Texts joined: ChkSame11, ChkNamed11, ChkNames11. -/
import Derived.Test.YtkjailahaopehaaGreatQ26
import Derived.Test.YtkjailahaopehaaGreatQ28
import Derived.Test.YtkjailahaopehaaGreatQ29
import Derived.Deep.QuietTactic
import Derived.BigQuiet
import Derived.Test.YtkjailahaopehaaGreatQ05
namespace Go.Proofs.YtkjailahaopehaaGreat
set_option linter.unusedVariables false
set_option linter.unusedSimpArgs false
open Go.RowKit
attribute [local go_sem ↓] Go.wp_at_zero Go.wp_at_succ
set_option maxHeartbeats 1000000 in
theorem equalT11_eq {w : World} {ba oa ca bb ob cb : Nat} {xs ys : List Ty} (hle : xs.length = ys.length) (hl : xs.length ≤ maxLen) (ha : ∀ i (h : i < xs.length), El tyE w ba (oa + i * 4) xs[i]) (hb : ∀ i (h : i < ys.length), El tyE w bb (ob + i * 4) ys[i]) :
  Calls Tryz.prog 150 #[.slice (some ⟨ba, oa, none⟩) xs.length ca, .slice (some ⟨bb, ob, none⟩) xs.length cb] w fun e w' => e = .returned (.bool (decide (xs = ys))) ∧ ∃ n, w' = w.drewN n := by
 unfold maxLen at hl
 have HA : Hid (∀ i (h : i < xs.length), El tyE w ba (oa + i * 4) xs[i]) := ha
 have HB : Hid (∀ i (h : i < ys.length), El tyE w bb (ob + i * 4) ys[i]) := hb
 have h1 : ((xs.length : Int) != (xs.length : Int)) = false := by simp
 clear ha hb
 go_enter Tryz.func150, Tryz.ntmps150
 go_wp2_with fail
 go_loopw [5, 13] (fun _ z wr => ∃ q n : Nat, q ≤ xs.length ∧ z = .int .i64 (q : Int) ∧ wr = w.drewN n ∧ Hid (xs.take q = ys.take q)) (fun _ z _ => xs.length - (intOf z).toNat)
 case atStart => exact ⟨0, 0, Nat.zero_le _, rfl, rfl, by show _ = _; simp⟩
 case round =>
  obtain ⟨q, n, hq, rfl, rfl, HT⟩ := hrel
  by_cases hql : q < xs.length
  ·have hqi : (q : Int) < (xs.length : Int) := by omega
   obtain ⟨c0, c1, c2, c3⟩ := (HA.out q hql).cells_Y
   obtain ⟨d0, d1, d2, d3⟩ := (HB.out q (by omega)).cells_Y
   have HN : Hid (xs[q] ≠ ys[q] → decide (xs = ys) = false) := fun h => by rw [decide_eq_false_iff_not]; intro e; subst e; exact h rfl
   have HY : Hid (xs[q] = ys[q] → xs.take (q + 1) = ys.take (q + 1)) := fun h => by rw [List.take_succ_eq_append_getElem hql, List.take_succ_eq_append_getElem (by omega), HT.out, h]
   have hnq : ∀ W : World, (binOp .neq 37 (.agg #[.int .i64 xs[q].1, .int .i64 xs[q].2.1, .int .i64 xs[q].2.2.1, .bool xs[q].2.2.2]) (.agg #[.int .i64 ys[q].1, .int .i64 ys[q].2.1, .int .i64 ys[q].2.2.1, .bool ys[q].2.2.2])).run Tryz.prog W = .ok (.bool (!decide (xs[q] = ys[q]))) W := fun W => neq_ty2 W _ _
   by_cases he : xs[q] = ys[q]
   ·rw [decide_eq_true he] at hnq
    have HY2 : Hid _ := HY.out he
    clear he HY HN
    generalize xs[q] = x at *
    generalize ys[q] = y at *
    obtain ⟨x1, x2, x3, x4⟩ := x
    obtain ⟨y1, y2, y3, y4⟩ := y
    simp only at c0 c1 c2 c3 d0 d1 d2 d3 hnq
    go_wp2_with fail
    go_quiet (fail)
    go_wp2_with fail
    go_roundw
    case rel => exact ⟨q + 1, n + nq, by omega, by go_num, rfl, HY2.out⟩
    case measure => simp [intOf]; omega
   ·rw [decide_eq_false he] at hnq
    have HBad : Hid _ := HN.out he
    clear he HY HN
    generalize xs[q] = x at *
    generalize ys[q] = y at *
    obtain ⟨x1, x2, x3, x4⟩ := x
    obtain ⟨y1, y2, y3, y4⟩ := y
    simp only at c0 c1 c2 c3 d0 d1 d2 d3 hnq
    go_wp2_with fail
    go_quiet (fail)
    go_wp2_with fail
    go_ret
    exact ⟨ret_bool HBad.out.symm, n + nq, by rw [World.drewN_drewN]⟩
  ·have hqi : ¬ (q : Int) < (xs.length : Int) := by omega
   have HE : Hid (decide (xs = ys) = true) := by
    show _ = _
    rw [decide_eq_true_iff]
    have := HT.out
    rwa [List.take_of_length_le (by omega), List.take_of_length_le (by omega)] at this
   go_wp2_with fail
   go_ret
   exact ⟨ret_bool HE.out.symm, n, rfl⟩
theorem equalT11_len (va vb : Option Addr) (la lb ca cb : Nat) (w : World) (hne : la ≠ lb) (ha : la ≤ maxLen) (hb : lb ≤ maxLen) :
  Calls Tryz.prog 150 #[.slice va la ca, .slice vb lb cb] w fun e w' => e = .returned (.bool false) ∧ w' = w := by
 have h1 : ((la : Int) != (lb : Int)) = true := by rw [bne_iff_ne]; omega
 go_enter Tryz.func150, Tryz.ntmps150
 go_wp2
 go_ret
 exact ⟨rfl, rfl⟩
theorem equalT11_empty (va vb : Option Addr) (ca cb : Nat) (w : World) :
  Calls Tryz.prog 150 #[.slice va 0 ca, .slice vb 0 cb] w fun e w' => e = .returned (.bool true) ∧ w' = w := by
 go_enter Tryz.func150, Tryz.ntmps150
 go_wp2
 refine wp_loop_rounds 1 ?_; rw [rounds_succ]
 go_wp2
 go_ret
 exact ⟨rfl, rfl⟩
theorem equalT11_any {w : World} {va vb : Value} {xs ys : List Ty} (ha : Es tyE w va xs) (hb : Es tyE w vb ys) :
  Calls Tryz.prog 150 #[va, vb] w fun e w' => e = .returned (.bool (decide (xs = ys))) ∧ ∃ n, w' = w.drewN n := by
 by_cases hl : xs.length = ys.length
 ·by_cases hx : xs = []
  ·subst hx
   have hy : ys = [] := List.eq_nil_of_length_eq_zero hl.symm
   subst hy
   obtain ⟨a, ca, rfl, _, _⟩ := ha.shape
   obtain ⟨b, cb, rfl, _, _⟩ := hb.shape
   refine (equalT11_empty a b ca cb w).mono ?_
   rintro e w' ⟨rfl, rfl⟩
   exact ⟨ret_bool (by simp), 0, rfl⟩
  ·have hll := ha.len
   obtain ⟨b1, o1, c1, rfl, _, _, _, h1⟩ := ha.parts hx
   obtain ⟨b2, o2, c2, rfl, _, _, _, h2⟩ := hb.parts (by intro e; subst e; exact hx (List.eq_nil_of_length_eq_zero hl))
   have := equalT11_eq (ca := c1) (cb := c2) hl hll h1 h2
   rw [← hl]
   exact this
 ·have h1 := ha.len
  have h2 := hb.len
  obtain ⟨a, ca, rfl, _, _⟩ := ha.shape
  obtain ⟨b, cb, rfl, _, _⟩ := hb.shape
  refine (equalT11_len a b _ _ ca cb w hl h1 h2).mono ?_
  rintro e w' ⟨rfl, rfl⟩
  exact ⟨ret_bool (by symm; rw [decide_eq_false_iff_not]; intro e; subst e; exact hl rfl), 0, rfl⟩

set_option maxHeartbeats 4000000 in
theorem isSame_any {x y : MD} {w : World} (hx : x.ok w) (hy : y.ok w) :
  Calls Tryz.prog 116 #[mdV x, mdV y] w fun e w' => e = .returned (.bool (smM x y)) ∧ Below w.heap.size w w' := by
 obtain ⟨w0, hw0⟩ : ∃ W, W = (w.alloc (.cells (mdA x) 58)).alloc (.cells (mdA y) 58) := ⟨_, rfl⟩
 have HW0 : Hid (w0 = _) := hw0
 obtain ⟨hb0, hat⟩ := two_boxes hw0
 have HB0 : Hid (Below w.heap.size w w0) := hb0
 have HAT : Hid (∀ n, At (w0.drewN n) w.heap.size (mdA x) 58 ∧ At (w0.drewN n) (w.heap.size + 1) (mdA y) 58) := fun n => hat _ (Below.drewN (Below.refl _ _) n)
 obtain ⟨hA1, hA2⟩ := hat w0 (Below.refl _ _)
 have c1 := hA1.cell
 have c2 := hA2.cell
 have HST : Hid (Calls Tryz.prog 150 #[.slice x.pa x.ps.length x.pc, .slice y.pa y.ps.length y.pc] w0 fun e w' => e = .returned (.bool (decide (x.ps = y.ps))) ∧ ∃ n, w' = w0.drewN n) := equalT11_any (hx.ps.later hb0) (hy.ps.later hb0)
 have hq : ∀ W : World, (binOp .eql 37 (.agg #[.int .i64 x.rt.1, .int .i64 x.rt.2.1, .int .i64 x.rt.2.2.1, .bool x.rt.2.2.2]) (.agg #[.int .i64 y.rt.1, .int .i64 y.rt.2.1, .int .i64 y.rt.2.2.1, .bool y.rt.2.2.2])).run Tryz.prog W = .ok (.bool (decide (x.rt = y.rt))) W := fun W => eq_ty2 W _ _
 have hs := str_dec x.nm y.nm
 have m1 := and_one x.fl
 have m2 := and_one y.fl
 have HR : Hid (smM x y = (decide (x.nm = y.nm) && (decide (x.ps = y.ps) && (decide (x.rt = y.rt) && (x.fl % 2 == y.fl % 2))))) := by
  show _ = _
  unfold smM
  rw [Bool.eq_iff_iff]
  simp
 unfold mdA at c1 c2 HW0 HAT
 clear hw0 hb0 hat hA1 hA2 hx hy
 generalize smM x y = F at *
 generalize decide (x.nm = y.nm) = r0 at *
 generalize decide (x.rt = y.rt) = r1 at *
 generalize decide (x.ps = y.ps) = r3 at *
 unfold mdV
 go_enter Tryz.func116, Tryz.ntmps116
 cases r0 with
 | false =>
  have HR2 : Hid (F = false) := by show _ = _; rw [HR.out]; rfl
  go_wp2_with (rw [← HW0.out])
  go_ret
  exact ⟨ret_bool HR2.out.symm, HB0.out⟩
 | true =>
  go_wp2_with (rw [← HW0.out])
  refine Calls.mono HST.out ?_
  rintro e w1 ⟨rfl, n, rfl⟩
  have d1 := (HAT.out n).1.cell
  have d2 := (HAT.out n).2.cell
  clear c1 c2 HST
  cases r3 with
  | false =>
   have HR2 : Hid (F = false) := by show _ = _; rw [HR.out]; rfl
   go_wp2_with fail
   go_ret
   exact ⟨ret_bool HR2.out.symm, Below.drewN HB0.out _⟩
  | true =>
   cases r1 with
   | false =>
    have HR2 : Hid (F = false) := by show _ = _; rw [HR.out]; rfl
    go_wp2_with fail
    go_ret
    exact ⟨ret_bool HR2.out.symm, Below.drewN HB0.out _⟩
   | true =>
    have HR2 : Hid (F = (x.fl % 2 == y.fl % 2)) := by show _ = _; rw [HR.out]; rfl
    clear HR
    generalize x.fl % 2 = z1 at *
    generalize y.fl % 2 = z2 at *
    go_wp2_with fail
    go_ret
    exact ⟨ret_bool HR2.out.symm, Below.drewN HB0.out _⟩
set_option maxHeartbeats 2000000 in
theorem named1_any {g : Img} {gb i j : Nat} {w : World} (hG : GB w gb g) (hi : i < g.fs.length) (hj : j < g.fs.length) :
  Calls Tryz.prog 113 #[.int .i64 i, .int .i64 j, .pointer (some ⟨gb, 0, none⟩)] w fun e w' => e = .returned (.bool (decide (g.fs[i].nm ≠ g.fs[j].nm))) ∧ Below w.heap.size w w' := by
 obtain ⟨tb, off, hta, h1, h2, hty⟩ := hG.fd (by intro e; rw [e] at hi; simp at hi)
 obtain ⟨d1, hd⟩ := hty w (Below.refl _ _)
 obtain ⟨k0, _⟩ := (hd i hi).cells_F
 obtain ⟨l0, _⟩ := (hd j hj).cells_F
 unfold maxLen at h2
 have hii : (i : Int) < (g.fs.length : Int) := by omega
 have hji : (j : Int) < (g.fs.length : Int) := by omega
 have hs := str_dec g.fs[i].nm g.fs[j].nm
 have HR : Hid (decide (g.fs[i].nm ≠ g.fs[j].nm) = !decide (g.fs[i].nm = g.fs[j].nm)) := by show _ = _; simp
 clear hta hG hty hd
 generalize decide (g.fs[i].nm ≠ g.fs[j].nm) = F at *
 generalize decide (g.fs[i].nm = g.fs[j].nm) = r at *
 generalize g.fs[i].nm = n1 at *
 generalize g.fs[j].nm = n2 at *
 go_enter Tryz.func113, Tryz.ntmps113
 go_wp2_with fail
 go_quiet (fail)
 go_wp2_with fail
 go_ret
 exact ⟨ret_bool HR.out.symm, Below.drewN (Below.refl _ _) _⟩

set_option maxHeartbeats 4000000 in
set_option maxRecDepth 20000 in
theorem named2_any {g : Img} {gb i j : Nat} {w : World} (hG : GB w gb g) (hi : i < g.ms.length) (hj : j < g.ms.length) :
  Calls Tryz.prog 115 #[.int .i64 i, .int .i64 j, .pointer (some ⟨gb, 0, none⟩)] w fun e w' => e = .returned (.bool (!smM g.ms[i] g.ms[j])) ∧ Below w.heap.size w w' := by
 have HSm : Hid (∀ W, Below w.heap.size w W → Calls Tryz.prog 116 #[mdV g.ms[i], mdV g.ms[j]] W fun e w' => e = .returned (.bool (smM g.ms[i] g.ms[j])) ∧ Below W.heap.size W w') := fun W hW => isSame_any ((hG.im.later hW).mok _ (List.getElem_mem hi)) ((hG.im.later hW).mok _ (List.getElem_mem hj))
 obtain ⟨tb, off, hta, h1, h2, hty⟩ := hG.md (by intro e; rw [e] at hi; simp at hi)
 have HK : Hid (∀ W, Below w.heap.size w W → W.cell? ⟨gb, 2, none⟩ = some (.slice (some ⟨tb, off, none⟩) g.ms.length g.mc) ∧ El mdE W tb (off + i * 12) g.ms[i] ∧ El mdE W tb (off + j * 12) g.ms[j]) := fun W hW => ⟨(hty W hW).1, (hty W hW).2 i hi, (hty W hW).2 j hj⟩
 unfold maxLen at h2
 have hii : (i : Int) < (g.ms.length : Int) := by omega
 have hji : (j : Int) < (g.ms.length : Int) := by omega
 clear hta hG hty
 generalize smM g.ms[i] g.ms[j] = r at *
 generalize g.ms[i] = x at *
 generalize g.ms[j] = y at *
 have HQ : Hid (∀ W, Below w.heap.size w W → W.cell? ⟨gb, 2, none⟩ = some (.slice (some ⟨tb, off, none⟩) g.ms.length g.mc) ∧ W.cell? ⟨tb, off + i * 12, none⟩ = some (.string x.nm) ∧ W.cell? ⟨tb, off + i * 12 + 1, none⟩ = some (.int .i64 x.ow) ∧ W.cell? ⟨tb, off + i * 12 + 2, none⟩ = some (.int .i64 x.fl) ∧ W.cell? ⟨tb, off + i * 12 + 3, none⟩ = some (.slice x.pa x.ps.length x.pc) ∧ W.cell? ⟨tb, off + i * 12 + 4, none⟩ = some (.int .i64 x.rt.1) ∧ W.cell? ⟨tb, off + i * 12 + 5, none⟩ = some (.int .i64 x.rt.2.1) ∧ W.cell? ⟨tb, off + i * 12 + 6, none⟩ = some (.int .i64 x.rt.2.2.1) ∧ W.cell? ⟨tb, off + i * 12 + 7, none⟩ = some (.bool x.rt.2.2.2) ∧ W.cell? ⟨tb, off + i * 12 + 8, none⟩ = some (.slice x.la x.ls.length x.lc) ∧ W.cell? ⟨tb, off + i * 12 + 9, none⟩ = some (.int .i64 x.mx) ∧ W.cell? ⟨tb, off + i * 12 + 10, none⟩ = some (.slice x.ca x.co.length x.cc) ∧ W.cell? ⟨tb, off + i * 12 + 11, none⟩ = some (.slice x.ka x.cl.length x.kc) ∧ W.cell? ⟨tb, off + j * 12, none⟩ = some (.string y.nm) ∧ W.cell? ⟨tb, off + j * 12 + 1, none⟩ = some (.int .i64 y.ow) ∧ W.cell? ⟨tb, off + j * 12 + 2, none⟩ = some (.int .i64 y.fl) ∧ W.cell? ⟨tb, off + j * 12 + 3, none⟩ = some (.slice y.pa y.ps.length y.pc) ∧ W.cell? ⟨tb, off + j * 12 + 4, none⟩ = some (.int .i64 y.rt.1) ∧ W.cell? ⟨tb, off + j * 12 + 5, none⟩ = some (.int .i64 y.rt.2.1) ∧ W.cell? ⟨tb, off + j * 12 + 6, none⟩ = some (.int .i64 y.rt.2.2.1) ∧ W.cell? ⟨tb, off + j * 12 + 7, none⟩ = some (.bool y.rt.2.2.2) ∧ W.cell? ⟨tb, off + j * 12 + 8, none⟩ = some (.slice y.la y.ls.length y.lc) ∧ W.cell? ⟨tb, off + j * 12 + 9, none⟩ = some (.int .i64 y.mx) ∧ W.cell? ⟨tb, off + j * 12 + 10, none⟩ = some (.slice y.ca y.co.length y.cc) ∧ W.cell? ⟨tb, off + j * 12 + 11, none⟩ = some (.slice y.ka y.cl.length y.kc)) := fun W hW => by
  obtain ⟨h0, hx, hy⟩ := HK.out W hW
  obtain ⟨a0, a1, a2, a3, a4, a5, a6, a7, a8, a9, a10, a11⟩ := hx.cells_M
  obtain ⟨b0, b1, b2, b3, b4, b5, b6, b7, b8, b9, b10, b11⟩ := hy.cells_M
  exact ⟨h0, a0, a1, a2, a3, a4, a5, a6, a7, a8, a9, a10, a11, b0, b1, b2, b3, b4, b5, b6, b7, b8, b9, b10, b11⟩
 clear HK
 unfold mdV at HSm
 obtain ⟨h0, a0, a1, a2, a3, a4, a5, a6, a7, a8, a9, a10, a11, b0, b1, b2, b3, b4, b5, b6, b7, b8, b9, b10, b11⟩ := HQ.out w (Below.refl _ _)
 go_enter Tryz.func115, Tryz.ntmps115
 go_wp2_with fail
 go_region_held3 (fun W : World => W.cell? ⟨gb, 2, none⟩ = some (.slice (some ⟨tb, off, none⟩) g.ms.length g.mc) ∧ W.cell? ⟨tb, off + i * 12, none⟩ = some (.string x.nm) ∧ W.cell? ⟨tb, off + i * 12 + 1, none⟩ = some (.int .i64 x.ow) ∧ W.cell? ⟨tb, off + i * 12 + 2, none⟩ = some (.int .i64 x.fl) ∧ W.cell? ⟨tb, off + i * 12 + 3, none⟩ = some (.slice x.pa x.ps.length x.pc) ∧ W.cell? ⟨tb, off + i * 12 + 4, none⟩ = some (.int .i64 x.rt.1) ∧ W.cell? ⟨tb, off + i * 12 + 5, none⟩ = some (.int .i64 x.rt.2.1) ∧ W.cell? ⟨tb, off + i * 12 + 6, none⟩ = some (.int .i64 x.rt.2.2.1) ∧ W.cell? ⟨tb, off + i * 12 + 7, none⟩ = some (.bool x.rt.2.2.2) ∧ W.cell? ⟨tb, off + i * 12 + 8, none⟩ = some (.slice x.la x.ls.length x.lc) ∧ W.cell? ⟨tb, off + i * 12 + 9, none⟩ = some (.int .i64 x.mx) ∧ W.cell? ⟨tb, off + i * 12 + 10, none⟩ = some (.slice x.ca x.co.length x.cc) ∧ W.cell? ⟨tb, off + i * 12 + 11, none⟩ = some (.slice x.ka x.cl.length x.kc) ∧ W.cell? ⟨tb, off + j * 12, none⟩ = some (.string y.nm) ∧ W.cell? ⟨tb, off + j * 12 + 1, none⟩ = some (.int .i64 y.ow) ∧ W.cell? ⟨tb, off + j * 12 + 2, none⟩ = some (.int .i64 y.fl) ∧ W.cell? ⟨tb, off + j * 12 + 3, none⟩ = some (.slice y.pa y.ps.length y.pc) ∧ W.cell? ⟨tb, off + j * 12 + 4, none⟩ = some (.int .i64 y.rt.1) ∧ W.cell? ⟨tb, off + j * 12 + 5, none⟩ = some (.int .i64 y.rt.2.1) ∧ W.cell? ⟨tb, off + j * 12 + 6, none⟩ = some (.int .i64 y.rt.2.2.1) ∧ W.cell? ⟨tb, off + j * 12 + 7, none⟩ = some (.bool y.rt.2.2.2) ∧ W.cell? ⟨tb, off + j * 12 + 8, none⟩ = some (.slice y.la y.ls.length y.lc) ∧ W.cell? ⟨tb, off + j * 12 + 9, none⟩ = some (.int .i64 y.mx) ∧ W.cell? ⟨tb, off + j * 12 + 10, none⟩ = some (.slice y.ca y.co.length y.cc) ∧ W.cell? ⟨tb, off + j * 12 + 11, none⟩ = some (.slice y.ka y.cl.length y.kc))
  (first | (exact HQ.out _ hB1) | (exact HQ.out _ (bdrew _)))
  (first | (go_at_call 116; refine (HSm.out _ (bdrew _)).mono ?_; rintro e w1 ⟨rfl, hz1⟩; have hB1 : Below w.heap.size w w1 := bstep (bdrew _) hz1))
 rename_i hheld
 clear hheld
 have HB1 : Hid (Below w.heap.size w w1) := hB1
 clear hz1 hB1 h0 a0 a1 a2 a3 a4 a5 a6 a7 a8 a9 a10 a11 b0 b1 b2 b3 b4 b5 b6 b7 b8 b9 b10 b11
 go_wp2_with fail
 go_ret
 exact ⟨rfl, HB1.out⟩
set_option maxHeartbeats 8000000 in
theorem named11_any {g : Img} {q : Nat} {w : World} (hg : Im w g) (hi : imB g = true) (hq : q < g.ts.length) :
  Calls Tryz.prog 75 #[imV g, .int .i64 q] w fun e w' => e = .returned (.bool (nmdB g (q : Int))) ∧ Below w.heap.size w w' := by
 obtain ⟨w0, hw0⟩ : ∃ W, W = w.alloc (.cells (imC g) 26) := ⟨_, rfl⟩
 have HW0 : Hid (w0 = _) := hw0
 obtain ⟨hb0, hgb⟩ := GB.made hg hw0
 have HB0 : Hid (Below w.heap.size w w0) := hb0
 have HG : Hid (GB w0 w.heap.size g) := hgb
 obtain ⟨tb, off, hta, h8, h9, hty⟩ := hgb.ty (by intro e; rw [e] at hq; simp at hq)
 have HTY : Hid (∀ W, Below w0.heap.size w0 W → ∀ k (hk : k < g.ts.length), W.cell? ⟨tb, off + k * 4, none⟩ = some (.string g.ts[k].nm) ∧ W.cell? ⟨tb, off + k * 4 + 1, none⟩ = some (.int .i64 g.ts[k].fl) ∧ W.cell? ⟨tb, off + k * 4 + 2, none⟩ = some (.int .i64 g.ts[k].ex) ∧ W.cell? ⟨tb, off + k * 4 + 3, none⟩ = some (.slice g.ts[k].fa g.ts[k].fs.length g.ts[k].fc)) := fun W hW k hk => (hty W hW).2 k hk
 have HC4 : Hid (∀ W, Below w0.heap.size w0 W → W.cell? ⟨w.heap.size, 0, none⟩ = some (.slice (some ⟨tb, off, none⟩) g.ts.length g.tc) ∧ W.cell? ⟨w.heap.size, 1, none⟩ = some (.slice g.fa g.fs.length g.fc) ∧ W.cell? ⟨w.heap.size, 2, none⟩ = some (.slice g.ma g.ms.length g.mc) ∧ W.cell? ⟨w.heap.size, 3, none⟩ = some (.int .i64 g.en)) := fun W hW => by
  have := (HG.out.later hW).cells
  rw [hta] at this
  exact this
 have HFl : Hid (∀ W, Below w0.heap.size w0 W → Calls Tryz.prog 87 #[.agg (imC g), .int .i64 q] W fun e w' => ∃ v, e = .returned v ∧ OwnI w' W.heap.size v (fldN g (q : Int)) ∧ Below W.heap.size W w') := fun W hW => fields_any (HG.out.im.later hW) hi
 have HMt : Hid (∀ W, Below w0.heap.size w0 W → Calls Tryz.prog 114 #[.agg (imC g), .int .i64 q] W fun e w' => ∃ v, e = .returned v ∧ OwnI w' W.heap.size v (mtdN g (q : Int)) ∧ Below W.heap.size W w') := fun W hW => methods_any (HG.out.im.later hW) hi
 have HDF : Hid (∀ W v, Below w0.heap.size w0 W → Is W v (fldN g (q : Int)) → Calls Tryz.prog 109 #[v, .func (.func 113) #[] #[.pointer (some ⟨w.heap.size, 0, none⟩)]] W fun e w' => e = .returned (.bool (difB (fun a b => decide (fnI g a ≠ fnI g b)) (fldN g (q : Int)))) ∧ Below W.heap.size W w') := fun W v hW hv =>
  differ_any hv ⟨run_enter9 Tryz.func113 (by kernel_rfl) rfl, fun W2 hW2 x hx y hy => by
   obtain ⟨i, rfl, hil⟩ := fldN_num hx
   obtain ⟨j, rfl, hjl⟩ := fldN_num hy
   rw [fnI_at hil, fnI_at hjl]
   simpa using named1_any (HG.out.later (bstep hW hW2)) hil hjl⟩
 have HDM : Hid (∀ W v, Below w0.heap.size w0 W → Is W v (mtdN g (q : Int)) → Calls Tryz.prog 109 #[v, .func (.func 115) #[] #[.pointer (some ⟨w.heap.size, 0, none⟩)]] W fun e w' => e = .returned (.bool (difB (fun a b => !smI g a b) (mtdN g (q : Int)))) ∧ Below W.heap.size W w') := fun W v hW hv =>
  differ_any hv ⟨run_enter9 Tryz.func115 (by kernel_rfl) rfl, fun W2 hW2 x hx y hy => by
   obtain ⟨i, rfl, hil⟩ := mtdN_num hx
   obtain ⟨j, rfl, hjl⟩ := mtdN_num hy
   rw [smI_at hil hjl]
   simpa using named2_any (HG.out.later (bstep hW hW2)) hil hjl⟩
 obtain ⟨c0, c1, c2, c3⟩ := HC4.out w0 (Below.refl _ _)
 obtain ⟨k0, _, _, _⟩ := HTY.out w0 (Below.refl _ _) q hq
 have hqi : (q : Int) < (g.ts.length : Int) := by omega
 have HR : Hid (nmdB g (q : Int) = (tnmB g (q : Int) && difB (fun a b => decide (fnI g a ≠ fnI g b)) (fldN g (q : Int)) && difB (fun a b => !smI g a b) (mtdN g (q : Int)))) := rfl
 unfold maxLen at h9
 unfold imC at HW0 HFl HMt
 rw [hta] at HW0 HFl HMt
 clear hw0 hb0 hgb hg hi hty
 unfold imV
 rw [hta]
 clear hta
 generalize nmdB g (q : Int) = F at *
 generalize difB (fun a b => decide (fnI g a ≠ fnI g b)) (fldN g (q : Int)) = r1 at *
 generalize difB (fun a b => !smI g a b) (mtdN g (q : Int)) = r2 at *
 go_enter Tryz.func75, Tryz.ntmps75
 go_wp2_with (rw [← HW0.out])
 clear c0 c1 c2 c3 k0
 go_loopw [6, 7, 17] (fun _ _ z wr => ∃ k : Nat, k ≤ g.ts.length ∧ z = .int .i64 k ∧ Hid (TnOk g q k g.ts[q].nm) ∧ Hid (Below w0.heap.size w0 wr)) (fun _ _ z _ => g.ts.length - (intOf z).toNat)
 case atStart => exact ⟨0, Nat.zero_le _, rfl, fun k h hk => absurd hk (by omega), Below.refl _ _⟩
 case round =>
  obtain ⟨k, hk, rfl, HT, HB⟩ := hrel
  by_cases hkl : k < g.ts.length
  ·have hki : (k : Int) < (g.ts.length : Int) := by omega
   obtain ⟨c0, c1, c2, c3⟩ := HC4.out wr HB.out
   obtain ⟨k0, k1, k2, k3⟩ := HTY.out wr HB.out k hkl
   by_cases hkq : k = q
   ·have hne : ((k : Int) != (q : Int)) = false := by simp; omega
    have HT2 : Hid (TnOk g q (k + 1) g.ts[q].nm) := fun i h hlt => by
     by_cases e : i = k
     ·exact Or.inl (by omega)
     ·exact HT.out i h (by omega)
    clear hkq
    generalize g.ts[k] = x at *
    go_wp2_with fail
    go_roundw
    case rel => exact ⟨k + 1, by omega, by go_num, HT2.out, bbox HB.out _⟩
    case measure => simp [intOf]; omega
   ·have hne : ((k : Int) != (q : Int)) = true := by simp; omega
    have HNo : Hid (g.ts[k].nm = g.ts[q].nm → tnmB g (q : Int) = false) := fun h => tnm_no hq hkl hkq h
    have HYs : Hid (g.ts[k].nm ≠ g.ts[q].nm → TnOk g q (k + 1) g.ts[q].nm) := fun h i hi hlt => by
     by_cases e : i = k
     ·subst e; exact Or.inr h
     ·exact HT.out i hi (by omega)
    have hstr := str_dec g.ts[k].nm g.ts[q].nm
    by_cases hnm : g.ts[k].nm = g.ts[q].nm
    ·have HBad : Hid (F = false) := by show _ = _; rw [HR.out, HNo.out hnm]; rfl
     rw [decide_eq_true hnm] at hstr
     clear hnm HNo HYs hkq HT
     generalize g.ts[q].nm = n2 at *
     generalize g.ts[k] = x at *
     go_wp2_with fail
     go_ret
     exact ⟨ret_bool HBad.out.symm, bstep HB0.out (bbox HB.out _)⟩
    ·have HT2 : Hid _ := HYs.out hnm
     rw [decide_eq_false hnm] at hstr
     clear hnm HNo HYs hkq HT
     generalize g.ts[q].nm = n2 at *
     generalize g.ts[k] = x at *
     go_wp2_with fail
     go_roundw
     case rel => exact ⟨k + 1, by omega, by go_num, HT2.out, bbox HB.out _⟩
     case measure => simp [intOf]; omega
  ·have hki : ¬ (k : Int) < (g.ts.length : Int) := by omega
   have HTn : Hid (tnmB g (q : Int) = true) := (tnm_iff hq).2 (fun i hi _ => HT.out i hi (by omega))
   have HR1 : Hid (F = (r1 && r2)) := by show _ = _; rw [HR.out, HTn.out]; rfl
   obtain ⟨c0, c1, c2, c3⟩ := HC4.out wr HB.out
   clear HT HR HTn
   go_wp2_with fail
   refine Calls.mono (HFl.out wr HB.out) ?_
   rintro e w2 ⟨fv, rfl, hf, hb2⟩
   have HB2 : Hid (Below w0.heap.size w0 w2) := bstep HB.out hb2
   have HC2 : Hid (Calls Tryz.prog 109 #[fv, .func (.func 113) #[] #[.pointer (some ⟨w.heap.size, 0, none⟩)]] w2 fun e w' => e = .returned (.bool r1) ∧ Below w2.heap.size w2 w') := HDF.out w2 fv HB2.out hf.is
   clear hb2 c0 c1 c2 c3 hf
   go_wp2_with fail
   refine Calls.mono HC2.out ?_
   rintro e w3 ⟨rfl, hb3⟩
   have HB3 : Hid (Below w0.heap.size w0 w3) := bstep HB2.out hb3
   clear hb3 HC2
   cases r1 with
   | false =>
    have HR2 : Hid (F = false) := by show _ = _; rw [HR1.out]; rfl
    go_wp2_with fail
    go_ret
    exact ⟨ret_bool HR2.out.symm, bstep HB0.out HB3.out⟩
   | true =>
    have HR2 : Hid (F = r2) := by show _ = _; rw [HR1.out]; rfl
    obtain ⟨c0, c1, c2, c3⟩ := HC4.out w3 HB3.out
    go_wp2_with fail
    refine Calls.mono (HMt.out w3 HB3.out) ?_
    rintro e w4 ⟨mv, rfl, hm, hb4⟩
    have HB4 : Hid (Below w0.heap.size w0 w4) := bstep HB3.out hb4
    have HC2 : Hid (Calls Tryz.prog 109 #[mv, .func (.func 115) #[] #[.pointer (some ⟨w.heap.size, 0, none⟩)]] w4 fun e w' => e = .returned (.bool r2) ∧ Below w4.heap.size w4 w') := HDM.out w4 mv HB4.out hm.is
    clear hb4 c0 c1 c2 c3 hm
    go_wp2_with fail
    refine Calls.mono HC2.out ?_
    rintro e w5 ⟨rfl, hb5⟩
    have HB5 : Hid (Below w0.heap.size w0 w5) := bstep HB4.out hb5
    clear hb5 HC2
    go_wp2_with fail
    go_ret
    exact ⟨ret_bool HR2.out.symm, bstep HB0.out HB5.out⟩
end Go.Proofs.YtkjailahaopehaaGreat
