
/- The walk of BodyWrites. -/
import Derived.Test.YtfgjlljbpcombaaCopied8
import Derived.Test.YtfgjlljbpcombaaRefSame8
import Derived.Test.YtfgjlljbpcombaaRefWrite8
import Derived.Test.YtfgjlljbpcombaaOpen8
namespace Go.Proofs.Ytfgjlljbpcombaa
set_option linter.unusedVariables false
set_option linter.unusedSimpArgs false
open Go.RowKit
attribute [local go_sem ↓] Go.wp_at_zero Go.wp_at_succ

set_option maxHeartbeats 2000000 in
set_option maxRecDepth 100000 in
theorem bodyWrites_walk (v : Value) (x : List UInt8 × List Rw) (w : World) (hv : Bd w v x) :
    Calls Try.prog 3 #[v] w fun e w' => e = .returned (.bool true) ∧ Below w.heap.size w w' := by
  obtain ⟨cv, lv, rfl, hc, hl⟩ := hv
  obtain ⟨c, l⟩ := x
  simp only at hc hl
  have hcl := hc.len
  have hll := hl.len
  have HC : Hid (∀ W, Below w.heap.size w W → Bs W cv c) := fun W h => hc.later h
  have HL : Hid (∀ W, Below w.heap.size w W → Ws W lv l) := fun W h => hl.later h
  obtain ⟨ya, cy, rfl, q1, q2⟩ := hl.shape
  obtain ⟨xa, cx, rfl, q3, q4, q5⟩ := hc
  clear hl q1 q2 q3 q4 q5
  have hb0 : Below w.heap.size w (w.alloc (.cells #[.slice xa c.length cx, .slice ya l.length cy] 25)) := (Below.refl _ _).alloc (Nat.le_refl _) _
  have hA0 : At (w.alloc (.cells #[.slice xa c.length cx, .slice ya l.length cy] 25)) w.heap.size #[.slice xa c.length cx, .slice ya l.length cy] 25 := At.made _ _ _
  have HK : Hid (Calls Try.prog 8 #[] (w.alloc (.cells #[.slice xa c.length cx, .slice ya l.length cy] 25)) fun e w' => e = .returned (.bool true) ∧ Below w.heap.size w w' ∧ At w' w.heap.size #[.slice xa c.length cx, .slice ya l.length cy] 25) := by
    refine (wakes8_any _).mono ?_
    rintro e w' ⟨rfl, h⟩
    exact ⟨rfl, hb0.trans (h.mono (by simp)), hA0.later h⟩
  clear hb0 hA0
  go_enter Try.func3, Try.ntmps3
  go_wp2_with fail
  refine Calls.mono HK.out ?_
  rintro e w1 ⟨rfl, h1, hA1⟩
  clear HK
  have tc1 := hA1.cell
  have HG : Hid (Calls Try.prog 9 #[.agg #[.slice xa c.length cx, .slice ya l.length cy]] w1 fun e w' => e = .returned (.bool (longB c.length l.length)) ∧ Below w.heap.size w w' ∧ At w' w.heap.size #[.slice xa c.length cx, .slice ya l.length cy] 25) := by
    refine (long8_any _ _ _ _ _ _ hcl hll).mono ?_
    rintro e w' ⟨rfl, h⟩
    exact ⟨rfl, h1.trans (h.mono h1.size), hA1.later h⟩
  clear h1 hA1
  go_wp2_with fail
  refine Calls.mono HG.out ?_
  rintro e w2 ⟨rfl, h2, hA2⟩
  clear HG tc1
  have tc2 := hA2.cell
  have HB2 : Hid (Below w.heap.size w w2) := h2
  cases hlong : longB c.length l.length with
  | true =>
    clear hA2 h2 tc2
    go_wp2
    go_ret
    exact ⟨rfl, HB2.out⟩
  | false =>
    obtain ⟨hn1, hn2⟩ := longB_no hlong
    have HCp : Hid (Calls Try.prog 10 #[.agg #[.slice xa c.length cx, .slice ya l.length cy]] w2 fun e w' => ∃ x0 x1 y0 y1, e = .returned (.agg #[.slice x0 c.length y0, .slice x1 l.length y1]) ∧ Bs w' (.slice x0 c.length y0) c ∧ Ws w' (.slice x1 l.length y1) l ∧ Below w.heap.size w w' ∧ At w' w.heap.size #[.slice xa c.length cx, .slice ya l.length cy] 25) := by
      refine (copied8_any (HC.out _ h2) (HL.out _ h2) (by omega) (by omega)).mono ?_
      rintro e w' ⟨x0, x1, y0, y1, rfl, g1, g2, g3⟩
      exact ⟨x0, x1, y0, y1, rfl, g1, g2, h2.trans (g3.mono h2.size), hA2.later g3⟩
    clear h2 hA2 hlong hcl hll HB2
    go_wp2_with fail
    refine Calls.mono HCp.out ?_
    rintro e w3 ⟨x0, x1, y0, y1, rfl, g1, g2, g3, g4⟩
    clear HCp tc2
    obtain ⟨g, hg⟩ : ∃ g, g = w3.heap.size := ⟨_, rfl⟩
    obtain ⟨wb, hwb⟩ : ∃ W, W = w3.alloc (.cells #[.slice x0 c.length y0, .slice x1 l.length y1] 25) := ⟨_, rfl⟩
    have hb3 : Below w3.heap.size w3 wb := by rw [hwb]; exact (Below.refl _ _).alloc (Nat.le_refl _) _
    have hO : At wb g #[.slice x0 c.length y0, .slice x1 l.length y1] 25 := by rw [hwb, hg]; exact At.made _ _ _
    have hA3 := g4.later hb3
    have h3 : Below w.heap.size w wb := g3.trans (hb3.mono g3.size)
    have hc3 := g1.later hb3
    have hl3 := g2.later hb3
    have HW : Hid (Calls Try.prog 11 #[.agg #[.slice x0 c.length y0, .slice x1 l.length y1]] wb fun e w' => ∃ v, e = .returned (.tuple #[v, .int .i64 (writeE c l)]) ∧ Bs w' v (writeL c l) ∧ Below w.heap.size w w' ∧ At w' w.heap.size #[.slice xa c.length cx, .slice ya l.length cy] 25 ∧ At w' g #[.slice x0 c.length y0, .slice x1 l.length y1] 25 ∧ Bs w' (.slice x0 c.length y0) c ∧ Ws w' (.slice x1 l.length y1) l) := by
      refine (write_any hc3 hl3).mono ?_
      rintro e w' ⟨v, rfl, k1, k2⟩
      exact ⟨v, rfl, k1.bs, h3.trans (k2.mono h3.size), hA3.later k2, hO.later k2, hc3.later k2, hl3.later k2⟩
    clear g1 g2 g3 g4 hb3 hO hA3 h3 hc3 hl3
    go_wp2_with fail
    rw [← hwb, ← hg]
    clear hwb hg
    refine Calls.mono HW.out ?_
    rintro e w4 ⟨v4, rfl, k1, k2, k3, k4, k5, k6⟩
    clear HW
    have tc4 := k3.cell
    have HR : Hid (Calls Try.prog 12 #[.agg #[.slice xa c.length cx, .slice ya l.length cy]] w4 fun e w' => ∃ v, e = .returned (.tuple #[v, .int .i64 (writeE c l)]) ∧ Bs w' v (writeL c l) ∧ Below w.heap.size w w' ∧ At w' w.heap.size #[.slice xa c.length cx, .slice ya l.length cy] 25 ∧ At w' g #[.slice x0 c.length y0, .slice x1 l.length y1] 25 ∧ Bs w' (.slice x0 c.length y0) c ∧ Ws w' (.slice x1 l.length y1) l ∧ Bs w' v4 (writeL c l)) := by
      refine (refWrite_any (HC.out _ k2) (HL.out _ k2)).mono ?_
      rintro e w' ⟨v, rfl, m1, m2⟩
      exact ⟨v, rfl, m1, k2.trans (m2.mono k2.size), k3.later m2, k4.later m2, k5.later m2, k6.later m2, k1.later m2⟩
    clear k1 k2 k3 k4 k5 k6
    go_wp2_with fail
    refine Calls.mono HR.out ?_
    rintro e w5 ⟨v5, rfl, k1, k2, k3, k4, k5, k6, k7⟩
    clear HR tc4
    have HS : Hid (Calls Try.prog 13 #[v4, v5] w5 fun e w' => e = .returned (.bool true) ∧ Below w.heap.size w w' ∧ At w' w.heap.size #[.slice xa c.length cx, .slice ya l.length cy] 25 ∧ At w' g #[.slice x0 c.length y0, .slice x1 l.length y1] 25 ∧ Bs w' (.slice x0 c.length y0) c ∧ Ws w' (.slice x1 l.length y1) l) := by
      refine (same_any k7 k1).mono ?_
      rintro e w' ⟨rfl, n, rfl⟩
      have hbd : Below w5.heap.size w5 (w5.drewN n) := Below.drewN (Below.refl _ _) n
      exact ⟨by simp, k2.trans (hbd.mono k2.size), k3.later hbd, k4.later hbd, k5.later hbd, k6.later hbd⟩
    clear k1 k2 k3 k4 k5 k6 k7
    generalize writeE c l = er at *
    go_wp2_with fail
    refine Calls.mono HS.out ?_
    rintro e w6 ⟨rfl, k2, k3, k4, k5, k6⟩
    clear HS
    have tc6 := k3.cell
    have td6 := k4.cell
    have HSS : Hid (Calls Try.prog 14 #[.agg #[.slice x0 c.length y0, .slice x1 l.length y1], .agg #[.slice xa c.length cx, .slice ya l.length cy]] w6 fun e w' => e = .returned (.bool true) ∧ Below w.heap.size w w') := by
      refine (refSame8_yes k5 (HC.out _ k2) k6 (HL.out _ k2)).mono ?_
      rintro e w' ⟨rfl, h⟩
      exact ⟨rfl, k2.trans (h.mono k2.size)⟩
    have hee : (er == er) = true := by simp
    clear k2 k3 k4 k5 k6
    go_wp2_with fail
    refine Calls.mono HSS.out ?_
    rintro e w7 ⟨rfl, h7⟩
    go_wp2
    go_ret
    exact ⟨rfl, h7⟩

end Go.Proofs.Ytfgjlljbpcombaa
