
/- The walk of BodyLength. -/
import Derived.Test.YtfgjlljbpcombaaLaws8
import Derived.Test.YtfgjlljbpcombaaOpen8
namespace Go.Proofs.Ytfgjlljbpcombaa
set_option linter.unusedVariables false
set_option linter.unusedSimpArgs false
open Go.RowKit
attribute [local go_sem ↓] Go.wp_at_zero Go.wp_at_succ

set_option maxHeartbeats 1000000 in
theorem bodyLength_walk (v : Value) (x : List UInt8 × List Rw) (w : World) (hv : Bd w v x) :
    Calls Try.prog 7 #[v] w fun e w' => e = .returned (.bool true) ∧ Below w.heap.size w w' := by
  obtain ⟨cv, lv, rfl, hc, hl⟩ := hv
  obtain ⟨c, l⟩ := x
  simp only at hc hl
  have hcl := hc.len
  have hll := hl.len
  have HC : Hid (Bs w cv c) := hc
  have HL : Hid (Ws w lv l) := hl
  obtain ⟨ya, cy, rfl, q1, q2⟩ := hl.shape
  obtain ⟨xa, cx, rfl, q3, q4, q5⟩ := hc
  clear hl q1 q2 q3 q4 q5
  have hb0 : Below w.heap.size w (w.alloc (.cells #[.slice xa c.length cx, .slice ya l.length cy] 25)) := (Below.refl _ _).alloc (Nat.le_refl _) _
  have hA0 : At (w.alloc (.cells #[.slice xa c.length cx, .slice ya l.length cy] 25)) w.heap.size #[.slice xa c.length cx, .slice ya l.length cy] 25 := At.made _ _ _
  have HK : Hid (Calls Try.prog 8 #[] (w.alloc (.cells #[.slice xa c.length cx, .slice ya l.length cy] 25)) fun e w' => e = .returned (.bool true) ∧ Below w.heap.size w w' ∧ At w' w.heap.size #[.slice xa c.length cx, .slice ya l.length cy] 25) := by
    refine (wakes8_any _).mono ?_
    rintro e w' ⟨rfl, h⟩
    exact ⟨rfl, hb0.trans (h.mono (by simp)), hA0.later h⟩
  clear hb0 hA0
  go_enter Try.func7, Try.ntmps7
  go_wp2_with fail
  refine Calls.mono HK.out ?_
  rintro e w1 ⟨rfl, h1, hA1⟩
  clear HK
  have tc1 := hA1.cell
  have HG : Hid (Calls Try.prog 9 #[.agg #[.slice xa c.length cx, .slice ya l.length cy]] w1 fun e w' => e = .returned (.bool (longB c.length l.length)) ∧ Below w.heap.size w w' ∧ At w' w.heap.size #[.slice xa c.length cx, .slice ya l.length cy] 25) := by
    refine (long8_any _ _ _ _ _ _ hcl hll).mono ?_
    rintro e w' ⟨rfl, h⟩
    exact ⟨rfl, h1.trans (h.mono h1.size), hA1.later h⟩
  clear h1 hA1
  go_wp2_with fail
  refine Calls.mono HG.out ?_
  rintro e w2 ⟨rfl, h2, hA2⟩
  clear HG tc1
  have tc2 := hA2.cell
  have HB2 : Hid (Below w.heap.size w w2) := h2
  cases hlong : longB c.length l.length with
  | true =>
    clear hA2 h2 tc2
    go_wp2
    go_ret
    exact ⟨rfl, HB2.out⟩
  | false =>
    obtain ⟨hn1, hn2⟩ := longB_no hlong
    have HW : Hid (Calls Try.prog 11 #[.agg #[.slice xa c.length cx, .slice ya l.length cy]] w2 fun e w' => ∃ v, e = .returned (.tuple #[v, .int .i64 (writeE c l)]) ∧ Bs w' v (writeL c l) ∧ Below w.heap.size w w' ∧ At w' w.heap.size #[.slice xa c.length cx, .slice ya l.length cy] 25) := by
      refine (write_any (HC.out.later h2) (HL.out.later h2)).mono ?_
      rintro e w' ⟨v, rfl, g1, g2⟩
      exact ⟨v, rfl, g1.bs, h2.trans (g2.mono h2.size), hA2.later g2⟩
    clear h2 hA2 hlong hcl hll
    go_wp2_with fail
    refine Calls.mono HW.out ?_
    rintro e w3 ⟨v3, rfl, h3, hB3, hA3⟩
    clear HW tc2
    obtain ⟨va, vc, rfl, g1, g2, g3⟩ := h3
    clear g1 g2 g3
    have tc3 := hA3.cell
    have HB3 : Hid (Below w.heap.size w w3) := hB3
    clear hA3 hB3 HC HL HB2
    by_cases hr : rightB c l = true
    · have hE : writeE c l = 0 := by simp [writeE, hr]
      have hLn : (writeL c l).length = if smallB c l = true then c.length + 1 else if l.length = 0 then c.length + 8 else (c.length + 11) / 4 * 4 + 4 + 12 * l.length := by
        rw [show writeL c l = wrL c l by simp [writeL, hr]]; exact wrL_length c l
      rw [hE]
      have hsm := smallB_iff c l
      generalize (writeL c l).length = wl at *
      have hl6 := ((rightB_iff c l).1 hr).2.1
      clear hE hr
      generalize smallB c l = sm at *
      generalize c.length = n at *
      generalize l.length = m at *
      by_cases hm0 : m = 0
      · subst hm0
        by_cases hn64 : n < 64
        · have : sm = true := hsm.2 ⟨hn64, rfl⟩
          subst this
          have hwl : wl = n + 1 := by simpa using hLn
          subst hwl
          clear hLn hsm
          have i1 : (n : Int) < 64 := by omega
          go_wp2
          go_ret
          refine ⟨?_, HB3.out⟩
          simp <;> omega
        · have : sm = false := by
            cases sm with
            | false => rfl
            | true => exact absurd (hsm.1 rfl).1 hn64
          subst this
          have hwl : wl = n + 8 := by simpa using hLn
          subst hwl
          clear hLn hsm
          have i1 : (64 : Int) ≤ (n : Int) := by omega
          go_wp2
          go_ret
          refine ⟨?_, HB3.out⟩
          simp <;> omega
      · have : sm = false := by
          cases sm with
          | false => rfl
          | true => exact absurd (hsm.1 rfl).2 hm0
        subst this
        have hwl : wl = (n + 11) / 4 * 4 + 4 + 12 * m := by simpa [hm0] using hLn
        clear hLn hsm
        have i0 : ((m : Int) == 0) = false := by rw [beq_eq_false_iff_ne]; omega
        have HWL : Hid (((wl : Int) == ((n : Int) + 11) / 4 * 4 + 4 + 12 * (m : Int)) = true) := by show _ = _; rw [beq_iff_eq]; omega
        clear hwl hm0
        by_cases hn64 : n < 64
        · have i1 : (n : Int) < 64 := by omega
          go_wp2
          go_ret
          exact ⟨by rw [HWL.out]; rfl, HB3.out⟩
        · have i1 : (64 : Int) ≤ (n : Int) := by omega
          go_wp2
          go_ret
          exact ⟨by rw [HWL.out]; rfl, HB3.out⟩
    · have hE : writeE c l = 17 := by simp [writeE, hr]
      have hLn : (writeL c l).length = 0 := by simp [writeL, hr]
      rw [hE, hLn]
      clear hE hLn
      go_wp2
      go_ret
      exact ⟨rfl, HB3.out⟩

end Go.Proofs.Ytfgjlljbpcombaa
