
/- What operands fit: bounds, isOperand, operandFits; Most of the references. -/
import Derived.Test.YtpgkjfjooogfmaaDoorTypes5
import Derived.Test.YtpgkjfjooogfmaaDoorOf6
namespace Go.Proofs.YtpgkjfjooogfmaaDoor
set_option linter.unusedVariables false
set_option linter.unusedSimpArgs false
open Go.RowKit

/-- The least and the greatest number that an operand may be. -/
def bLo (p : Int) : Int := if p = 1 then -2147483648 else if p = 2 then -9223372036854775808 else 0
def bHi (p : Int) : Int := if p = 1 then 2147483647 else if p = 2 then 9223372036854775807 else if p = 3 then 11 else if p = 4 then 6 else if p = 5 then 159 else if p = 6 then 63 else if p = 7 then 63 else 0
def zeroB (k i d : Int) (r : Bool) : Bool := k == 0 && i == 0 && d == 0 && !r
def fitB (p n k i d : Int) (r : Bool) : Bool := decide (bLo p ≤ n) && decide (n ≤ bHi p) && if p = 8 then mayB 1 k i d r else zeroB k i d r

theorem bounds_any (p : Int) (w : World) :
    Calls Tryd.prog 59 #[.int .i64 p] w fun e w' => e = .returned (.tuple #[.int .i64 (bLo p), .int .i64 (bHi p)]) ∧ w' = w := by
  go_enter Tryd.func59, Tryd.ntmps59
  go_wp2
  all_goals (go_ret2; exact ⟨ret_int2 (by (try simp only [beq_iff_eq, beq_eq_false_iff_ne, ne_eq] at *); simp [bLo, *]) (by (try simp only [beq_iff_eq, beq_eq_false_iff_ne, ne_eq] at *); simp [bHi, *]), rfl⟩)

theorem most_any (p : Int) (w : World) :
    Calls Tryd.prog 48 #[.int .i64 p] w fun e w' => e = .returned (.tuple #[.int .i64 (bHi p), .int .i64 (bLo p)]) ∧ w' = w := by
  go_enter Tryd.func48, Tryd.ntmps48
  go_wp2
  all_goals (go_ret2; exact ⟨ret_int2 (by (try simp only [beq_iff_eq, beq_eq_false_iff_ne, ne_eq] at *); simp [bHi, *]) (by (try simp only [beq_iff_eq, beq_eq_false_iff_ne, ne_eq] at *); simp [bLo, *]), rfl⟩)

theorem isOperand_any (k i d : Int) (r : Bool) (w : World) :
    Calls Tryd.prog 58 #[.agg #[.int .i64 k, .int .i64 i, .int .i64 d, .bool r]] w fun e w' => e = .returned (.bool (mayB 1 k i d r)) ∧ Below w.heap.size w w' := by
  go_enter Tryd.func58, Tryd.ntmps58
  go_wp2_with fail
  refine (plain_any k i d r _).mono ?_
  rintro e w1 ⟨rfl, hb⟩
  have hB := below_box hb
  obtain ⟨hc, hf⟩ := bcell hb
  clear hb
  go_wp2
  all_goals go_ret
  all_goals refine ⟨ret_bool ?_, hB⟩
  all_goals simp [mayB, *]

/-- Two types compared. -/
theorem eq_ty (W : World) (k i d k' i' d' : Int) (r r' : Bool) : (binOp .eql 43 (.agg #[.int .i64 k, .int .i64 i, .int .i64 d, .bool r]) (.agg #[.int .i64 k', .int .i64 i', .int .i64 d', .bool r'])).run Tryd.prog W = .ok (.bool (k == k' && i == i' && d == d' && r == r')) W := by
  simp [go_sem]
  cases h1 : (k == k') <;> cases h2 : (i == i') <;> cases h3 : (d == d') <;> cases h4 : (r == r') <;> simp_all [go_sem]

set_option maxHeartbeats 1000000 in
theorem operandFits_any (p n k i d : Int) (r : Bool) (w : World) :
    Calls Tryd.prog 46 #[.int .i64 p, .int .i64 n, .agg #[.int .i64 k, .int .i64 i, .int .i64 d, .bool r]] w fun e w' => e = .returned (.bool (fitB p n k i d r)) ∧ Below w.heap.size w w' := by
  have hz : ∀ W : World, (binOp .eql 43 (.agg #[.int .i64 k, .int .i64 i, .int .i64 d, .bool r]) (.agg #[.int .i64 0, .int .i64 0, .int .i64 0, .bool false])).run Tryd.prog W = .ok (.bool (zeroB k i d r)) W := fun W => by
    rw [eq_ty]; cases r <;> rfl
  have hb0 : Below w.heap.size w (w.alloc (.cells #[.int .i64 k, .int .i64 i, .int .i64 d, .bool r] 43)) := (Below.refl _ _).alloc (Nat.le_refl _) _
  have hA0 := At.made w #[.int .i64 k, .int .i64 i, .int .i64 d, .bool r] 43
  by_cases h8 : p = 8
  · subst h8
    have HF8 : Hid (fitB 8 n k i d r = (decide (n = 0) && mayB 1 k i d r)) := by
      show _ = _
      unfold fitB
      rw [if_pos rfl, show bLo 8 = 0 from rfl, show bHi 8 = 0 from rfl, show (decide (0 ≤ n) && decide (n ≤ 0)) = decide (n = 0) by rw [Bool.eq_iff_iff]; simp; omega]
    go_enter Tryd.func46, Tryd.ntmps46
    go_wp2_with fail
    refine (isOperand_any k i d r _).mono ?_
    rintro e w1 ⟨rfl, hb⟩
    have hA := hA0.later hb
    have hB := hb0.trans (hb.mono hb0.size)
    have tc := hA.cell
    have tm := hA.melt
    have HB := below_set4 hB (Nat.le_refl w.heap.size) (.int .i64 0) (.int .i64 0) (.int .i64 0) (.bool false)
    have HC := (hA.set4 (.int .i64 0) (.int .i64 0) (.int .i64 0) (.bool false)).cell
    clear hb hb0 hA hA0 hz
    cases hm : mayB 1 k i d r with
    | false =>
      go_wp2_with fail
      go_ret
      exact ⟨ret_bool (by rw [HF8.out, hm]; simp), hB⟩
    | true =>
      go_wp2_with fail
      all_goals go_ret
      all_goals refine ⟨ret_bool ?_, HB⟩
      all_goals rw [HF8.out, hm]
      all_goals simp [*]
  · have h8' : (p == 8) = false := by simpa using h8
    have HF : Hid (fitB p n k i d r = (decide (bLo p ≤ n) && decide (n ≤ bHi p) && zeroB k i d r)) := by show _ = _; unfold fitB; rw [if_neg h8]
    clear h8 hA0
    by_cases h0 : p = 0
    · subst h0
      have HF0 : Hid (fitB 0 n k i d r = (decide (n = 0) && zeroB k i d r)) := by
        show _ = _
        rw [HF.out, show bLo 0 = 0 from rfl, show bHi 0 = 0 from rfl, show (decide (0 ≤ n) && decide (n ≤ 0)) = decide (n = 0) by rw [Bool.eq_iff_iff]; simp; omega]
      clear HF
      go_enter Tryd.func46, Tryd.ntmps46
      go_wp2_with fail
      all_goals go_ret
      all_goals refine ⟨ret_bool ?_, hb0⟩
      all_goals rw [HF0.out]
      all_goals simp_all
    · have h0' : (p == 0) = false := by simpa using h0
      clear h0
      go_enter Tryd.func46, Tryd.ntmps46
      go_wp2_with fail
      refine (bounds_any p _).mono ?_
      rintro e wz ⟨rfl, hw⟩
      subst wz
      cases hq : zeroB k i d r with
      | false =>
        go_wp2_with fail
        all_goals go_ret
        all_goals refine ⟨ret_bool ?_, hb0⟩
        all_goals rw [HF.out, hq]
        all_goals simp
      | true =>
        go_wp2_with fail
        all_goals go_ret
        all_goals refine ⟨ret_bool ?_, hb0⟩
        all_goals rw [HF.out, hq]
        all_goals (rw [Bool.eq_iff_iff]; simp; try omega)

/-- What Fits answers. -/
def fitE (op n k i d : Int) (r : Bool) : Int := if 1 ≤ op ∧ op ≤ 75 then if fitB (opP op) n k i d r = true then 0 else 17 else 3

set_option maxHeartbeats 1000000 in
theorem fits_any (op n k i d : Int) (r : Bool) (w : World) :
    Calls Tryd.prog 29 #[.agg #[.int .i64 op, .int .i64 n, .int .i64 k, .int .i64 i, .int .i64 d, .bool r]] w fun e w' => e = .returned (.int .i64 (fitE op n k i d r)) ∧ Below w.heap.size w w' := by
  have hb0 : Below w.heap.size w (w.alloc (.cells #[.int .i64 op, .int .i64 n, .int .i64 k, .int .i64 i, .int .i64 d, .bool r] 45)) := (Below.refl _ _).alloc (Nat.le_refl _) _
  have hA0 := At.made w #[.int .i64 op, .int .i64 n, .int .i64 k, .int .i64 i, .int .i64 d, .bool r] 45
  by_cases hin : 1 ≤ op ∧ op ≤ 75
  · have HE : Hid (fitE op n k i d r = if fitB (opP op) n k i d r = true then 0 else 17) := by show _ = _; unfold fitE; rw [if_pos hin]
    obtain ⟨h1, h2⟩ := hin
    go_enter Tryd.func29, Tryd.ntmps29
    go_wp2_with fail
    refine (of_in op h1 h2 _).mono ?_
    rintro e w1 ⟨rfl, hb⟩
    have hA := hA0.later hb
    have hB := hb0.trans (hb.mono hb0.size)
    have hbx : Below w1.heap.size w1 (w1.alloc (.cells #[.string (opS op), .int .i64 (opP op), .int .i64 (opW op)] 59)) := (Below.refl _ _).alloc (Nat.le_refl _) _
    have hA2 := hA.later hbx
    have hB2 := hB.trans (hbx.mono hB.size)
    have hX := At.made w1 #[.string (opS op), .int .i64 (opP op), .int .i64 (opW op)] 59
    have tc := hA2.cell
    have xc := hX.cell
    clear hb hb0 hA hA0 hB hbx hA2 hX
    go_wp2_with fail
    refine (operandFits_any (opP op) n k i d r _).mono ?_
    rintro e w2 ⟨rfl, hb⟩
    have hB3 := hB2.trans (hb.mono hB2.size)
    clear hb hB2 tc xc
    cases hq : fitB (opP op) n k i d r with
    | false =>
      go_wp2_with fail
      go_ret
      exact ⟨ret_int (by rw [HE.out, hq]; rfl), hB3⟩
    | true =>
      go_wp2_with fail
      go_ret
      exact ⟨ret_int (by rw [HE.out, hq]; rfl), hB3⟩
  · have HE : Hid (fitE op n k i d r = 3) := by show _ = _; unfold fitE; rw [if_neg hin]
    go_enter Tryd.func29, Tryd.ntmps29
    go_wp2_with fail
    refine (of_out op hin _).mono ?_
    rintro e w1 ⟨rfl, hb⟩
    have hB := hb0.trans (hb.mono hb0.size)
    have hbx : Below w1.heap.size w1 (w1.alloc (.cells #[.string ⟨#[]⟩, .int .i64 0, .int .i64 0] 59)) := (Below.refl _ _).alloc (Nat.le_refl _) _
    have hB2 := hB.trans (hbx.mono hB.size)
    clear hb hb0 hA0 hB hbx
    go_wp2_with fail
    go_ret
    exact ⟨ret_int HE.out.symm, hB2⟩

end Go.Proofs.YtpgkjfjooogfmaaDoor
