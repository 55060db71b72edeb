
/- The table of widths; operandOf, isRaw; Width, Raw of the references. -/
import Derived.Test.YtpgkjfjooogfmaaDoorCodeSpec
namespace Go.Proofs.YtpgkjfjooogfmaaDoor
set_option linter.unusedVariables false
set_option linter.unusedSimpArgs false
open Go.RowKit

/-- The table of widths stands. -/
def Wd (w : World) : Prop := 0 < w.heap.size ∧ ∀ k, k ≤ 8 → w.cell? ⟨0, k, none⟩ = some (.int .i64 (widN k : Int))
theorem Wd.below {w w' : World} {B : Nat} (h : Wd w) (hb : Below B w w') (hB : 0 < B) : Wd w' :=
  ⟨by have := h.1; have := hb.size; omega, fun k hk => by rw [← h.2 k hk]; exact hb.cell (p := ⟨0, k, none⟩) hB⟩
theorem Wd.later {w w' : World} (h : Wd w) (hb : Below w.heap.size w w') : Wd w' := h.below hb h.1

set_option maxHeartbeats 1000000 in
theorem operandOf_any (op n k i d : Int) (r : Bool) (w : World) :
    Calls Tryd.prog 17 #[.agg #[.int .i64 op, .int .i64 n, .int .i64 k, .int .i64 i, .int .i64 d, .bool r]] w fun e w' => e = .returned (.int .i64 (opK op : Int)) ∧ Below w.heap.size w w' := by
  have hb0 : Below w.heap.size w (w.alloc (.cells #[.int .i64 op, .int .i64 n, .int .i64 k, .int .i64 i, .int .i64 d, .bool r] 45)) := (Below.refl _ _).alloc (Nat.le_refl _) _
  have HK : Hid (opP op = (opK op : Int)) := opK_at op
  have HO : ∀ W : World, Calls Tryd.prog 30 #[.int .i64 op] W fun e w' => (∃ s f er, e = .returned (.tuple #[.agg #[.string s, .int .i64 (opP op), .int .i64 f], .int .i64 er])) ∧ Below W.heap.size W w' := by
    intro W
    by_cases hin : 1 ≤ op ∧ op ≤ 75
    · refine (of_in op hin.1 hin.2 W).mono ?_
      rintro e w' ⟨rfl, hb⟩
      exact ⟨⟨_, _, _, rfl⟩, hb⟩
    · refine (of_out op hin W).mono ?_
      rintro e w' ⟨rfl, hb⟩
      exact ⟨⟨_, _, _, by rw [opP_out hin]⟩, hb⟩
  have HO' : Hid (∀ W : World, Calls Tryd.prog 30 #[.int .i64 op] W fun e w' => (∃ s f er, e = .returned (.tuple #[.agg #[.string s, .int .i64 (opP op), .int .i64 f], .int .i64 er])) ∧ Below W.heap.size W w') := HO
  clear HO
  go_enter Tryd.func17, Tryd.ntmps17
  go_wp2_with fail
  refine (HO'.out _).mono ?_
  rintro e w1 ⟨⟨s, f, er, rfl⟩, hb⟩
  have hB := hb0.trans (hb.mono hb0.size)
  have hbx : Below w1.heap.size w1 (w1.alloc (.cells #[.string s, .int .i64 (opP op), .int .i64 f] 59)) := (Below.refl _ _).alloc (Nat.le_refl _) _
  have hB2 := hB.trans (hbx.mono hB.size)
  have hX := At.made w1 #[.string s, .int .i64 (opP op), .int .i64 f] 59
  have xc := hX.cell
  clear hb hb0 hB hbx
  go_wp2
  go_ret
  exact ⟨ret_int HK.out, hB2⟩

set_option maxHeartbeats 1000000 in
theorem isRaw_any (op n k i d : Int) (r : Bool) (w : World) :
    Calls Tryd.prog 16 #[.agg #[.int .i64 op, .int .i64 n, .int .i64 k, .int .i64 i, .int .i64 d, .bool r]] w fun e w' => e = .returned (.bool (rawB (op, n, k, i, d, r))) ∧ Below w.heap.size w w' := by
  have hb0 : Below w.heap.size w (w.alloc (.cells #[.int .i64 op, .int .i64 n, .int .i64 k, .int .i64 i, .int .i64 d, .bool r] 45)) := (Below.refl _ _).alloc (Nat.le_refl _) _
  have hA0 := At.made w #[.int .i64 op, .int .i64 n, .int .i64 k, .int .i64 i, .int .i64 d, .bool r] 45
  have hz : ∀ W : World, (binOp .eql 43 (.agg #[.int .i64 k, .int .i64 i, .int .i64 d, .bool r]) (.agg #[.int .i64 0, .int .i64 0, .int .i64 0, .bool false])).run Tryd.prog W = .ok (.bool (zeroB k i d r)) W := fun W => by
    rw [eq_ty]; cases r <;> rfl
  have HR : Hid (rawB (op, n, k, i, d, r) = if opK op = 8 then zeroB k i d r && decide (1 ≤ n) && decide (n ≤ 16383) else fitE op n k i d r == 0) := rfl
  go_enter Tryd.func16, Tryd.ntmps16
  go_wp2_with fail
  refine (operandOf_any op n k i d r _).mono ?_
  rintro e w1 ⟨rfl, hb⟩
  have hA := hA0.later hb
  have hB := hb0.trans (hb.mono hb0.size)
  have tc := hA.cell
  clear hb hb0 hA0
  by_cases h8 : opK op = 8
  · have HR8 : Hid (rawB (op, n, k, i, d, r) = (zeroB k i d r && decide (1 ≤ n) && decide (n ≤ 16383))) := by show _ = _; rw [HR.out, if_pos h8]
    rw [h8]
    clear h8 HR
    cases hm : zeroB k i d r with
    | false =>
      rw [hm] at HR8 hz
      go_wp2_with fail
      go_ret
      exact ⟨ret_bool (by rw [HR8.out]; rfl), hB⟩
    | true =>
      rw [hm] at HR8 hz
      by_cases h1 : 1 ≤ n
      · by_cases h2 : n ≤ 16383
        · go_wp2_with fail
          go_ret
          exact ⟨ret_bool (by rw [HR8.out]; simp <;> omega), hB⟩
        · go_wp2_with fail
          go_ret
          exact ⟨ret_bool (by rw [HR8.out]; simp <;> omega), hB⟩
      · go_wp2_with fail
        go_ret
        exact ⟨ret_bool (by rw [HR8.out]; simp <;> omega), hB⟩
  · have h8' : ((opK op : Int) == 8) = false := by rw [beq_eq_false_iff_ne]; omega
    have HR8 : Hid (rawB (op, n, k, i, d, r) = (fitE op n k i d r == 0)) := by show _ = _; rw [HR.out, if_neg h8]
    clear h8 HR
    go_wp2_with fail
    refine (fits_any op n k i d r _).mono ?_
    rintro e w2 ⟨rfl, hb⟩
    have hB2 := hB.trans (hb.mono hB.size)
    clear hb hB tc
    go_wp2_with fail
    go_ret
    exact ⟨ret_bool HR8.out.symm, hB2⟩

/-- Of of the references: the operand. -/
theorem refOf7_any (op : Int) (W : World) : Calls Tryd.prog 24 #[.int .i64 op] W fun e w' => (∃ s f, e = .returned (.tuple #[.agg #[.string s, .int .i64 (opK op : Int), .int .i64 f], .int .i64 (if 1 ≤ op ∧ op ≤ 75 then 0 else 3)])) ∧ Below W.heap.size W w' := by
  by_cases hin : 1 ≤ op ∧ op ≤ 75
  · refine (refOf_at op hin.1 hin.2 W).mono ?_
    rintro e w' ⟨rfl, hb⟩
    exact ⟨⟨_, _, by rw [if_pos hin, opK_at]⟩, hb⟩
  · refine (refOf_out op hin W).mono ?_
    rintro e w' ⟨rfl, hb⟩
    exact ⟨⟨_, _, by rw [if_neg hin, ← opK_at, opP_out hin]⟩, hb⟩

abbrev widS : ByteArray := ⟨#[48, 52, 56, 49, 49, 50, 50, 50, 50]⟩
theorem widS_at : ∀ k : Nat, k ≤ 8 → ((widS.get! k).toNat : Int) = (widN k : Int) + 48 := by decide +kernel

set_option maxHeartbeats 1000000 in
theorem refWidth7_any (op : Int) (w : World) :
    Calls Tryd.prog 19 #[.int .i64 op] w fun e w' => e = .returned (.int .i64 (widN (opK op) : Int)) ∧ Below w.heap.size w w' := by
  have hk := opK_le op
  have HO : Hid (Calls Tryd.prog 24 #[.int .i64 op] w fun e w' => (∃ s f, e = .returned (.tuple #[.agg #[.string s, .int .i64 (opK op : Int), .int .i64 f], .int .i64 (if 1 ≤ op ∧ op ≤ 75 then 0 else 3)])) ∧ Below w.heap.size w w') := refOf7_any op w
  have hd := widS_at (opK op) hk
  have hw8 := widN_le (opK op)
  generalize (if 1 ≤ op ∧ op ≤ 75 then (0 : Int) else 3) = er at *
  generalize opK op = p at *
  go_enter Tryd.func19, Tryd.ntmps19
  go_wp2_with fail
  refine Calls.mono HO.out ?_
  rintro e w1 ⟨⟨s, f, rfl⟩, hb⟩
  have hbx : Below w1.heap.size w1 (w1.alloc (.cells #[.string s, .int .i64 (p : Int), .int .i64 f] 59)) := (Below.refl _ _).alloc (Nat.le_refl _) _
  have hB2 := hb.trans (hbx.mono hb.size)
  have hX := At.made w1 #[.string s, .int .i64 (p : Int), .int .i64 f] 59
  have xc := hX.cell
  clear hb hbx HO
  have hcs : p = 0 ∨ p = 1 ∨ p = 2 ∨ p = 3 ∨ p = 4 ∨ p = 5 ∨ p = 6 ∨ p = 7 ∨ p = 8 := by omega
  rcases hcs with rfl | rfl | rfl | rfl | rfl | rfl | rfl | rfl | rfl
  all_goals go_wp2
  all_goals go_ret
  all_goals exact ⟨ret_int rfl, hB2⟩

set_option maxHeartbeats 2000000 in
theorem refRaw_any (op n k i d : Int) (r : Bool) (w : World) :
    Calls Tryd.prog 18 #[.agg #[.int .i64 op, .int .i64 n, .int .i64 k, .int .i64 i, .int .i64 d, .bool r]] w fun e w' => e = .returned (.bool (rawB (op, n, k, i, d, r))) ∧ Below w.heap.size w w' := by
  have hb0 : Below w.heap.size w (w.alloc (.cells #[.int .i64 op, .int .i64 n, .int .i64 k, .int .i64 i, .int .i64 d, .bool r] 45)) := (Below.refl _ _).alloc (Nat.le_refl _) _
  have hA0 := At.made w #[.int .i64 op, .int .i64 n, .int .i64 k, .int .i64 i, .int .i64 d, .bool r] 45
  have hz : ∀ W : World, (binOp .eql 43 (.agg #[.int .i64 k, .int .i64 i, .int .i64 d, .bool r]) (.agg #[.int .i64 0, .int .i64 0, .int .i64 0, .bool false])).run Tryd.prog W = .ok (.bool (zeroB k i d r)) W := fun W => by
    rw [eq_ty]; cases r <;> rfl
  have HR : Hid (rawB (op, n, k, i, d, r) = if opK op = 8 then zeroB k i d r && decide (1 ≤ n) && decide (n ≤ 16383) else fitE op n k i d r == 0) := rfl
  have HO : Hid (∀ W, Calls Tryd.prog 24 #[.int .i64 op] W fun e w' => (∃ s f, e = .returned (.tuple #[.agg #[.string s, .int .i64 (opK op : Int), .int .i64 f], .int .i64 (if 1 ≤ op ∧ op ≤ 75 then 0 else 3)])) ∧ Below W.heap.size W w') := refOf7_any op
  by_cases hin : 1 ≤ op ∧ op ≤ 75
  · rw [if_pos hin] at HO
    clear hin
    by_cases h8 : opK op = 8
    · have HR8 : Hid (rawB (op, n, k, i, d, r) = (zeroB k i d r && decide (1 ≤ n) && decide (n ≤ 16383))) := by show _ = _; rw [HR.out, if_pos h8]
      have HO8 : Hid (∀ W, Calls Tryd.prog 24 #[.int .i64 op] W fun e w' => (∃ s f, e = .returned (.tuple #[.agg #[.string s, .int .i64 8, .int .i64 f], .int .i64 0])) ∧ Below W.heap.size W w') := by
        intro W
        have := HO.out W
        rw [h8] at this
        exact this
      clear h8 HR HO
      go_enter Tryd.func18, Tryd.ntmps18
      go_wp2_with fail
      refine (HO8.out _).mono ?_
      rintro e w1 ⟨⟨s, f, rfl⟩, hb⟩
      have hA := hA0.later hb
      have hB := hb0.trans (hb.mono hb0.size)
      have hbx : Below w1.heap.size w1 (w1.alloc (.cells #[.string s, .int .i64 8, .int .i64 f] 59)) := (Below.refl _ _).alloc (Nat.le_refl _) _
      have hA2 := hA.later hbx
      have hB2 := hB.trans (hbx.mono hB.size)
      have hX := At.made w1 #[.string s, .int .i64 8, .int .i64 f] 59
      have tc := hA2.cell
      have xc := hX.cell
      clear hb hb0 hA hA0 hB hbx HO8
      cases hm : zeroB k i d r with
      | false =>
        rw [hm] at HR8 hz
        go_wp2_with fail
        go_ret
        exact ⟨ret_bool (by rw [HR8.out]; rfl), hB2⟩
      | true =>
        rw [hm] at HR8 hz
        by_cases h1 : 1 ≤ n
        · by_cases h2 : n ≤ 16383
          · go_wp2_with fail
            go_ret
            exact ⟨ret_bool (by rw [HR8.out]; simp <;> omega), hB2⟩
          · go_wp2_with fail
            go_ret
            exact ⟨ret_bool (by rw [HR8.out]; simp <;> omega), hB2⟩
        · go_wp2_with fail
          go_ret
          exact ⟨ret_bool (by rw [HR8.out]; simp <;> omega), hB2⟩
    · have h8' : ((opK op : Int) == 8) = false := by rw [beq_eq_false_iff_ne]; omega
      have HR8 : Hid (rawB (op, n, k, i, d, r) = (fitE op n k i d r == 0)) := by show _ = _; rw [HR.out, if_neg h8]
      clear h8 HR
      go_enter Tryd.func18, Tryd.ntmps18
      go_wp2_with fail
      refine (HO.out _).mono ?_
      rintro e w1 ⟨⟨s, f, rfl⟩, hb⟩
      have hA := hA0.later hb
      have hB := hb0.trans (hb.mono hb0.size)
      have hbx : Below w1.heap.size w1 (w1.alloc (.cells #[.string s, .int .i64 (opK op : Int), .int .i64 f] 59)) := (Below.refl _ _).alloc (Nat.le_refl _) _
      have hA2 := hA.later hbx
      have hB2 := hB.trans (hbx.mono hB.size)
      have hX := At.made w1 #[.string s, .int .i64 (opK op : Int), .int .i64 f] 59
      have tc := hA2.cell
      have xc := hX.cell
      clear hb hb0 hA hA0 hB hbx HO
      go_wp2_with fail
      refine (refFits6_any op n k i d r _).mono ?_
      rintro e w2 ⟨rfl, hb⟩
      have hB3 := hB2.trans (hb.mono hB2.size)
      clear hb hB2 tc xc
      go_wp2_with fail
      go_ret
      exact ⟨ret_bool HR8.out.symm, hB3⟩
  · have HF : Hid (rawB (op, n, k, i, d, r) = false) := by
      show _ = _
      rcases hz : rawB (op, n, k, i, d, r) with _ | _
      · rfl
      · exact absurd (raw_op hz) hin
    rw [if_neg hin] at HO
    clear hin HR
    go_enter Tryd.func18, Tryd.ntmps18
    go_wp2_with fail
    refine (HO.out _).mono ?_
    rintro e w1 ⟨⟨s, f, rfl⟩, hb⟩
    have hB := hb0.trans (hb.mono hb0.size)
    have hbx : Below w1.heap.size w1 (w1.alloc (.cells #[.string s, .int .i64 (opK op : Int), .int .i64 f] 59)) := (Below.refl _ _).alloc (Nat.le_refl _) _
    have hB2 := hB.trans (hbx.mono hB.size)
    clear hb hb0 hA0 hB hbx HO
    go_wp2_with fail
    go_ret
    exact ⟨ret_bool HF.out.symm, hB2⟩

end Go.Proofs.YtpgkjfjooogfmaaDoor
