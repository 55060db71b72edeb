
/- Fits of the references. -/
import Derived.Test.YtpgkjfjooogfmaaDoorRefOf6
import Derived.Test.YtpgkjfjooogfmaaDoorFits6
namespace Go.Proofs.YtpgkjfjooogfmaaDoor
set_option linter.unusedVariables false
set_option linter.unusedSimpArgs false
open Go.RowKit

theorem refOf_at (n : Int) (h1 : 1 ≤ n) (h2 : n ≤ 75) (w : World) :
    Calls Tryd.prog 24 #[.int .i64 n] w fun e w' => e = .returned (.tuple #[.agg #[.string (opS n), .int .i64 (opP n), .int .i64 (opW n)], .int .i64 0]) ∧ Below w.heap.size w w' := by
  have := refOf_in (n - 1).toNat (by omega) w
  rw [show ((n - 1).toNat : Int) + 1 = n by omega] at this
  exact this

set_option maxHeartbeats 2000000 in
theorem refFits6_any (op n k i d : Int) (r : Bool) (w : World) :
    Calls Tryd.prog 31 #[.agg #[.int .i64 op, .int .i64 n, .int .i64 k, .int .i64 i, .int .i64 d, .bool r]] w fun e w' => e = .returned (.int .i64 (fitE op n k i d r)) ∧ Below w.heap.size w w' := by
  have hb0 : Below w.heap.size w (w.alloc (.cells #[.int .i64 op, .int .i64 n, .int .i64 k, .int .i64 i, .int .i64 d, .bool r] 45)) := (Below.refl _ _).alloc (Nat.le_refl _) _
  have hA0 := At.made w #[.int .i64 op, .int .i64 n, .int .i64 k, .int .i64 i, .int .i64 d, .bool r] 45
  have hz : ∀ W : World, (binOp .eql 43 (.agg #[.int .i64 k, .int .i64 i, .int .i64 d, .bool r]) (.agg #[.int .i64 0, .int .i64 0, .int .i64 0, .bool false])).run Tryd.prog W = .ok (.bool (zeroB k i d r)) W := fun W => by
    rw [eq_ty]; cases r <;> rfl
  by_cases hin : 1 ≤ op ∧ op ≤ 75
  · obtain ⟨h1, h2⟩ := hin
    have HE : Hid (fitE op n k i d r = if fitB (opP op) n k i d r = true then 0 else 17) := by show _ = _; unfold fitE; rw [if_pos ⟨h1, h2⟩]
    go_enter Tryd.func31, Tryd.ntmps31
    go_wp2_with fail
    refine (refOf_at op h1 h2 _).mono ?_
    rintro e w1 ⟨rfl, hb⟩
    have hA := hA0.later hb
    have hB := hb0.trans (hb.mono hb0.size)
    have hbx : Below w1.heap.size w1 (w1.alloc (.cells #[.string (opS op), .int .i64 (opP op), .int .i64 (opW op)] 59)) := (Below.refl _ _).alloc (Nat.le_refl _) _
    have hA2 := hA.later hbx
    have hB2 := hB.trans (hbx.mono hB.size)
    have hX := At.made w1 #[.string (opS op), .int .i64 (opP op), .int .i64 (opW op)] 59
    have tc := hA2.cell
    have xc := hX.cell
    clear hb hb0 hA hA0 hB hbx h1 h2
    generalize opP op = p at *
    generalize opW op = q at *
    generalize opS op = s at *
    go_wp2_with fail
    refine (most_any p _).mono ?_
    rintro e wz ⟨rfl, hw⟩
    subst wz
    by_cases hlo : n < bLo p
    · have HN : Hid (fitE op n k i d r = 17) := by
        show _ = _; rw [HE.out, if_neg]; unfold fitB; simp; intro a; omega
      clear HE
      by_cases hhi : bHi p < n
      · go_wp2_with fail
        go_ret
        exact ⟨ret_int HN.out.symm, hB2⟩
      · go_wp2_with fail
        go_ret
        exact ⟨ret_int HN.out.symm, hB2⟩
    · by_cases hhi : bHi p < n
      · have HN : Hid (fitE op n k i d r = 17) := by
          show _ = _; rw [HE.out, if_neg]; unfold fitB; simp; intro a b; omega
        clear HE
        go_wp2_with fail
        go_ret
        exact ⟨ret_int HN.out.symm, hB2⟩
      · have HF : Hid (fitB p n k i d r = if p = 8 then mayB 1 k i d r else zeroB k i d r) := by
          show _ = _; unfold fitB; rw [decide_eq_true (by omega), decide_eq_true (by omega)]; rfl
        by_cases h8 : p = 8
        · subst h8
          have HF8 : Hid (fitB 8 n k i d r = mayB 1 k i d r) := by show _ = _; rw [HF.out, if_pos rfl]
          clear HF
          go_wp2_with fail
          refine (where1_any k i d r _).mono ?_
          rintro e w2 ⟨rfl, hb⟩
          have hB3 := hB2.trans (hb.mono hB2.size)
          clear hb hB2 tc xc
          cases hm : mayB 1 k i d r with
          | false =>
            go_wp2_with fail
            go_ret
            exact ⟨ret_int (by rw [HE.out, HF8.out, hm]; rfl), hB3⟩
          | true =>
            go_wp2_with fail
            go_ret
            exact ⟨ret_int (by rw [HE.out, HF8.out, hm]; rfl), hB3⟩
        · have h8' : (p == 8) = false := by simpa using h8
          have h8n : (p != 8) = true := by simpa using h8
          have HF8 : Hid (fitB p n k i d r = zeroB k i d r) := by show _ = _; rw [HF.out, if_neg h8]
          clear HF h8
          cases hm : zeroB k i d r with
          | false =>
            go_wp2_with fail
            go_ret
            exact ⟨ret_int (by rw [HE.out, HF8.out, hm]; rfl), hB2⟩
          | true =>
            go_wp2_with fail
            go_ret
            exact ⟨ret_int (by rw [HE.out, HF8.out, hm]; rfl), hB2⟩
  · have HE : Hid (fitE op n k i d r = 3) := by show _ = _; unfold fitE; rw [if_neg hin]
    go_enter Tryd.func31, Tryd.ntmps31
    go_wp2_with fail
    refine (refOf_out op hin _).mono ?_
    rintro e w1 ⟨rfl, hb⟩
    have hB := hb0.trans (hb.mono hb0.size)
    have hbx : Below w1.heap.size w1 (w1.alloc (.cells #[.string ⟨#[]⟩, .int .i64 0, .int .i64 0] 59)) := (Below.refl _ _).alloc (Nat.le_refl _) _
    have hB2 := hB.trans (hbx.mono hB.size)
    clear hb hb0 hA0 hB hbx
    go_wp2_with fail
    go_ret
    exact ⟨ret_int HE.out.symm, hB2⟩

end Go.Proofs.YtpgkjfjooogfmaaDoor
