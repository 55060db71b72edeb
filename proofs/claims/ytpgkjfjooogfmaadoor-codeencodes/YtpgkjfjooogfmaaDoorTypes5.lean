
/- Types as they are told in layer 5: what is plain, what may stand where, and the code's and the references' answers to that. -/
import Derived.Test.YtpgkjfjooogfmaaDoorRows
import Derived.Test.YtpgkjfjooogfmaaDoorLeaf
namespace Go.Proofs.YtpgkjfjooogfmaaDoor
set_option linter.unusedVariables false
set_option linter.unusedSimpArgs false
open Go.RowKit

/-- A type as a value. -/
def tyv (k i d : Int) (r : Bool) : Value := .agg #[.int .i64 k, .int .i64 i, .int .i64 d, .bool r]

def plainB (k i d : Int) (r : Bool) : Bool :=
  decide (0 ≤ d ∧ d ≤ 3 ∧ 0 ≤ i ∧ (k = 1 ∧ d = 0 ∧ r = false ∧ i = 0 ∨ (k = 2 ∨ k = 3 ∨ k = 4) ∧ i = 0 ∨ (k = 5 ∨ k = 6) ∧ i < 32 ∨ k = 7 ∧ i ≤ 7))
/-- What may stand there: 0 anywhere, 1 as a field's, 2 as a parameter's or a local's, 3 as what is answered. -/
def mayB (p : Nat) (k i d : Int) (r : Bool) : Bool :=
  if p = 1 then plainB k i d r && (k != 1) && !r else if p = 2 then plainB k i d r && (k != 1) else if p = 3 then plainB k i d r && !r else plainB k i d r

/-- A type: kind, index, dimensions, whether an address. -/
abbrev Ty := Int × Int × Int × Bool
def tv (t : Ty) : Value := .agg #[.int .i64 t.1, .int .i64 t.2.1, .int .i64 t.2.2.1, .bool t.2.2.2]
def plainT (t : Ty) : Bool := plainB t.1 t.2.1 t.2.2.1 t.2.2.2
def mayT (p : Nat) (t : Ty) : Bool := mayB p t.1 t.2.1 t.2.2.1 t.2.2.2

theorem within_any (n last : Int) (w : World) :
    Calls Tryd.prog 70 #[.int .i64 n, .int .i64 last] w fun e w' => e = .returned (.bool (decide (0 ≤ n) && decide (n ≤ last))) ∧ w' = w := by
  go_enter Tryd.func70, Tryd.ntmps70
  go_wp2
  all_goals go_ret
  · exact ⟨ret_bool (by simp [*]), rfl⟩
  · exact ⟨ret_bool (by simp [*]; omega), rfl⟩

set_option maxHeartbeats 1000000 in
theorem isPlain_any (k i d : Int) (r : Bool) (w : World) :
    Calls Tryd.prog 69 #[.agg #[.int .i64 k, .int .i64 i, .int .i64 d, .bool r]] w fun e w' => e = .returned (.bool (plainB k i d r)) ∧ Below w.heap.size w w' := by
  go_enter Tryd.func69, Tryd.ntmps69
  go_wp2
  all_goals go_ret
  all_goals refine ⟨ret_bool ?_, (Below.refl _ _).alloc (Nat.le_refl _) _⟩
  all_goals try simp only [beq_iff_eq, beq_eq_false_iff_ne, ne_eq] at *
  all_goals (rw [Bool.eq_iff_iff]; cases r <;> first | contradiction | (simp [plainB] <;> omega))

set_option maxHeartbeats 1000000 in
theorem refPlain_any (k i d : Int) (r : Bool) (w : World) :
    Calls Tryd.prog 65 #[.agg #[.int .i64 k, .int .i64 i, .int .i64 d, .bool r]] w fun e w' => e = .returned (.bool (plainB k i d r)) ∧ Below w.heap.size w w' := by
  go_enter Tryd.func65, Tryd.ntmps65
  go_wp2
  all_goals go_ret
  all_goals refine ⟨ret_bool ?_, (Below.refl _ _).alloc (Nat.le_refl _) _⟩
  all_goals try simp only [beq_iff_eq, beq_eq_false_iff_ne, ne_eq] at *
  all_goals (rw [Bool.eq_iff_iff]; cases r <;> first | contradiction | (simp [plainB] <;> omega))

/-- What was there reads as before. -/
theorem bcell {W w1 : World} (hb : Below W.heap.size W w1) : (∀ b o, b < W.heap.size → w1.cell? ⟨b, o, none⟩ = W.cell? ⟨b, o, none⟩) ∧ (∀ b o, b < W.heap.size → w1.frozen? ⟨b, o, none⟩ = W.frozen? ⟨b, o, none⟩) :=
  ⟨fun b o h => hb.cell (p := ⟨b, o, none⟩) h, fun b o h => hb.frozen (p := ⟨b, o, none⟩) h⟩
/-- A box, and something behind it. -/
theorem below_box {w w1 : World} {o : Obj} (hb : Below (w.alloc o).heap.size (w.alloc o) w1) : Below w.heap.size w w1 :=
  ((Below.refl _ _).alloc (Nat.le_refl _) _).trans (hb.mono (by simp))

theorem plain_any (k i d : Int) (r : Bool) (w : World) :
    Calls Tryd.prog 68 #[.agg #[.int .i64 k, .int .i64 i, .int .i64 d, .bool r]] w fun e w' => e = .returned (.bool (plainB k i d r)) ∧ Below w.heap.size w w' := by
  go_enter Tryd.func68, Tryd.ntmps68
  go_wp2_with fail
  refine (isPlain_any k i d r _).mono ?_
  rintro e w1 ⟨rfl, hb⟩
  have hB := below_box hb
  clear hb
  go_wp2
  go_ret
  exact ⟨rfl, hB⟩

theorem where1_any (k i d : Int) (r : Bool) (w : World) :
    Calls Tryd.prog 49 #[.agg #[.int .i64 k, .int .i64 i, .int .i64 d, .bool r], .int .i64 1] w fun e w' => e = .returned (.bool (mayB 1 k i d r)) ∧ Below w.heap.size w w' := by
  go_enter Tryd.func49, Tryd.ntmps49
  go_wp2_with fail
  refine (refPlain_any k i d r _).mono ?_
  rintro e w1 ⟨rfl, hb⟩
  have hB := below_box hb
  obtain ⟨hc, hf⟩ := bcell hb
  clear hb
  go_wp2
  all_goals go_ret
  all_goals refine ⟨ret_bool ?_, hB⟩
  all_goals first | (have hq : plainB k i d r = true := by simpa using ‹(!plainB k i d r) = false›
                     simp [mayB, *]) | (have hq : plainB k i d r = false := by simpa using ‹(!plainB k i d r) = true›
                                        simp [mayB, *])

theorem where2_any (k i d : Int) (r : Bool) (w : World) :
    Calls Tryd.prog 49 #[.agg #[.int .i64 k, .int .i64 i, .int .i64 d, .bool r], .int .i64 2] w fun e w' => e = .returned (.bool (mayB 2 k i d r)) ∧ Below w.heap.size w w' := by
  go_enter Tryd.func49, Tryd.ntmps49
  go_wp2_with fail
  refine (refPlain_any k i d r _).mono ?_
  rintro e w1 ⟨rfl, hb⟩
  have hB := below_box hb
  obtain ⟨hc, hf⟩ := bcell hb
  clear hb
  go_wp2
  all_goals go_ret
  all_goals refine ⟨ret_bool ?_, hB⟩
  all_goals first | (have hq : plainB k i d r = true := by simpa using ‹(!plainB k i d r) = false›
                     simp [mayB, *]) | (have hq : plainB k i d r = false := by simpa using ‹(!plainB k i d r) = true›
                                        simp [mayB, *])

theorem where3_any (k i d : Int) (r : Bool) (w : World) :
    Calls Tryd.prog 49 #[.agg #[.int .i64 k, .int .i64 i, .int .i64 d, .bool r], .int .i64 3] w fun e w' => e = .returned (.bool (mayB 3 k i d r)) ∧ Below w.heap.size w w' := by
  go_enter Tryd.func49, Tryd.ntmps49
  go_wp2_with fail
  refine (refPlain_any k i d r _).mono ?_
  rintro e w1 ⟨rfl, hb⟩
  have hB := below_box hb
  obtain ⟨hc, hf⟩ := bcell hb
  clear hb
  go_wp2
  all_goals go_ret
  all_goals refine ⟨ret_bool ?_, hB⟩
  all_goals first | (have hq : plainB k i d r = true := by simpa using ‹(!plainB k i d r) = false›
                     simp [mayB, *]) | (have hq : plainB k i d r = false := by simpa using ‹(!plainB k i d r) = true›
                                        simp [mayB, *])

end Go.Proofs.YtpgkjfjooogfmaaDoor
