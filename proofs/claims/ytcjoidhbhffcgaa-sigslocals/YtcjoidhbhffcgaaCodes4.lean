
/- width, Width, fits of rows and of its references; Code and Coded. -/
import Derived.Test.YtcjoidhbhffcgaaCols4
namespace Go.Proofs.Ytcjoidhbhffcgaa
set_option linter.unusedVariables false
set_option linter.unusedSimpArgs false
open Go.RowKit

/-- How wide a column of that sign is. -/
def wdI (s : Int) (m : Nat) : Int := if s = 52 then 4 else if s = 110 then (if m % 2 = 1 then 4 else 2) else if s = 98 then (if 2 ≤ m then 4 else 2) else 2

def codeI (table row : Int) : Int := if table = -1 then 0 else if table ≠ 0 ∧ table ≠ 4 then 0 else if row < 1 ∨ 16383 < row then 0 else row * 4 + (if table = 4 then 2 else 0)
def codeE (table row : Int) : Int := if table = -1 then 0 else if table ≠ 0 ∧ table ≠ 4 then 17 else if row < 1 ∨ 16383 < row then 3 else 0
def codedT (x : Int) : Int := if x = 0 then -1 else if x < 4 ∨ 65535 < x ∨ x % 2 = 1 then 0 else if x % 4 = 2 then 4 else 0
def codedR (x : Int) : Int := if x = 0 then 0 else if x < 4 ∨ 65535 < x ∨ x % 2 = 1 then 0 else x / 4
def codedE (x : Int) : Int := if x = 0 then 0 else if x < 4 ∨ 65535 < x ∨ x % 2 = 1 then 5 else 0
theorem ret_int3 {k l m : IntKind} {a b c d e f : Int} (h : a = b) (g : c = d) (i : e = f) : Ending.returned (.tuple #[.int k a, .int l c, .int m e]) = .returned (.tuple #[.int k b, .int l d, .int m f]) := by rw [h, g, i]

theorem ret_agg3 {k l m : IntKind} {a b c d e f : Int} (h : a = b) (g : c = d) (i : e = f) : Ending.returned (.agg #[.int k a, .int l c, .int m e]) = .returned (.agg #[.int k b, .int l d, .int m f]) := by rw [h, g, i]

theorem code_any (table row : Int) (w : World) :
    Calls Try.prog 49 #[.int .i64 table, .int .i64 row] w fun e w' => e = .returned (.tuple #[.int .i64 (codeI table row), .int .i64 (codeE table row)]) ∧ w' = w := by
  go_enter Try.func49, Try.ntmps49
  go_wp2
  all_goals (go_ret2; exact ⟨ret_int2 (by (try simp only [beq_iff_eq, beq_eq_false_iff_ne, ne_eq, bne_iff_ne, bne_eq_false_iff_eq] at *); unfold codeI; (repeat' split) <;> omega) (by (try simp only [beq_iff_eq, beq_eq_false_iff_ne, ne_eq, bne_iff_ne, bne_eq_false_iff_eq] at *); unfold codeE; (repeat' split) <;> omega), rfl⟩)

theorem coded_any (x : Int) (w : World) :
    Calls Try.prog 69 #[.int .i64 x] w fun e w' => e = .returned (.tuple #[.int .i64 (codedT x), .int .i64 (codedR x), .int .i64 (codedE x)]) ∧ w' = w := by
  go_enter Try.func69, Try.ntmps69
  go_wp2
  all_goals (go_ret3; exact ⟨ret_int3 (by (try simp only [beq_iff_eq, beq_eq_false_iff_ne, ne_eq, bne_iff_ne, bne_eq_false_iff_eq] at *); unfold codedT; (repeat' split) <;> omega) (by (try simp only [beq_iff_eq, beq_eq_false_iff_ne, ne_eq, bne_iff_ne, bne_eq_false_iff_eq] at *); unfold codedR; (repeat' split) <;> omega) (by (try simp only [beq_iff_eq, beq_eq_false_iff_ne, ne_eq, bne_iff_ne, bne_eq_false_iff_eq] at *); unfold codedE; (repeat' split) <;> omega), rfl⟩)

theorem refCoded_any (x : Int) (w : World) :
    Calls Try.prog 67 #[.int .i64 x] w fun e w' => e = .returned (.agg #[.int .i64 (codedT x), .int .i64 (codedR x), .int .i64 (codedE x)]) ∧ Below w.heap.size w w' := by
  go_enter Try.func67, Try.ntmps67
  go_wp2
  all_goals
    refine bodyPost_ret (v := _) (by simp [results, Try.results67, go_sem]; rfl) rfl ⟨?_, ?_⟩
    · exact ret_agg3 (by (try simp only [beq_iff_eq, beq_eq_false_iff_ne, ne_eq, bne_iff_ne, bne_eq_false_iff_eq] at *); unfold codedT; (repeat' split) <;> omega) (by (try simp only [beq_iff_eq, beq_eq_false_iff_ne, ne_eq, bne_iff_ne, bne_eq_false_iff_eq] at *); unfold codedR; (repeat' split) <;> omega) (by (try simp only [beq_iff_eq, beq_eq_false_iff_ne, ne_eq, bne_iff_ne, bne_eq_false_iff_eq] at *); unfold codedE; (repeat' split) <;> omega)
    · exact (Below.refl _ _).alloc (Nat.le_refl _) _

end Go.Proofs.Ytcjoidhbhffcgaa
