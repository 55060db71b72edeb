
/- Named. -/
import Derived.Test.YtpgkjfjooogfmaaDoorOf6
namespace Go.Proofs.YtpgkjfjooogfmaaDoor
set_option linter.unusedVariables false
set_option linter.unusedSimpArgs false
open Go.RowKit

/-- The first of that name, from nought on. -/
def nmF (s : ByteArray) : Option Nat := (List.range 75).find? fun k => (opS ((k : Int) + 1)).toList == s.toList
def nmI (s : ByteArray) : Int := match nmF s with | some k => (k : Int) + 1 | none => 0
def nmE (s : ByteArray) : Int := match nmF s with | some _ => 0 | none => 18

theorem nmF_some {s : ByteArray} {k : Nat} (hk : k < 75) (h : ((opS ((k : Int) + 1)).toList == s.toList) = true) (hl : ∀ j : Nat, j < k → ((opS ((j : Int) + 1)).toList == s.toList) = false) : nmF s = some k := by
  unfold nmF
  rw [List.find?_range_eq_some]
  exact ⟨h, by simpa using hk, fun j hj => by rw [hl j hj]; rfl⟩
theorem nmF_none {s : ByteArray} (hl : ∀ j : Nat, j < 75 → ((opS ((j : Int) + 1)).toList == s.toList) = false) : nmF s = none := by
  unfold nmF
  rw [List.find?_eq_none]
  intro j hj
  rw [hl j (by simpa using hj)]; simp

theorem field_name (W : World) (s : ByteArray) (p f : Int) : (Instr.field 59 (.agg #[.string s, .int .i64 p, .int .i64 f]) 0).run Tryd.prog W = .ok (.string s) W := by
  simp [Instr.field, run_underlying Tryd.underlying59, go_sem]
  rfl

/-- Each is led back to by its name: no two have one name. -/
theorem nm_all : ∀ k : Nat, k < 75 → ∀ j : Nat, j < 75 → (opI ((j : Int) + 1)).1 = (opI ((k : Int) + 1)).1 → j = k := by decide +kernel
theorem nmF_op {n : Int} (h1 : 1 ≤ n) (h2 : n ≤ 75) : nmF (opS n) = some (n - 1).toNat := by
  have hn : (((n - 1).toNat : Int) + 1) = n := by omega
  refine nmF_some (by omega) (by rw [hn]; simp) fun j hj => ?_
  rw [beq_eq_false_iff_ne]
  intro e
  rw [Lib.toList_data, Lib.toList_data] at e
  have := nm_all (n - 1).toNat (by omega) j (by omega) (by rw [hn]; simpa [opS] using e)
  omega

end Go.Proofs.YtpgkjfjooogfmaaDoor
