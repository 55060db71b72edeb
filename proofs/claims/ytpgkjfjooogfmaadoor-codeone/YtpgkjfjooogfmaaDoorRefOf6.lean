
/- Of of the references. -/
import Derived.Test.YtpgkjfjooogfmaaDoorRefName6
import Derived.Deep.RegionHeld3
import Derived.Deep.RegionLaw
namespace Go.Proofs.YtpgkjfjooogfmaaDoor
set_option linter.unusedVariables false
set_option linter.unusedSimpArgs false
open Go.RowKit

/-- The digits of operands and ways. -/
def digP : ByteArray := ⟨List.toArray (48 :: 52 :: 52 :: 52 :: 51 :: 51 :: 51 :: 49 :: 50 :: 48 :: 48 :: 48 :: 48 :: 48 :: 48 :: 48 :: 48 :: 48 :: 48 :: 48 :: 48 :: 48 :: 48 :: 48 :: 48 :: 48 :: 48 :: 48 :: 48 :: 48 :: 48 :: 48 :: 48 :: 53 :: 53 :: 53 :: 53 :: 53 :: 53 :: 53 :: 53 :: 53 :: 54 :: 54 :: 54 :: 48 :: 48 :: 55 :: 55 :: 55 :: 55 :: 55 :: 55 :: 56 :: 56 :: 56 :: 56 :: 48 :: 56 :: 56 :: 56 :: 56 :: 56 :: 56 :: 56 :: 56 :: 54 :: 56 :: 48 :: 48 :: 53 :: 48 :: 48 :: 48 :: 48 :: [])⟩
def digW : ByteArray := ⟨List.toArray (48 :: 48 :: 48 :: 48 :: 48 :: 48 :: 48 :: 48 :: 48 :: 48 :: 48 :: 48 :: 48 :: 48 :: 48 :: 48 :: 48 :: 48 :: 48 :: 48 :: 48 :: 48 :: 48 :: 48 :: 48 :: 48 :: 48 :: 48 :: 48 :: 48 :: 48 :: 48 :: 48 :: 49 :: 50 :: 50 :: 50 :: 50 :: 50 :: 50 :: 50 :: 50 :: 48 :: 48 :: 48 :: 51 :: 48 :: 48 :: 48 :: 48 :: 48 :: 48 :: 48 :: 48 :: 48 :: 48 :: 48 :: 48 :: 48 :: 48 :: 48 :: 48 :: 48 :: 48 :: 48 :: 48 :: 48 :: 48 :: 51 :: 51 :: 52 :: 53 :: 53 :: 48 :: 48 :: [])⟩
theorem digP_all : ∀ k : Nat, k < 75 → ((digP.get! k).toNat : Int) = opP ((k : Int) + 1) + 48 ∧ 0 ≤ opP ((k : Int) + 1) ∧ opP ((k : Int) + 1) ≤ 8 := by decide +kernel
theorem digW_all : ∀ k : Nat, k < 75 → ((digW.get! k).toNat : Int) = opW ((k : Int) + 1) + 48 ∧ 0 ≤ opW ((k : Int) + 1) ∧ opW ((k : Int) + 1) ≤ 5 := by decide +kernel

theorem wrap_small {x : Int} (h0 : 0 ≤ x) (h1 : x < 256) : IntKind.u8.wrap x = x := by
  unfold IntKind.wrap
  simp [IntKind.bits, IntKind.signed]
  omega
theorem get_bang (d : ByteArray) (k : Nat) (h : k < d.size) : d.get! k = d[k]'h := by
  show d.data[k]! = d.data[k]'h
  exact getElem!_pos d.data k h
theorem digP_at (k : Nat) (hk : k < 75) (h : k < digP.size) : ((digP[k]'h).toNat : Int) = opP ((k : Int) + 1) + 48 := by rw [← get_bang]; exact (digP_all k hk).1
theorem digW_at (k : Nat) (hk : k < 75) (h : k < digW.size) : ((digW[k]'h).toNat : Int) = opW ((k : Int) + 1) + 48 := by rw [← get_bang]; exact (digW_all k hk).1

set_option maxHeartbeats 1000000 in
set_option maxRecDepth 100000 in
theorem refOf_in (k : Nat) (hk : k < 75) (w : World) :
    Calls Tryd.prog 24 #[.int .i64 ((k : Int) + 1)] w fun e w' => e = .returned (.tuple #[.agg #[.string (opS ((k : Int) + 1)), .int .i64 (opP ((k : Int) + 1)), .int .i64 (opW ((k : Int) + 1))], .int .i64 0]) ∧ Below w.heap.size w w' := by
  have hA0 := At.made w #[.string ⟨#[]⟩, .int .i64 0, .int .i64 0] 59
  have hb0 : Below w.heap.size w (w.alloc (.cells #[.string ⟨#[]⟩, .int .i64 0, .int .i64 0] 59)) := (Below.refl _ _).alloc (Nat.le_refl _) _
  have h1 : (0 : Int) ≤ (k : Int) := by omega
  have h2 : (k : Int) < 75 := by omega
  have hkw : IntKind.i64.wrap (k : Int) = (k : Int) := by rw [IntKind.wrap_i64]; omega
  have hp := digP_at k hk hk
  have hq := digW_at k hk hk
  unfold digP at hp
  unfold digW at hq
  obtain ⟨-, hp0, hp8⟩ := digP_all k hk
  obtain ⟨-, hw0, hw5⟩ := digW_all k hk
  generalize opP ((k : Int) + 1) = p at *
  generalize opW ((k : Int) + 1) = q at *
  have hpw : IntKind.u8.wrap p = p := wrap_small (by omega) (by omega)
  have hqw : IntKind.u8.wrap q = q := wrap_small (by omega) (by omega)
  have hpi : IntKind.i64.wrap p = p := by rw [IntKind.wrap_i64]; omega
  have hqi : IntKind.i64.wrap q = q := by rw [IntKind.wrap_i64]; omega
  go_enter Tryd.func24, Tryd.ntmps24
  go_wp2_with fail
  go_region_held3 (fun w' => True) (exact trivial)
    (first | (go_at_call 38; refine (refOpName_any _ _).mono ?_; rintro e wz ⟨rfl, hz⟩; subst wz))
  all_goals
    clear hp hq
    go_wp2
    refine bodyPost_ret (v := _) (by simp [results, Tryd.results24, go_sem]) rfl ⟨rfl, ?_⟩
    exact Below.drewN ((Below.refl _ _).alloc (Nat.le_refl _) _) 1

theorem refOf_out (n : Int) (h : ¬ (1 ≤ n ∧ n ≤ 75)) (w : World) :
    Calls Tryd.prog 24 #[.int .i64 n] w fun e w' => e = .returned (.tuple #[.agg #[.string ⟨#[]⟩, .int .i64 0, .int .i64 0], .int .i64 3]) ∧ Below w.heap.size w w' := by
  have hor : (decide (n < 1) || decide (75 < n)) = true := by simp; omega
  by_cases h1 : n < 1
  · clear h hor
    go_enter Tryd.func24, Tryd.ntmps24
    go_wp2
    refine bodyPost_ret (v := _) (by simp [results, Tryd.results24, go_sem]) rfl ⟨rfl, ?_⟩
    exact (Below.refl _ _).alloc (Nat.le_refl _) _
  · have h2 : 75 < n := by omega
    clear h hor
    go_enter Tryd.func24, Tryd.ntmps24
    go_wp2
    refine bodyPost_ret (v := _) (by simp [results, Tryd.results24, go_sem]) rfl ⟨rfl, ?_⟩
    exact (Below.refl _ _).alloc (Nat.le_refl _) _

end Go.Proofs.YtpgkjfjooogfmaaDoor
