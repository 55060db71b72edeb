
/- OpsPlaces: the walk. -/
import Derived.Test.YtacegnomecagdaaWakes6
namespace Go.Proofs.Ytacegnomecagdaa
set_option linter.unusedVariables false
set_option linter.unusedSimpArgs false
open Go.RowKit

theorem places_all : ∀ k : Nat, k < 75 → ((opW ((k : Int) + 1) = 1 ∨ opW ((k : Int) + 1) = 2 ∨ opW ((k : Int) + 1) = 4) ↔ opP ((k : Int) + 1) = 5) := by decide +kernel
theorem places_at {n : Int} (h1 : 1 ≤ n) (h2 : n ≤ 75) : (opW n = 1 ∨ opW n = 2 ∨ opW n = 4) ↔ opP n = 5 := by
  have := places_all (n - 1).toNat (by omega)
  rwa [show ((n - 1).toNat : Int) + 1 = n by omega] at this

set_option maxHeartbeats 1000000 in
theorem opsPlaces_walk (n : Int) (w : World) (hn : (Lit.int .i64 n).wf = true) :
    Calls Try.prog 7 #[.int .i64 n] w fun e w' => e = .returned (.bool true) ∧ Below w.heap.size w w' := by
  clear hn
  go_enter Try.func7, Try.ntmps7
  go_wp2_with fail
  refine (wakes6_any _).mono ?_
  rintro e w1 ⟨rfl, hb1⟩
  by_cases hin : 1 ≤ n ∧ n ≤ 75
  · obtain ⟨h1, h2⟩ := hin
    have HP : Hid ((opW n = 1 ∨ opW n = 2 ∨ opW n = 4) ↔ opP n = 5) := places_at h1 h2
    go_wp2_with fail
    refine (of_in n h1 h2 _).mono ?_
    rintro e w2 ⟨rfl, hb⟩
    have hbx : Below w2.heap.size w2 (w2.alloc (.cells #[.string (opS n), .int .i64 (opP n), .int .i64 (opW n)] 24)) := (Below.refl _ _).alloc (Nat.le_refl _) _
    have hB2 := hb1.trans (hb.mono hb1.size)
    have hB := hB2.trans (hbx.mono hB2.size)
    clear hb hb1 hbx hB2 h1 h2
    generalize opP n = p at *
    generalize opW n = q at *
    generalize opS n = s at *
    by_cases hp : p = 5
    · have hq := HP.out.2 hp
      subst hp
      clear HP
      rcases hq with rfl | rfl | rfl
      all_goals
        go_wp2_with fail
        go_ret
        exact ⟨rfl, hB⟩
    · have hp' : (p == 5) = false := by simpa using hp
      have h1 : (q == 1) = false := by rw [beq_eq_false_iff_ne]; intro e; exact hp (HP.out.1 (.inl e))
      have h2 : (q == 2) = false := by rw [beq_eq_false_iff_ne]; intro e; exact hp (HP.out.1 (.inr (.inl e)))
      have h4 : (q == 4) = false := by rw [beq_eq_false_iff_ne]; intro e; exact hp (HP.out.1 (.inr (.inr e)))
      clear HP hp
      go_wp2_with fail
      go_ret
      exact ⟨rfl, hB⟩
  · go_wp2_with fail
    refine (of_out n hin _).mono ?_
    rintro e w2 ⟨rfl, hb⟩
    have hbx : Below w2.heap.size w2 (w2.alloc (.cells #[.string ⟨#[]⟩, .int .i64 0, .int .i64 0] 24)) := (Below.refl _ _).alloc (Nat.le_refl _) _
    have hB2 := hb1.trans (hb.mono hb1.size)
    have hB := hB2.trans (hbx.mono hB2.size)
    clear hb hb1 hbx hB2 hin
    go_wp2_with fail
    go_ret
    exact ⟨rfl, hB⟩

end Go.Proofs.Ytacegnomecagdaa
