
/- OpsOf: the walk. -/
import Derived.Test.YtacegnomecagdaaWakes6
import Derived.Test.YtacegnomecagdaaRefFits6
namespace Go.Proofs.Ytacegnomecagdaa
set_option linter.unusedVariables false
set_option linter.unusedSimpArgs false
open Go.RowKit

set_option maxHeartbeats 1000000 in
theorem opsOf_walk (n : Int) (w : World) (hn : (Lit.int .i64 n).wf = true) :
    Calls Try.prog 3 #[.int .i64 n] w fun e w' => e = .returned (.bool true) ∧ Below w.heap.size w w' := by
  clear hn
  go_enter Try.func3, Try.ntmps3
  go_wp2_with fail
  refine (wakes6_any _).mono ?_
  rintro e w1 ⟨rfl, hb1⟩
  by_cases hin : 1 ≤ n ∧ n ≤ 75
  · obtain ⟨h1, h2⟩ := hin
    have HI : Hid (nmI (opS n) = n ∧ nmE (opS n) = 0) := by
      have h := nmF_op h1 h2
      exact ⟨by unfold nmI; rw [h]; simp only; omega, by unfold nmE; rw [h]⟩
    go_wp2_with fail
    refine (of_in n h1 h2 _).mono ?_
    rintro e w2 ⟨rfl, hb⟩
    have hbx : Below w2.heap.size w2 (w2.alloc (.cells #[.string (opS n), .int .i64 (opP n), .int .i64 (opW n)] 24)) := (Below.refl _ _).alloc (Nat.le_refl _) _
    have hX := At.made w2 #[.string (opS n), .int .i64 (opP n), .int .i64 (opW n)] 24
    have hB2 := hb1.trans (hb.mono hb1.size)
    have hB := hB2.trans (hbx.mono hB2.size)
    clear hb hb1 hbx hB2
    go_wp2_with fail
    refine (refOf_at n h1 h2 _).mono ?_
    rintro e w3 ⟨rfl, hb⟩
    have hX3 := hX.later hb
    have hB3 := hB.trans (hb.mono hB.size)
    have hby : Below w3.heap.size w3 (w3.alloc (.cells #[.string (opS n), .int .i64 (opP n), .int .i64 (opW n)] 24)) := (Below.refl _ _).alloc (Nat.le_refl _) _
    have hX4 := hX3.later hby
    have hY := At.made w3 #[.string (opS n), .int .i64 (opP n), .int .i64 (opW n)] 24
    have hB4 := hB3.trans (hby.mono hB3.size)
    have xc := hX4.cell
    have yc := hY.cell
    clear hb hB hX hX3 hB3 hby
    go_wp2_with fail
    refine (named_any (opS n) _).mono ?_
    rintro e w5 ⟨rfl, hb⟩
    rw [HI.out.1, HI.out.2]
    have hB5 := hB4.trans (hb.mono hB4.size)
    clear hb hB4 xc yc hX4 hY
    go_wp2_with fail
    go_ret
    exact ⟨rfl, hB5⟩
  · go_wp2_with fail
    refine (of_out n hin _).mono ?_
    rintro e w2 ⟨rfl, hb⟩
    have hbx : Below w2.heap.size w2 (w2.alloc (.cells #[.string ⟨#[]⟩, .int .i64 0, .int .i64 0] 24)) := (Below.refl _ _).alloc (Nat.le_refl _) _
    have hX := At.made w2 #[.string ⟨#[]⟩, .int .i64 0, .int .i64 0] 24
    have hB2 := hb1.trans (hb.mono hb1.size)
    have hB := hB2.trans (hbx.mono hB2.size)
    clear hb hb1 hbx hB2
    go_wp2_with fail
    refine (refOf_out n hin _).mono ?_
    rintro e w3 ⟨rfl, hb⟩
    have hX3 := hX.later hb
    have hB3 := hB.trans (hb.mono hB.size)
    have hby : Below w3.heap.size w3 (w3.alloc (.cells #[.string ⟨#[]⟩, .int .i64 0, .int .i64 0] 24)) := (Below.refl _ _).alloc (Nat.le_refl _) _
    have hX4 := hX3.later hby
    have hY := At.made w3 #[.string ⟨#[]⟩, .int .i64 0, .int .i64 0] 24
    have hB4 := hB3.trans (hby.mono hB3.size)
    have xc := hX4.cell
    have yc := hY.cell
    clear hb hB hX hX3 hB3 hby hin
    go_wp2_with fail
    go_ret
    exact ⟨rfl, hB4⟩

end Go.Proofs.Ytacegnomecagdaa
