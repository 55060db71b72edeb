
/- OpsFits: the walk. -/
import Derived.Test.YtacegnomecagdaaWakes6
import Derived.Test.YtacegnomecagdaaRefFits6
import Derived.Test.YtacegnomecagdaaOpenT
namespace Go.Proofs.Ytacegnomecagdaa
set_option linter.unusedVariables false
set_option linter.unusedSimpArgs false
open Go.RowKit

set_option maxHeartbeats 4000000 in
theorem opsFits_walk (v : Value) (x : Ins) (w : World) (hv : v = iv x) :
    Calls Try.prog 5 #[v] w fun e w' => e = .returned (.bool true) ∧ Below w.heap.size w w' := by
  subst hv
  obtain ⟨op, n, k, i, d, r⟩ := x
  unfold iv
  simp only
  have hb0 : Below w.heap.size w (w.alloc (.cells #[.int .i64 op, .int .i64 n, .int .i64 k, .int .i64 i, .int .i64 d, .bool r] 39)) := (Below.refl _ _).alloc (Nat.le_refl _) _
  have hT0 := At.made w #[.int .i64 op, .int .i64 n, .int .i64 k, .int .i64 i, .int .i64 d, .bool r] 39
  have HKP : Hid (∀ W, At W w.heap.size #[.int .i64 op, .int .i64 n, .int .i64 k, .int .i64 i, .int .i64 d, .bool r] 39 → W.cell? ⟨w.heap.size, 0, none⟩ = some (.int .i64 op) ∧ W.cell? ⟨w.heap.size, 1, none⟩ = some (.int .i64 n) ∧ W.cell? ⟨w.heap.size, 2, none⟩ = some (.int .i64 k) ∧ W.cell? ⟨w.heap.size, 3, none⟩ = some (.int .i64 i) ∧ W.cell? ⟨w.heap.size, 4, none⟩ = some (.int .i64 d) ∧ W.cell? ⟨w.heap.size, 5, none⟩ = some (.bool r)) := fun W hW => by
    simp [hW.cell]
  go_enter Try.func5, Try.ntmps5
  go_wp2_with fail
  go_region_held3 (fun w' => w'.cell? ⟨w.heap.size, 0, none⟩ = some (.int .i64 op) ∧ w'.cell? ⟨w.heap.size, 1, none⟩ = some (.int .i64 n) ∧ w'.cell? ⟨w.heap.size, 2, none⟩ = some (.int .i64 k) ∧ w'.cell? ⟨w.heap.size, 3, none⟩ = some (.int .i64 i) ∧ w'.cell? ⟨w.heap.size, 4, none⟩ = some (.int .i64 d) ∧ w'.cell? ⟨w.heap.size, 5, none⟩ = some (.bool r)) (first | go_keep | (exact HKP.out _ hA1) | (exact HKP.out _ hA2) | (exact HKP.out _ hA3))
    (first
      | (go_at_call 8; refine (wakes6_any _).mono ?_; rintro e w1 ⟨rfl, hb1⟩; have hA1 := (hT0.drewN 1).later hb1)
      | (go_at_call 13; refine (fits_any op n k i d r _).mono ?_; rintro e w2 ⟨rfl, hb2⟩; have hA2 := hA1.later hb2)
      | (go_at_call 14; refine (refFits6_any op n k i d r _).mono ?_; rintro e w3 ⟨rfl, hb3⟩; have hA3 := hA2.later hb3))
  rename_i hheld
  clear hheld
  have hz1 := hb1.size
  simp at hz1
  have hz2 := hb2.size
  have hB3 : Below w.heap.size w w3 := (Below.drewN hb0 1).trans ((hb1.mono (by simp)).trans ((hb2.mono (by omega)).trans (hb3.mono (by omega))))
  clear hb0 hT0 hA1 hA2 hb1 hb2 hb3 hz1 hz2 HKP hA3
  go_wp2
  go_ret
  exact ⟨ret_bool (by simp), hB3⟩

end Go.Proofs.Ytacegnomecagdaa
