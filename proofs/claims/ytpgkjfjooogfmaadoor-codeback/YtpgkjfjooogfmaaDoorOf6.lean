
/- The code's switch of all as a whole; Of, Many. -/
import Derived.Test.YtpgkjfjooogfmaaDoorCells
import Derived.Test.YtpgkjfjooogfmaaDoorInfoOf6
import Derived.Lib.Strings
namespace Go.Proofs.YtpgkjfjooogfmaaDoor
set_option linter.unusedVariables false
set_option linter.unusedSimpArgs false
open Go.RowKit

set_option maxHeartbeats 1000000 in
theorem infoOf_any (n : Int) (w : World) :
    Calls Tryd.prog 47 #[.int .i64 n] w fun e w' => e = .returned (.agg #[.string (opS n), .int .i64 (opP n), .int .i64 (opW n)]) ∧ Below w.heap.size w w' := by
  have hall : n ≤ 12 ∨ (12 < n ∧ n ≤ 33) ∨ (33 < n ∧ n ≤ 47) ∨ (47 < n ∧ n ≤ 66) ∨ 66 < n := by omega
  have hb0 : Below w.heap.size w (w.alloc (.cells #[.string ⟨#[]⟩, .int .i64 0, .int .i64 0] 59)) := (Below.refl _ _).alloc (Nat.le_refl _) _
  have hA0 := At.made w #[.string ⟨#[]⟩, .int .i64 0, .int .i64 0] 59
  rcases hall with h | ⟨h0, h⟩ | ⟨h0, h⟩ | ⟨h0, h⟩ | h
  · go_enter Tryd.func47, Tryd.ntmps47
    go_wp2_with fail
    refine (infoStack_any n h _).mono ?_
    rintro e w1 ⟨rfl, hb⟩
    have hA := hA0.later hb
    have tc := hA.cell
    have tm := hA.melt
    have HF := (hA.set3 (.string (opS n)) (.int .i64 (opP n)) (.int .i64 (opW n))).cell
    have HB := below_set3 (hb0.trans (hb.mono hb0.size)) (Nat.le_refl w.heap.size) (.string (opS n)) (.int .i64 (opP n)) (.int .i64 (opW n))
    clear hb hb0 hA hA0
    go_wp2
    exact bodyPost_ret (v := .agg #[.string (opS n), .int .i64 (opP n), .int .i64 (opW n)]) (by simp [results, Tryd.results47, go_sem, HF]) rfl ⟨rfl, HB⟩
  · go_enter Tryd.func47, Tryd.ntmps47
    go_wp2_with fail
    refine (infoNumbers_any n h0 h _).mono ?_
    rintro e w1 ⟨rfl, hb⟩
    have hA := hA0.later hb
    have tc := hA.cell
    have tm := hA.melt
    have HF := (hA.set3 (.string (opS n)) (.int .i64 (opP n)) (.int .i64 (opW n))).cell
    have HB := below_set3 (hb0.trans (hb.mono hb0.size)) (Nat.le_refl w.heap.size) (.string (opS n)) (.int .i64 (opP n)) (.int .i64 (opW n))
    clear hb hb0 hA hA0
    go_wp2
    exact bodyPost_ret (v := .agg #[.string (opS n), .int .i64 (opP n), .int .i64 (opW n)]) (by simp [results, Tryd.results47, go_sem, HF]) rfl ⟨rfl, HB⟩
  · go_enter Tryd.func47, Tryd.ntmps47
    go_wp2_with fail
    refine (infoCalls_any n h0 h _).mono ?_
    rintro e w1 ⟨rfl, hb⟩
    have hA := hA0.later hb
    have tc := hA.cell
    have tm := hA.melt
    have HF := (hA.set3 (.string (opS n)) (.int .i64 (opP n)) (.int .i64 (opW n))).cell
    have HB := below_set3 (hb0.trans (hb.mono hb0.size)) (Nat.le_refl w.heap.size) (.string (opS n)) (.int .i64 (opP n)) (.int .i64 (opW n))
    clear hb hb0 hA hA0
    go_wp2
    exact bodyPost_ret (v := .agg #[.string (opS n), .int .i64 (opP n), .int .i64 (opW n)]) (by simp [results, Tryd.results47, go_sem, HF]) rfl ⟨rfl, HB⟩
  · go_enter Tryd.func47, Tryd.ntmps47
    go_wp2_with fail
    refine (infoMemory_any n h0 h _).mono ?_
    rintro e w1 ⟨rfl, hb⟩
    have hA := hA0.later hb
    have tc := hA.cell
    have tm := hA.melt
    have HF := (hA.set3 (.string (opS n)) (.int .i64 (opP n)) (.int .i64 (opW n))).cell
    have HB := below_set3 (hb0.trans (hb.mono hb0.size)) (Nat.le_refl w.heap.size) (.string (opS n)) (.int .i64 (opP n)) (.int .i64 (opW n))
    clear hb hb0 hA hA0
    go_wp2
    exact bodyPost_ret (v := .agg #[.string (opS n), .int .i64 (opP n), .int .i64 (opW n)]) (by simp [results, Tryd.results47, go_sem, HF]) rfl ⟨rfl, HB⟩
  · go_enter Tryd.func47, Tryd.ntmps47
    go_wp2_with fail
    refine (infoRest_any n h _).mono ?_
    rintro e w1 ⟨rfl, hb⟩
    have hA := hA0.later hb
    have tc := hA.cell
    have tm := hA.melt
    have HF := (hA.set3 (.string (opS n)) (.int .i64 (opP n)) (.int .i64 (opW n))).cell
    have HB := below_set3 (hb0.trans (hb.mono hb0.size)) (Nat.le_refl w.heap.size) (.string (opS n)) (.int .i64 (opP n)) (.int .i64 (opW n))
    clear hb hb0 hA hA0
    go_wp2
    exact bodyPost_ret (v := .agg #[.string (opS n), .int .i64 (opP n), .int .i64 (opW n)]) (by simp [results, Tryd.results47, go_sem, HF]) rfl ⟨rfl, HB⟩

theorem opS_ne {n : Int} (h : 1 ≤ n ∧ n ≤ 75) : opS n ≠ ⟨#[]⟩ := by
  have hall : ∀ k : Nat, k < 75 → (opI ((k : Int) + 1)).1 ≠ [] := by decide +kernel
  have := hall (n - 1).toNat (by omega)
  rw [show (((n - 1).toNat : Int) + 1) = n by omega] at this
  intro e
  apply this
  have := congrArg (fun b => b.data.toList) e
  simpa [opS] using this

theorem opS_full {n : Int} (h : 1 ≤ n ∧ n ≤ 75) : (opS n).toList.isEmpty = false := by
  have hne := opS_ne h
  rw [Lib.toList_data]
  cases e : (opS n).data.toList with
  | nil => exact absurd (by cases hs : opS n with | mk d => rw [hs] at e; simp at e; rw [e]) hne
  | cons _ _ => rfl
theorem empty_full : (⟨#[]⟩ : ByteArray).toList.isEmpty = true := by rw [Lib.toList_data]; rfl

set_option maxHeartbeats 1000000 in
theorem of_in (n : Int) (h1 : 1 ≤ n) (h2 : n ≤ 75) (w : World) :
    Calls Tryd.prog 30 #[.int .i64 n] w fun e w' => e = .returned (.tuple #[.agg #[.string (opS n), .int .i64 (opP n), .int .i64 (opW n)], .int .i64 0]) ∧ Below w.heap.size w w' := by
  have hb0 : Below w.heap.size w (w.alloc (.cells #[.string ⟨#[]⟩, .int .i64 0, .int .i64 0] 59)) := (Below.refl _ _).alloc (Nat.le_refl _) _
  have hA0 := At.made w #[.string ⟨#[]⟩, .int .i64 0, .int .i64 0] 59
  have hq := opS_full ⟨h1, h2⟩
  go_enter Tryd.func30, Tryd.ntmps30
  go_wp2_with fail
  refine (infoOf_any n _).mono ?_
  rintro e w1 ⟨rfl, hb⟩
  have hA := hA0.later hb
  have hbx : Below w1.heap.size w1 (w1.alloc (.cells #[.string (opS n), .int .i64 (opP n), .int .i64 (opW n)] 59)) := (Below.refl _ _).alloc (Nat.le_refl _) _
  have hA2 := hA.later hbx
  have hX := At.made w1 #[.string (opS n), .int .i64 (opP n), .int .i64 (opW n)] 59
  have hB := (hb0.trans (hb.mono hb0.size)).trans (hbx.mono (hb0.trans (hb.mono hb0.size)).size)
  have tc := hA2.cell
  have tm := hA2.melt
  have xc := hX.cell
  have HF := (hA2.set3 (.string (opS n)) (.int .i64 (opP n)) (.int .i64 (opW n))).cell
  have HB := below_set3 hB (Nat.le_refl w.heap.size) (.string (opS n)) (.int .i64 (opP n)) (.int .i64 (opW n))
  clear hb hb0 hA hA0 hbx hA2 hX hB
  go_wp2
  exact bodyPost_ret (v := .tuple #[.agg #[.string (opS n), .int .i64 (opP n), .int .i64 (opW n)], .int .i64 0]) (by simp [results, Tryd.results30, go_sem, HF]) rfl ⟨rfl, HB⟩

set_option maxHeartbeats 1000000 in
theorem of_out (n : Int) (h : ¬ (1 ≤ n ∧ n ≤ 75)) (w : World) :
    Calls Tryd.prog 30 #[.int .i64 n] w fun e w' => e = .returned (.tuple #[.agg #[.string ⟨#[]⟩, .int .i64 0, .int .i64 0], .int .i64 3]) ∧ Below w.heap.size w w' := by
  have hb0 : Below w.heap.size w (w.alloc (.cells #[.string ⟨#[]⟩, .int .i64 0, .int .i64 0] 59)) := (Below.refl _ _).alloc (Nat.le_refl _) _
  have hA0 := At.made w #[.string ⟨#[]⟩, .int .i64 0, .int .i64 0] 59
  have hq := empty_full
  have HI := infoOf_any n (w.alloc (.cells #[.string ⟨#[]⟩, .int .i64 0, .int .i64 0] 59))
  rw [opS_out h, opP_out h, opW_out h] at HI
  clear h
  go_enter Tryd.func30, Tryd.ntmps30
  go_wp2_with fail
  refine Calls.mono HI ?_
  rintro e w1 ⟨rfl, hb⟩
  have hA := hA0.later hb
  have hbx : Below w1.heap.size w1 (w1.alloc (.cells #[.string ⟨#[]⟩, .int .i64 0, .int .i64 0] 59)) := (Below.refl _ _).alloc (Nat.le_refl _) _
  have hA2 := hA.later hbx
  have hX := At.made w1 #[.string ⟨#[]⟩, .int .i64 0, .int .i64 0] 59
  have hB := (hb0.trans (hb.mono hb0.size)).trans (hbx.mono (hb0.trans (hb.mono hb0.size)).size)
  have tc := hA2.cell
  have tm := hA2.melt
  have xc := hX.cell
  have HF := (hA2.set3 (.string ⟨#[]⟩) (.int .i64 0) (.int .i64 0)).cell
  have HB := below_set3 hB (Nat.le_refl w.heap.size) (.string ⟨#[]⟩) (.int .i64 0) (.int .i64 0)
  clear hb hb0 hA hA0 hbx hA2 hX hB HI
  go_wp2
  exact bodyPost_ret (v := .tuple #[.agg #[.string ⟨#[]⟩, .int .i64 0, .int .i64 0], .int .i64 3]) (by simp [results, Tryd.results30, go_sem, HF]) rfl ⟨rfl, HB⟩

end Go.Proofs.YtpgkjfjooogfmaaDoor
