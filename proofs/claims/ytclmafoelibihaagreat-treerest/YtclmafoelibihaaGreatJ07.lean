/- Texts joined: OpSpec, InfoOf6, Of6, Fits6. -/
import Derived.Test.YtclmafoelibihaaGreatRows
import Derived.Test.YtclmafoelibihaaGreatJ01
import Derived.Lib.Strings
/- What instructions are, by definition: the document's table. -/
namespace Go.Proofs.YtclmafoelibihaaGreat
set_option linter.unusedVariables false
set_option linter.unusedSimpArgs false
open Go.RowKit

/-- Of each its name, operand and way. -/
def opsT : List (List UInt8 × Int × Int) := [
  ([110, 111, 112], 0, 0),
  ([108, 100, 97, 114, 103], 4, 0),
  ([115, 116, 97, 114, 103], 4, 0),
  ([108, 100, 97, 114, 103, 97], 4, 0),
  ([108, 100, 108, 111, 99], 3, 0),
  ([115, 116, 108, 111, 99], 3, 0),
  ([108, 100, 108, 111, 99, 97], 3, 0),
  ([108, 100, 99, 52], 1, 0),
  ([108, 100, 99, 56], 2, 0),
  ([108, 100, 110, 117, 108, 108], 0, 0),
  ([100, 117, 112], 0, 0),
  ([112, 111, 112], 0, 0),
  ([97, 100, 100], 0, 0),
  ([115, 117, 98], 0, 0),
  ([109, 117, 108], 0, 0),
  ([100, 105, 118], 0, 0),
  ([114, 101, 109], 0, 0),
  ([97, 110, 100], 0, 0),
  ([111, 114], 0, 0),
  ([120, 111, 114], 0, 0),
  ([115, 104, 108], 0, 0),
  ([115, 104, 114], 0, 0),
  ([110, 101, 103], 0, 0),
  ([110, 111, 116], 0, 0),
  ([97, 100, 100, 111, 118, 102], 0, 0),
  ([115, 117, 98, 111, 118, 102], 0, 0),
  ([109, 117, 108, 111, 118, 102], 0, 0),
  ([99, 111, 110, 118, 52], 0, 0),
  ([99, 111, 110, 118, 56], 0, 0),
  ([99, 111, 110, 118, 111, 118, 102, 52], 0, 0),
  ([99, 101, 113], 0, 0),
  ([99, 103, 116], 0, 0),
  ([99, 108, 116], 0, 0),
  ([98, 114], 5, 1),
  ([98, 114, 116, 114, 117, 101], 5, 2),
  ([98, 114, 102, 97, 108, 115, 101], 5, 2),
  ([98, 101, 113], 5, 2),
  ([98, 103, 101], 5, 2),
  ([98, 103, 116], 5, 2),
  ([98, 108, 101], 5, 2),
  ([98, 108, 116], 5, 2),
  ([98, 110, 101], 5, 2),
  ([99, 97, 108, 108], 6, 0),
  ([99, 97, 108, 108, 118, 105, 114, 116], 6, 0),
  ([110, 101, 119, 111, 98, 106], 6, 0),
  ([114, 101, 116], 0, 3),
  ([116, 97, 105, 108], 0, 0),
  ([108, 100, 102, 108, 100], 7, 0),
  ([115, 116, 102, 108, 100], 7, 0),
  ([108, 100, 102, 108, 100, 97], 7, 0),
  ([108, 100, 115, 102, 108, 100], 7, 0),
  ([115, 116, 115, 102, 108, 100], 7, 0),
  ([108, 100, 115, 102, 108, 100, 97], 7, 0),
  ([108, 100, 111, 98, 106], 8, 0),
  ([115, 116, 111, 98, 106], 8, 0),
  ([105, 110, 105, 116, 111, 98, 106], 8, 0),
  ([110, 101, 119, 97, 114, 114], 8, 0),
  ([108, 100, 108, 101, 110], 0, 0),
  ([108, 100, 101, 108, 101, 109], 8, 0),
  ([115, 116, 101, 108, 101, 109], 8, 0),
  ([108, 100, 101, 108, 101, 109, 97], 8, 0),
  ([98, 111, 120], 8, 0),
  ([117, 110, 98, 111, 120], 8, 0),
  ([117, 110, 98, 111, 120, 97, 110, 121], 8, 0),
  ([99, 97, 115, 116, 99, 108, 97, 115, 115], 8, 0),
  ([105, 115, 105, 110, 115, 116], 8, 0),
  ([108, 100, 102, 116, 110], 6, 0),
  ([110, 101, 119, 100, 101, 108], 8, 0),
  ([116, 104, 114, 111, 119], 0, 3),
  ([114, 101, 116, 104, 114, 111, 119], 0, 3),
  ([108, 101, 97, 118, 101], 5, 4),
  ([101, 110, 100, 102, 105, 110, 97, 108, 108, 121], 0, 5),
  ([101, 110, 100, 102, 105, 108, 116, 101, 114], 0, 5),
  ([105, 110], 0, 0),
  ([111, 117, 116], 0, 0)]

/-- The n-th; none, if there is no such one. -/
def opI (n : Int) : List UInt8 × Int × Int := if 1 ≤ n ∧ n ≤ 75 then opsT.getD (n - 1).toNat ([], 0, 0) else ([], 0, 0)
def opS (n : Int) : ByteArray := ⟨(opI n).1.toArray⟩
def opP (n : Int) : Int := (opI n).2.1
def opW (n : Int) : Int := (opI n).2.2
theorem opI_out {n : Int} (h : ¬ (1 ≤ n ∧ n ≤ 75)) : opI n = ([], 0, 0) := by unfold opI; rw [if_neg h]
theorem opS_out {n : Int} (h : ¬ (1 ≤ n ∧ n ≤ 75)) : opS n = ⟨#[]⟩ := by unfold opS; rw [opI_out h]
theorem opP_out {n : Int} (h : ¬ (1 ≤ n ∧ n ≤ 75)) : opP n = 0 := by unfold opP; rw [opI_out h]
theorem opW_out {n : Int} (h : ¬ (1 ≤ n ∧ n ≤ 75)) : opW n = 0 := by unfold opW; rw [opI_out h]

theorem ret_info {a b : ByteArray} {c d e f : Int} (h : a = b) (g : c = d) (i : e = f) : Ending.returned (.agg #[.string a, .int .i64 c, .int .i64 e]) = .returned (.agg #[.string b, .int .i64 d, .int .i64 f]) := by rw [h, g, i]

end Go.Proofs.YtclmafoelibihaaGreat

/- The code's switch of all, part by part. -/
namespace Go.Proofs.YtclmafoelibihaaGreat
set_option linter.unusedVariables false
set_option linter.unusedSimpArgs false
open Go.RowKit

set_option maxHeartbeats 8000000 in
theorem infoStack_any (n : Int) (hn : n ≤ 12) (w : World) :
    Calls Tryz.prog 195 #[.int .i64 n] w fun e w' => e = .returned (.agg #[.string (opS n), .int .i64 (opP n), .int .i64 (opW n)]) ∧ Below w.heap.size w w' := by
  go_enter Tryz.func195, Tryz.ntmps195
  go_wp2
  all_goals
    refine bodyPost_ret (v := _) (by simp [results, Tryz.results195, go_sem]; rfl) rfl ⟨?_, ?_⟩
    · simp only [beq_iff_eq, beq_eq_false_iff_ne, ne_eq] at *
      first
        | (subst n; rfl)
        | (have ho : ¬ (1 ≤ n ∧ n ≤ 75) := by omega
           exact ret_info (opS_out ho).symm (opP_out ho).symm (opW_out ho).symm)
    · exact (Below.refl _ _).alloc (Nat.le_refl _) _

set_option maxHeartbeats 8000000 in
theorem infoNumbers_any (n : Int) (h1 : 12 < n) (h2 : n ≤ 33) (w : World) :
    Calls Tryz.prog 196 #[.int .i64 n] w fun e w' => e = .returned (.agg #[.string (opS n), .int .i64 (opP n), .int .i64 (opW n)]) ∧ Below w.heap.size w w' := by
  go_enter Tryz.func196, Tryz.ntmps196
  go_wp2
  all_goals
    refine bodyPost_ret (v := _) (by simp [results, Tryz.results196, go_sem]; rfl) rfl ⟨?_, ?_⟩
    · simp only [beq_iff_eq, beq_eq_false_iff_ne, ne_eq] at *
      first
        | (subst n; rfl)
        | (have ho : ¬ (1 ≤ n ∧ n ≤ 75) := by omega
           exact ret_info (opS_out ho).symm (opP_out ho).symm (opW_out ho).symm)
    · exact (Below.refl _ _).alloc (Nat.le_refl _) _

set_option maxHeartbeats 8000000 in
theorem infoCalls_any (n : Int) (h1 : 33 < n) (h2 : n ≤ 47) (w : World) :
    Calls Tryz.prog 197 #[.int .i64 n] w fun e w' => e = .returned (.agg #[.string (opS n), .int .i64 (opP n), .int .i64 (opW n)]) ∧ Below w.heap.size w w' := by
  go_enter Tryz.func197, Tryz.ntmps197
  go_wp2
  all_goals
    refine bodyPost_ret (v := _) (by simp [results, Tryz.results197, go_sem]; rfl) rfl ⟨?_, ?_⟩
    · simp only [beq_iff_eq, beq_eq_false_iff_ne, ne_eq] at *
      first
        | (subst n; rfl)
        | (have ho : ¬ (1 ≤ n ∧ n ≤ 75) := by omega
           exact ret_info (opS_out ho).symm (opP_out ho).symm (opW_out ho).symm)
    · exact (Below.refl _ _).alloc (Nat.le_refl _) _

set_option maxHeartbeats 8000000 in
theorem infoMemory_any (n : Int) (h1 : 47 < n) (h2 : n ≤ 66) (w : World) :
    Calls Tryz.prog 198 #[.int .i64 n] w fun e w' => e = .returned (.agg #[.string (opS n), .int .i64 (opP n), .int .i64 (opW n)]) ∧ Below w.heap.size w w' := by
  go_enter Tryz.func198, Tryz.ntmps198
  go_wp2
  all_goals
    refine bodyPost_ret (v := _) (by simp [results, Tryz.results198, go_sem]; rfl) rfl ⟨?_, ?_⟩
    · simp only [beq_iff_eq, beq_eq_false_iff_ne, ne_eq] at *
      first
        | (subst n; rfl)
        | (have ho : ¬ (1 ≤ n ∧ n ≤ 75) := by omega
           exact ret_info (opS_out ho).symm (opP_out ho).symm (opW_out ho).symm)
    · exact (Below.refl _ _).alloc (Nat.le_refl _) _

set_option maxHeartbeats 8000000 in
theorem infoRest_any (n : Int) (h1 : 66 < n) (w : World) :
    Calls Tryz.prog 199 #[.int .i64 n] w fun e w' => e = .returned (.agg #[.string (opS n), .int .i64 (opP n), .int .i64 (opW n)]) ∧ Below w.heap.size w w' := by
  go_enter Tryz.func199, Tryz.ntmps199
  go_wp2
  all_goals
    refine bodyPost_ret (v := _) (by simp [results, Tryz.results199, go_sem]; rfl) rfl ⟨?_, ?_⟩
    · simp only [beq_iff_eq, beq_eq_false_iff_ne, ne_eq] at *
      first
        | (subst n; rfl)
        | (have ho : ¬ (1 ≤ n ∧ n ≤ 75) := by omega
           exact ret_info (opS_out ho).symm (opP_out ho).symm (opW_out ho).symm)
    · exact (Below.refl _ _).alloc (Nat.le_refl _) _

end Go.Proofs.YtclmafoelibihaaGreat

/- The code's switch of all as a whole; Of, Many. -/
namespace Go.Proofs.YtclmafoelibihaaGreat
set_option linter.unusedVariables false
set_option linter.unusedSimpArgs false
open Go.RowKit

set_option maxHeartbeats 1000000 in
theorem infoOf_any (n : Int) (w : World) :
    Calls Tryz.prog 175 #[.int .i64 n] w fun e w' => e = .returned (.agg #[.string (opS n), .int .i64 (opP n), .int .i64 (opW n)]) ∧ Below w.heap.size w w' := by
  have hall : n ≤ 12 ∨ (12 < n ∧ n ≤ 33) ∨ (33 < n ∧ n ≤ 47) ∨ (47 < n ∧ n ≤ 66) ∨ 66 < n := by omega
  have hb0 : Below w.heap.size w (w.alloc (.cells #[.string ⟨#[]⟩, .int .i64 0, .int .i64 0] 140)) := (Below.refl _ _).alloc (Nat.le_refl _) _
  have hA0 := At.made w #[.string ⟨#[]⟩, .int .i64 0, .int .i64 0] 140
  rcases hall with h | ⟨h0, h⟩ | ⟨h0, h⟩ | ⟨h0, h⟩ | h
  · go_enter Tryz.func175, Tryz.ntmps175
    go_wp2_with fail
    refine (infoStack_any n h _).mono ?_
    rintro e w1 ⟨rfl, hb⟩
    have hA := hA0.later hb
    have tc := hA.cell
    have tm := hA.melt
    have HF := (hA.set3 (.string (opS n)) (.int .i64 (opP n)) (.int .i64 (opW n))).cell
    have HB := below_set3 (hb0.trans (hb.mono hb0.size)) (Nat.le_refl w.heap.size) (.string (opS n)) (.int .i64 (opP n)) (.int .i64 (opW n))
    clear hb hb0 hA hA0
    go_wp2
    exact bodyPost_ret (v := .agg #[.string (opS n), .int .i64 (opP n), .int .i64 (opW n)]) (by simp [results, Tryz.results175, go_sem, HF]) rfl ⟨rfl, HB⟩
  · go_enter Tryz.func175, Tryz.ntmps175
    go_wp2_with fail
    refine (infoNumbers_any n h0 h _).mono ?_
    rintro e w1 ⟨rfl, hb⟩
    have hA := hA0.later hb
    have tc := hA.cell
    have tm := hA.melt
    have HF := (hA.set3 (.string (opS n)) (.int .i64 (opP n)) (.int .i64 (opW n))).cell
    have HB := below_set3 (hb0.trans (hb.mono hb0.size)) (Nat.le_refl w.heap.size) (.string (opS n)) (.int .i64 (opP n)) (.int .i64 (opW n))
    clear hb hb0 hA hA0
    go_wp2
    exact bodyPost_ret (v := .agg #[.string (opS n), .int .i64 (opP n), .int .i64 (opW n)]) (by simp [results, Tryz.results175, go_sem, HF]) rfl ⟨rfl, HB⟩
  · go_enter Tryz.func175, Tryz.ntmps175
    go_wp2_with fail
    refine (infoCalls_any n h0 h _).mono ?_
    rintro e w1 ⟨rfl, hb⟩
    have hA := hA0.later hb
    have tc := hA.cell
    have tm := hA.melt
    have HF := (hA.set3 (.string (opS n)) (.int .i64 (opP n)) (.int .i64 (opW n))).cell
    have HB := below_set3 (hb0.trans (hb.mono hb0.size)) (Nat.le_refl w.heap.size) (.string (opS n)) (.int .i64 (opP n)) (.int .i64 (opW n))
    clear hb hb0 hA hA0
    go_wp2
    exact bodyPost_ret (v := .agg #[.string (opS n), .int .i64 (opP n), .int .i64 (opW n)]) (by simp [results, Tryz.results175, go_sem, HF]) rfl ⟨rfl, HB⟩
  · go_enter Tryz.func175, Tryz.ntmps175
    go_wp2_with fail
    refine (infoMemory_any n h0 h _).mono ?_
    rintro e w1 ⟨rfl, hb⟩
    have hA := hA0.later hb
    have tc := hA.cell
    have tm := hA.melt
    have HF := (hA.set3 (.string (opS n)) (.int .i64 (opP n)) (.int .i64 (opW n))).cell
    have HB := below_set3 (hb0.trans (hb.mono hb0.size)) (Nat.le_refl w.heap.size) (.string (opS n)) (.int .i64 (opP n)) (.int .i64 (opW n))
    clear hb hb0 hA hA0
    go_wp2
    exact bodyPost_ret (v := .agg #[.string (opS n), .int .i64 (opP n), .int .i64 (opW n)]) (by simp [results, Tryz.results175, go_sem, HF]) rfl ⟨rfl, HB⟩
  · go_enter Tryz.func175, Tryz.ntmps175
    go_wp2_with fail
    refine (infoRest_any n h _).mono ?_
    rintro e w1 ⟨rfl, hb⟩
    have hA := hA0.later hb
    have tc := hA.cell
    have tm := hA.melt
    have HF := (hA.set3 (.string (opS n)) (.int .i64 (opP n)) (.int .i64 (opW n))).cell
    have HB := below_set3 (hb0.trans (hb.mono hb0.size)) (Nat.le_refl w.heap.size) (.string (opS n)) (.int .i64 (opP n)) (.int .i64 (opW n))
    clear hb hb0 hA hA0
    go_wp2
    exact bodyPost_ret (v := .agg #[.string (opS n), .int .i64 (opP n), .int .i64 (opW n)]) (by simp [results, Tryz.results175, go_sem, HF]) rfl ⟨rfl, HB⟩

theorem opS_ne {n : Int} (h : 1 ≤ n ∧ n ≤ 75) : opS n ≠ ⟨#[]⟩ := by
  have hall : ∀ k : Nat, k < 75 → (opI ((k : Int) + 1)).1 ≠ [] := by decide +kernel
  have := hall (n - 1).toNat (by omega)
  rw [show (((n - 1).toNat : Int) + 1) = n by omega] at this
  intro e
  apply this
  have := congrArg (fun b => b.data.toList) e
  simpa [opS] using this

theorem opS_full {n : Int} (h : 1 ≤ n ∧ n ≤ 75) : (opS n).toList.isEmpty = false := by
  have hne := opS_ne h
  rw [Lib.toList_data]
  cases e : (opS n).data.toList with
  | nil => exact absurd (by cases hs : opS n with | mk d => rw [hs] at e; simp at e; rw [e]) hne
  | cons _ _ => rfl
theorem empty_full : (⟨#[]⟩ : ByteArray).toList.isEmpty = true := by rw [Lib.toList_data]; rfl

set_option maxHeartbeats 1000000 in
theorem of_in (n : Int) (h1 : 1 ≤ n) (h2 : n ≤ 75) (w : World) :
    Calls Tryz.prog 156 #[.int .i64 n] w fun e w' => e = .returned (.tuple #[.agg #[.string (opS n), .int .i64 (opP n), .int .i64 (opW n)], .int .i64 0]) ∧ Below w.heap.size w w' := by
  have hb0 : Below w.heap.size w (w.alloc (.cells #[.string ⟨#[]⟩, .int .i64 0, .int .i64 0] 140)) := (Below.refl _ _).alloc (Nat.le_refl _) _
  have hA0 := At.made w #[.string ⟨#[]⟩, .int .i64 0, .int .i64 0] 140
  have hq := opS_full ⟨h1, h2⟩
  go_enter Tryz.func156, Tryz.ntmps156
  go_wp2_with fail
  refine (infoOf_any n _).mono ?_
  rintro e w1 ⟨rfl, hb⟩
  have hA := hA0.later hb
  have hbx : Below w1.heap.size w1 (w1.alloc (.cells #[.string (opS n), .int .i64 (opP n), .int .i64 (opW n)] 140)) := (Below.refl _ _).alloc (Nat.le_refl _) _
  have hA2 := hA.later hbx
  have hX := At.made w1 #[.string (opS n), .int .i64 (opP n), .int .i64 (opW n)] 140
  have hB := (hb0.trans (hb.mono hb0.size)).trans (hbx.mono (hb0.trans (hb.mono hb0.size)).size)
  have tc := hA2.cell
  have tm := hA2.melt
  have xc := hX.cell
  have HF := (hA2.set3 (.string (opS n)) (.int .i64 (opP n)) (.int .i64 (opW n))).cell
  have HB := below_set3 hB (Nat.le_refl w.heap.size) (.string (opS n)) (.int .i64 (opP n)) (.int .i64 (opW n))
  clear hb hb0 hA hA0 hbx hA2 hX hB
  go_wp2
  exact bodyPost_ret (v := .tuple #[.agg #[.string (opS n), .int .i64 (opP n), .int .i64 (opW n)], .int .i64 0]) (by simp [results, Tryz.results156, go_sem, HF]) rfl ⟨rfl, HB⟩

set_option maxHeartbeats 1000000 in
theorem of_out (n : Int) (h : ¬ (1 ≤ n ∧ n ≤ 75)) (w : World) :
    Calls Tryz.prog 156 #[.int .i64 n] w fun e w' => e = .returned (.tuple #[.agg #[.string ⟨#[]⟩, .int .i64 0, .int .i64 0], .int .i64 3]) ∧ Below w.heap.size w w' := by
  have hb0 : Below w.heap.size w (w.alloc (.cells #[.string ⟨#[]⟩, .int .i64 0, .int .i64 0] 140)) := (Below.refl _ _).alloc (Nat.le_refl _) _
  have hA0 := At.made w #[.string ⟨#[]⟩, .int .i64 0, .int .i64 0] 140
  have hq := empty_full
  have HI := infoOf_any n (w.alloc (.cells #[.string ⟨#[]⟩, .int .i64 0, .int .i64 0] 140))
  rw [opS_out h, opP_out h, opW_out h] at HI
  clear h
  go_enter Tryz.func156, Tryz.ntmps156
  go_wp2_with fail
  refine Calls.mono HI ?_
  rintro e w1 ⟨rfl, hb⟩
  have hA := hA0.later hb
  have hbx : Below w1.heap.size w1 (w1.alloc (.cells #[.string ⟨#[]⟩, .int .i64 0, .int .i64 0] 140)) := (Below.refl _ _).alloc (Nat.le_refl _) _
  have hA2 := hA.later hbx
  have hX := At.made w1 #[.string ⟨#[]⟩, .int .i64 0, .int .i64 0] 140
  have hB := (hb0.trans (hb.mono hb0.size)).trans (hbx.mono (hb0.trans (hb.mono hb0.size)).size)
  have tc := hA2.cell
  have tm := hA2.melt
  have xc := hX.cell
  have HF := (hA2.set3 (.string ⟨#[]⟩) (.int .i64 0) (.int .i64 0)).cell
  have HB := below_set3 hB (Nat.le_refl w.heap.size) (.string ⟨#[]⟩) (.int .i64 0) (.int .i64 0)
  clear hb hb0 hA hA0 hbx hA2 hX hB HI
  go_wp2
  exact bodyPost_ret (v := .tuple #[.agg #[.string ⟨#[]⟩, .int .i64 0, .int .i64 0], .int .i64 3]) (by simp [results, Tryz.results156, go_sem, HF]) rfl ⟨rfl, HB⟩

end Go.Proofs.YtclmafoelibihaaGreat

/- What operands fit: bounds, isOperand, operandFits; Most of the references. -/
namespace Go.Proofs.YtclmafoelibihaaGreat
set_option linter.unusedVariables false
set_option linter.unusedSimpArgs false
open Go.RowKit

/-- The least and the greatest number that an operand may be. -/
def bLo (p : Int) : Int := if p = 1 then -2147483648 else if p = 2 then -9223372036854775808 else 0
def bHi (p : Int) : Int := if p = 1 then 2147483647 else if p = 2 then 9223372036854775807 else if p = 3 then 11 else if p = 4 then 6 else if p = 5 then 159 else if p = 6 then 63 else if p = 7 then 63 else 0
def zeroB (k i d : Int) (r : Bool) : Bool := k == 0 && i == 0 && d == 0 && !r
def fitB (p n k i d : Int) (r : Bool) : Bool := decide (bLo p ≤ n) && decide (n ≤ bHi p) && if p = 8 then mayB 1 k i d r else zeroB k i d r

theorem bounds_any (p : Int) (w : World) :
    Calls Tryz.prog 177 #[.int .i64 p] w fun e w' => e = .returned (.tuple #[.int .i64 (bLo p), .int .i64 (bHi p)]) ∧ w' = w := by
  go_enter Tryz.func177, Tryz.ntmps177
  go_wp2
  all_goals (go_ret2; exact ⟨ret_int2 (by (try simp only [beq_iff_eq, beq_eq_false_iff_ne, ne_eq] at *); simp [bLo, *]) (by (try simp only [beq_iff_eq, beq_eq_false_iff_ne, ne_eq] at *); simp [bHi, *]), rfl⟩)

theorem most_any (p : Int) (w : World) :
    Calls Tryz.prog 166 #[.int .i64 p] w fun e w' => e = .returned (.tuple #[.int .i64 (bHi p), .int .i64 (bLo p)]) ∧ w' = w := by
  go_enter Tryz.func166, Tryz.ntmps166
  go_wp2
  all_goals (go_ret2; exact ⟨ret_int2 (by (try simp only [beq_iff_eq, beq_eq_false_iff_ne, ne_eq] at *); simp [bHi, *]) (by (try simp only [beq_iff_eq, beq_eq_false_iff_ne, ne_eq] at *); simp [bLo, *]), rfl⟩)

theorem isOperand_any (k i d : Int) (r : Bool) (w : World) :
    Calls Tryz.prog 176 #[.agg #[.int .i64 k, .int .i64 i, .int .i64 d, .bool r]] w fun e w' => e = .returned (.bool (mayB 1 k i d r)) ∧ Below w.heap.size w w' := by
  go_enter Tryz.func176, Tryz.ntmps176
  go_wp2_with fail
  refine (plain_any k i d r _).mono ?_
  rintro e w1 ⟨rfl, hb⟩
  have hB := below_box hb
  obtain ⟨hc, hf⟩ := bcell hb
  clear hb
  go_wp2
  all_goals go_ret
  all_goals refine ⟨ret_bool ?_, hB⟩
  all_goals simp [mayB, *]

/-- Two types compared. -/
theorem eq_ty (W : World) (k i d k' i' d' : Int) (r r' : Bool) : (binOp .eql 44 (.agg #[.int .i64 k, .int .i64 i, .int .i64 d, .bool r]) (.agg #[.int .i64 k', .int .i64 i', .int .i64 d', .bool r'])).run Tryz.prog W = .ok (.bool (k == k' && i == i' && d == d' && r == r')) W := by
  simp [go_sem]
  cases h1 : (k == k') <;> cases h2 : (i == i') <;> cases h3 : (d == d') <;> cases h4 : (r == r') <;> simp_all [go_sem]

set_option maxHeartbeats 1000000 in
theorem operandFits_any (p n k i d : Int) (r : Bool) (w : World) :
    Calls Tryz.prog 157 #[.int .i64 p, .int .i64 n, .agg #[.int .i64 k, .int .i64 i, .int .i64 d, .bool r]] w fun e w' => e = .returned (.bool (fitB p n k i d r)) ∧ Below w.heap.size w w' := by
  have hz : ∀ W : World, (binOp .eql 44 (.agg #[.int .i64 k, .int .i64 i, .int .i64 d, .bool r]) (.agg #[.int .i64 0, .int .i64 0, .int .i64 0, .bool false])).run Tryz.prog W = .ok (.bool (zeroB k i d r)) W := fun W => by
    rw [eq_ty]; cases r <;> rfl
  have hb0 : Below w.heap.size w (w.alloc (.cells #[.int .i64 k, .int .i64 i, .int .i64 d, .bool r] 44)) := (Below.refl _ _).alloc (Nat.le_refl _) _
  have hA0 := At.made w #[.int .i64 k, .int .i64 i, .int .i64 d, .bool r] 44
  by_cases h8 : p = 8
  · subst h8
    have HF8 : Hid (fitB 8 n k i d r = (decide (n = 0) && mayB 1 k i d r)) := by
      show _ = _
      unfold fitB
      rw [if_pos rfl, show bLo 8 = 0 from rfl, show bHi 8 = 0 from rfl, show (decide (0 ≤ n) && decide (n ≤ 0)) = decide (n = 0) by rw [Bool.eq_iff_iff]; simp; omega]
    go_enter Tryz.func157, Tryz.ntmps157
    go_wp2_with fail
    refine (isOperand_any k i d r _).mono ?_
    rintro e w1 ⟨rfl, hb⟩
    have hA := hA0.later hb
    have hB := hb0.trans (hb.mono hb0.size)
    have tc := hA.cell
    have tm := hA.melt
    have HB := below_set4 hB (Nat.le_refl w.heap.size) (.int .i64 0) (.int .i64 0) (.int .i64 0) (.bool false)
    have HC := (hA.set4 (.int .i64 0) (.int .i64 0) (.int .i64 0) (.bool false)).cell
    clear hb hb0 hA hA0 hz
    cases hm : mayB 1 k i d r with
    | false =>
      go_wp2_with fail
      go_ret
      exact ⟨ret_bool (by rw [HF8.out, hm]; simp), hB⟩
    | true =>
      go_wp2_with fail
      all_goals go_ret
      all_goals refine ⟨ret_bool ?_, HB⟩
      all_goals rw [HF8.out, hm]
      all_goals simp [*]
  · have h8' : (p == 8) = false := by simpa using h8
    have HF : Hid (fitB p n k i d r = (decide (bLo p ≤ n) && decide (n ≤ bHi p) && zeroB k i d r)) := by show _ = _; unfold fitB; rw [if_neg h8]
    clear h8 hA0
    by_cases h0 : p = 0
    · subst h0
      have HF0 : Hid (fitB 0 n k i d r = (decide (n = 0) && zeroB k i d r)) := by
        show _ = _
        rw [HF.out, show bLo 0 = 0 from rfl, show bHi 0 = 0 from rfl, show (decide (0 ≤ n) && decide (n ≤ 0)) = decide (n = 0) by rw [Bool.eq_iff_iff]; simp; omega]
      clear HF
      go_enter Tryz.func157, Tryz.ntmps157
      go_wp2_with fail
      all_goals go_ret
      all_goals refine ⟨ret_bool ?_, hb0⟩
      all_goals rw [HF0.out]
      all_goals simp_all
    · have h0' : (p == 0) = false := by simpa using h0
      clear h0
      go_enter Tryz.func157, Tryz.ntmps157
      go_wp2_with fail
      refine (bounds_any p _).mono ?_
      rintro e wz ⟨rfl, hw⟩
      subst wz
      cases hq : zeroB k i d r with
      | false =>
        go_wp2_with fail
        all_goals go_ret
        all_goals refine ⟨ret_bool ?_, hb0⟩
        all_goals rw [HF.out, hq]
        all_goals simp
      | true =>
        go_wp2_with fail
        all_goals go_ret
        all_goals refine ⟨ret_bool ?_, hb0⟩
        all_goals rw [HF.out, hq]
        all_goals (rw [Bool.eq_iff_iff]; simp; try omega)

/-- What Fits answers. -/
def fitE (op n k i d : Int) (r : Bool) : Int := if 1 ≤ op ∧ op ≤ 75 then if fitB (opP op) n k i d r = true then 0 else 17 else 3

set_option maxHeartbeats 1000000 in
theorem fits_any (op n k i d : Int) (r : Bool) (w : World) :
    Calls Tryz.prog 129 #[.agg #[.int .i64 op, .int .i64 n, .int .i64 k, .int .i64 i, .int .i64 d, .bool r]] w fun e w' => e = .returned (.int .i64 (fitE op n k i d r)) ∧ Below w.heap.size w w' := by
  have hb0 : Below w.heap.size w (w.alloc (.cells #[.int .i64 op, .int .i64 n, .int .i64 k, .int .i64 i, .int .i64 d, .bool r] 126)) := (Below.refl _ _).alloc (Nat.le_refl _) _
  have hA0 := At.made w #[.int .i64 op, .int .i64 n, .int .i64 k, .int .i64 i, .int .i64 d, .bool r] 126
  by_cases hin : 1 ≤ op ∧ op ≤ 75
  · have HE : Hid (fitE op n k i d r = if fitB (opP op) n k i d r = true then 0 else 17) := by show _ = _; unfold fitE; rw [if_pos hin]
    obtain ⟨h1, h2⟩ := hin
    go_enter Tryz.func129, Tryz.ntmps129
    go_wp2_with fail
    refine (of_in op h1 h2 _).mono ?_
    rintro e w1 ⟨rfl, hb⟩
    have hA := hA0.later hb
    have hB := hb0.trans (hb.mono hb0.size)
    have hbx : Below w1.heap.size w1 (w1.alloc (.cells #[.string (opS op), .int .i64 (opP op), .int .i64 (opW op)] 140)) := (Below.refl _ _).alloc (Nat.le_refl _) _
    have hA2 := hA.later hbx
    have hB2 := hB.trans (hbx.mono hB.size)
    have hX := At.made w1 #[.string (opS op), .int .i64 (opP op), .int .i64 (opW op)] 140
    have tc := hA2.cell
    have xc := hX.cell
    clear hb hb0 hA hA0 hB hbx hA2 hX
    go_wp2_with fail
    refine (operandFits_any (opP op) n k i d r _).mono ?_
    rintro e w2 ⟨rfl, hb⟩
    have hB3 := hB2.trans (hb.mono hB2.size)
    clear hb hB2 tc xc
    cases hq : fitB (opP op) n k i d r with
    | false =>
      go_wp2_with fail
      go_ret
      exact ⟨ret_int (by rw [HE.out, hq]; rfl), hB3⟩
    | true =>
      go_wp2_with fail
      go_ret
      exact ⟨ret_int (by rw [HE.out, hq]; rfl), hB3⟩
  · have HE : Hid (fitE op n k i d r = 3) := by show _ = _; unfold fitE; rw [if_neg hin]
    go_enter Tryz.func129, Tryz.ntmps129
    go_wp2_with fail
    refine (of_out op hin _).mono ?_
    rintro e w1 ⟨rfl, hb⟩
    have hB := hb0.trans (hb.mono hb0.size)
    have hbx : Below w1.heap.size w1 (w1.alloc (.cells #[.string ⟨#[]⟩, .int .i64 0, .int .i64 0] 140)) := (Below.refl _ _).alloc (Nat.le_refl _) _
    have hB2 := hB.trans (hbx.mono hB.size)
    clear hb hb0 hA0 hB hbx
    go_wp2_with fail
    go_ret
    exact ⟨ret_int HE.out.symm, hB2⟩

end Go.Proofs.YtclmafoelibihaaGreat
