
/- A table's signs gone through one by one; fits of a row. -/
import Derived.Test.YtjmjpdamhondkaaCodes4
import Derived.Test.YtjmjpdamhondkaaNest
import Derived.Test.YtjmjpdamhondkaaInts
import Derived.Lib.OthersKept
import Derived.Deep.QuietTactic
import Derived.BigQuiet
namespace Go.Proofs.Ytjmjpdamhondkaa
set_option linter.unusedVariables false
set_option linter.unusedSimpArgs false
open Go.RowKit

theorem sg_len (t : Nat) : (sgL (t : Int)).length = colsR t := by
  have h := sgB_size (t : Int)
  rw [colsI_nat] at h
  have e : (sgB (t : Int)).size = (sgL (t : Int)).length := by simp [sgB, ByteArray.size]
  omega
theorem sg_size (t : Nat) : (sgB (t : Int)).size = colsR t := by
  have h := sgB_size (t : Int)
  rw [colsI_nat] at h
  omega

theorem sg_all : ∀ t, t < 6 → ∀ c, c < colsR t → ((sgL (t : Int)).getD c 0).toNat < 128 ∧ ∀ m, m < 4 → wdI (((sgL (t : Int)).getD c 0).toNat : Int) m = (widR t c m : Int) := by decide
/-- Each sign is a byte below 128, and tells how wide its column is. -/
theorem sg_at (t c : Nat) (h : c < (sgL (t : Int)).length) : (sgL (t : Int))[c].toNat < 128 ∧ ∀ m, m ≤ 3 → wdI ((sgL (t : Int))[c].toNat : Int) m = (widR t c m : Int) := by
  have hc := sg_len t
  by_cases ht : t < 6
  · obtain ⟨h1, h2⟩ := sg_all t ht c (by omega)
    have e : (sgL (t : Int)).getD c 0 = (sgL (t : Int))[c] := by simp [List.getD, List.getElem?_eq_getElem h]
    rw [e] at h1 h2
    exact ⟨h1, fun m hm => h2 m (by omega)⟩
  · have : colsR t = 0 := by
      unfold colsR; split <;> first | omega | rfl
    omega

section
variable {P : Program}
/-- The next sign. -/
theorem next_sign (w : World) (k t c : Nat) (hk : w.heap[k]? = some (.stringIter (sgB (t : Int)) c)) (hc : c < colsR t) :
    ∃ s : Int, (∀ m, m ≤ 3 → wdI s m = (widR t c m : Int)) ∧ ∀ ty, (Instr.next (.pointer (some ⟨k, 0, none⟩)) true ty).run P w = .ok (.tuple #[.bool true, .int .i64 (c : Int), .int .i32 s]) (w.iterAt k (sgB (t : Int)) (c + 1)) := by
  have hl : c < (sgL (t : Int)).length := by rw [sg_len]; exact hc
  have hs : c < (sgB (t : Int)).size := by rw [sg_size]; exact hc
  obtain ⟨h1, h2⟩ := sg_at t c hl
  refine ⟨((sgL (t : Int))[c].toNat : Int), h2, fun ty => ?_⟩
  have he : ((sgB (t : Int))[c]'hs) = (sgL (t : Int))[c] := by simp [sgB]; rfl
  rw [Lib.run_next_ascii_at w k _ c ty hk hs (by rw [he]; exact h1), he]
theorem next_done (w : World) (k t c : Nat) (hk : w.heap[k]? = some (.stringIter (sgB (t : Int)) c)) (hc : ¬ c < colsR t) (ty : TypeId) :
    (Instr.next (.pointer (some ⟨k, 0, none⟩)) true ty).run P w = .ok (.tuple #[.bool false]) w :=
  Lib.run_next_end_at w k _ c ty hk (by rw [sg_size]; exact hc)
end

end Go.Proofs.Ytjmjpdamhondkaa
