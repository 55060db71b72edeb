
/- Fine of the pool, and of the references: a name has 1 to 24 bytes from 33 to 126. -/
import Derived.Test.YtbfcdcdeohikpaaRows
import Derived.Test.YtbfcdcdeohikpaaMem
import Derived.Test.YtbfcdcdeohikpaaLeaf
import Derived.Deep.QuietTactic
import Derived.BigQuiet
namespace Go.Proofs.Ytbfcdcdeohikpaa
set_option linter.unusedVariables false
set_option linter.unusedSimpArgs false
open Go.RowKit

def okB (b : UInt8) : Bool := decide (33 ≤ b.toNat) && decide (b.toNat ≤ 126)
def fineB (l : List UInt8) : Bool := decide (1 ≤ l.length) && decide (l.length ≤ 24) && l.all okB

theorem toList_len (s : ByteArray) : s.data.toList.length = s.size := Array.length_toList
theorem fine_no {s : ByteArray} (h : s.size < 1 ∨ 24 < s.size) : fineB s.data.toList = false := by
  unfold fineB; rw [toList_len]
  rcases h with h | h
  · have : decide (1 ≤ s.size) = false := decide_eq_false (by omega)
    rw [this]; rfl
  · have : decide (s.size ≤ 24) = false := decide_eq_false (by omega)
    rw [this]; simp

theorem str_get (s : ByteArray) (k : Nat) (h : k < s.size) : s.data.toList[k]'(by rw [toList_len]; exact h) = s[k] := by simp; rfl
theorem take_str_succ (s : ByteArray) (k : Nat) (h : k < s.size) : s.data.toList.take (k + 1) = s.data.toList.take k ++ [s[k]] := by
  rw [List.take_succ_eq_append_getElem (by rw [toList_len]; exact h), str_get s k h]
theorem ok_yes {s : ByteArray} {k : Nat} (h : k < s.size) (ht : (s.data.toList.take k).all okB = true) (a : 33 ≤ s[k].toNat) (b : s[k].toNat ≤ 126) : (s.data.toList.take (k + 1)).all okB = true := by
  rw [take_str_succ s k h, List.all_append, ht]; simp [okB, a, b]
theorem ok_no {s : ByteArray} {k : Nat} (h : k < s.size) (a : ¬ (33 ≤ s[k].toNat ∧ s[k].toNat ≤ 126)) : fineB s.data.toList = false := by
  have : s.data.toList.all okB = false := by
    rw [List.all_eq_false]
    refine ⟨s[k], ?_, ?_⟩
    · rw [← str_get s k h]; exact List.getElem_mem _
    · simp only [okB, Bool.and_eq_true, decide_eq_true_eq]; exact a
  unfold fineB; rw [this, Bool.and_false]
theorem ok_all {s : ByteArray} (ht : (s.data.toList.take s.size).all okB = true) : s.data.toList.all okB = true := by
  rwa [List.take_of_length_le (by rw [toList_len]; exact Nat.le_refl _)] at ht

end Go.Proofs.Ytbfcdcdeohikpaa
