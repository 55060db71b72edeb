
/- Fine of the pool, and of the references: a name has 1 to 24 bytes from 33 to 126. -/
import Derived.Test.YtlcfbnbbdpgjiaaRows
import Derived.Test.YtlcfbnbbdpgjiaaMem
import Derived.Test.YtlcfbnbbdpgjiaaLeaf
import Derived.Deep.QuietTactic
import Derived.BigQuiet
namespace Go.Proofs.Ytlcfbnbbdpgjiaa
set_option linter.unusedVariables false
set_option linter.unusedSimpArgs false
open Go.RowKit

def okB (b : UInt8) : Bool := decide (33 ≤ b.toNat) && decide (b.toNat ≤ 126)
def fineB (l : List UInt8) : Bool := decide (1 ≤ l.length) && decide (l.length ≤ 24) && l.all okB

theorem toList_len (s : ByteArray) : s.data.toList.length = s.size := Array.length_toList
theorem fine_no {s : ByteArray} (h : s.size < 1 ∨ 24 < s.size) : fineB s.data.toList = false := by
  unfold fineB; rw [toList_len]
  rcases h with h | h
  · have : decide (1 ≤ s.size) = false := decide_eq_false (by omega)
    rw [this]; rfl
  · have : decide (s.size ≤ 24) = false := decide_eq_false (by omega)
    rw [this]; simp

theorem fine_short (s : ByteArray) (w : World) (h : s.size < 1) :
    Calls Try.prog 17 #[.string s] w fun e w' => e = .returned (.bool (fineB s.data.toList)) ∧ w' = w := by
  have hf : Hid (fineB s.data.toList = false) := fine_no (.inl h)
  go_enter Try.func17, Try.ntmps17
  go_wp2
  go_ret
  exact ⟨ret_bool hf.out.symm, rfl⟩

theorem fine_long (s : ByteArray) (w : World) (h : 24 < s.size) :
    Calls Try.prog 17 #[.string s] w fun e w' => e = .returned (.bool (fineB s.data.toList)) ∧ w' = w := by
  have hf : Hid (fineB s.data.toList = false) := fine_no (.inr h)
  go_enter Try.func17, Try.ntmps17
  go_wp2
  go_ret
  exact ⟨ret_bool hf.out.symm, rfl⟩

theorem str_get (s : ByteArray) (k : Nat) (h : k < s.size) : s.data.toList[k]'(by rw [toList_len]; exact h) = s[k] := by simp; rfl
theorem take_str_succ (s : ByteArray) (k : Nat) (h : k < s.size) : s.data.toList.take (k + 1) = s.data.toList.take k ++ [s[k]] := by
  rw [List.take_succ_eq_append_getElem (by rw [toList_len]; exact h), str_get s k h]
theorem ok_yes {s : ByteArray} {k : Nat} (h : k < s.size) (ht : (s.data.toList.take k).all okB = true) (a : 33 ≤ s[k].toNat) (b : s[k].toNat ≤ 126) : (s.data.toList.take (k + 1)).all okB = true := by
  rw [take_str_succ s k h, List.all_append, ht]; simp [okB, a, b]
theorem ok_no {s : ByteArray} {k : Nat} (h : k < s.size) (a : ¬ (33 ≤ s[k].toNat ∧ s[k].toNat ≤ 126)) : fineB s.data.toList = false := by
  have : s.data.toList.all okB = false := by
    rw [List.all_eq_false]
    refine ⟨s[k], ?_, ?_⟩
    · rw [← str_get s k h]; exact List.getElem_mem _
    · simp only [okB, Bool.and_eq_true, decide_eq_true_eq]; exact a
  unfold fineB; rw [this, Bool.and_false]
theorem ok_all {s : ByteArray} (ht : (s.data.toList.take s.size).all okB = true) : s.data.toList.all okB = true := by
  rwa [List.take_of_length_le (by rw [toList_len]; exact Nat.le_refl _)] at ht

theorem fine_in (s : ByteArray) (w : World) (h1 : 1 ≤ s.size) (h2 : s.size ≤ 24) :
    Calls Try.prog 17 #[.string s] w fun e w' => e = .returned (.bool (fineB s.data.toList)) ∧ w' = w := by
  go_enter Try.func17, Try.ntmps17
  go_wp2
  go_loopw [14] (fun i wr => ∃ k : Nat, k ≤ s.size ∧ i = .int .i64 k ∧ wr = w ∧ (s.data.toList.take k).all okB = true) (fun i _ => s.size - (intOf i).toNat)
  case atStart => exact ⟨0, Nat.zero_le _, rfl, rfl, by simp⟩
  case round =>
    obtain ⟨k, hk, rfl, rfl, ht⟩ := hrel
    have HT : Hid ((s.data.toList.take k).all okB = true) := ht
    clear ht
    by_cases hlt : k < s.size
    · by_cases hb : 33 ≤ s[k].toNat ∧ s[k].toNat ≤ 126
      · obtain ⟨b1, b2⟩ := hb
        go_wp2
        go_roundw
        case rel => exact ⟨k + 1, by omega, by go_num, by simp, ok_yes hlt HT.out b1 b2⟩
        case measure => simp [intOf]; omega
      · have HF : Hid (fineB s.data.toList = false) := ok_no hlt hb
        by_cases c1 : s[k].toNat < 33
        · clear hb
          go_wp2
          go_ret
          exact ⟨ret_bool HF.out.symm, rfl⟩
        · have c2 : 126 < s[k].toNat := by omega
          clear hb
          go_wp2
          go_ret
          exact ⟨ret_bool HF.out.symm, rfl⟩
    · have e : k = s.size := by omega
      subst e
      have HF : Hid (fineB s.data.toList = true) := by
        show _ = _
        unfold fineB; rw [toList_len, ok_all HT.out]; simp; omega
      go_wp2
      go_ret
      exact ⟨ret_bool HF.out.symm, rfl⟩

/-- Fine of the pool, of any text. -/
theorem fine_any (s : ByteArray) (w : World) :
    Calls Try.prog 17 #[.string s] w fun e w' => e = .returned (.bool (fineB s.data.toList)) ∧ w' = w := by
  by_cases h1 : s.size < 1
  · exact fine_short s w h1
  · by_cases h2 : 24 < s.size
    · exact fine_long s w h2
    · exact fine_in s w (by omega) (by omega)

/-- Fine of the references, of any text. -/
theorem refFine_any (s : ByteArray) (hs : s.size ≤ 140737488355328) (w : World) :
    Calls Try.prog 18 #[.string s] w fun e w' => e = .returned (.bool (fineB s.data.toList)) ∧ w' = w := by
  go_enter Try.func18, Try.ntmps18
  go_wp2
  go_loopw [3] (fun i wr => ∃ k : Nat, k ≤ s.size ∧ i = .int .i64 k ∧ wr = w ∧ (s.data.toList.take k).all okB = true) (fun i _ => s.size - (intOf i).toNat)
  case atStart => exact ⟨0, Nat.zero_le _, rfl, rfl, by simp⟩
  case round =>
    obtain ⟨k, hk, rfl, rfl, ht⟩ := hrel
    have HT : Hid ((s.data.toList.take k).all okB = true) := ht
    clear ht
    by_cases hlt : k < s.size
    · by_cases hb : 33 ≤ s[k].toNat ∧ s[k].toNat ≤ 126
      · obtain ⟨b1, b2⟩ := hb
        go_wp2
        go_roundw
        case rel => exact ⟨k + 1, by omega, by go_num, by simp, ok_yes hlt HT.out b1 b2⟩
        case measure => simp [intOf]; omega
      · have HF : Hid (fineB s.data.toList = false) := ok_no hlt hb
        by_cases c1 : s[k].toNat < 33
        · clear hb
          go_wp2
          go_ret
          exact ⟨ret_bool HF.out.symm, rfl⟩
        · have c2 : 126 < s[k].toNat := by omega
          clear hb
          go_wp2
          go_ret
          exact ⟨ret_bool HF.out.symm, rfl⟩
    · have e : k = s.size := by omega
      subst e
      by_cases c1 : 0 < s.size
      · by_cases c2 : s.size ≤ 24
        · have HF : Hid (fineB s.data.toList = true) := by
            show _ = _
            unfold fineB; rw [toList_len, ok_all HT.out]; simp; omega
          go_wp2
          go_ret
          exact ⟨ret_bool (by rw [HF.out]; simp; omega), rfl⟩
        · have HF : Hid (fineB s.data.toList = false) := fine_no (.inr (by omega))
          go_wp2
          go_ret
          exact ⟨ret_bool (by rw [HF.out]; simp; omega), rfl⟩
      · have HF : Hid (fineB s.data.toList = false) := fine_no (.inl (by omega))
        go_wp2
        go_ret
        exact ⟨ret_bool HF.out.symm, rfl⟩

end Go.Proofs.Ytlcfbnbbdpgjiaa
