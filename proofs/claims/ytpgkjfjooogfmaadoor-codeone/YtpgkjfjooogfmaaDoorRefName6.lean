
/- Name of the references. -/
import Derived.Test.YtpgkjfjooogfmaaDoorNamed6
import Derived.Laws.DeepStrings4
namespace Go.Proofs.YtpgkjfjooogfmaaDoor
set_option linter.unusedVariables false
set_option linter.unusedSimpArgs false
open Go.RowKit

/-- All names, a blank behind each. -/
def namesL : List UInt8 := [
  110, 111, 112, 32, 108, 100, 97, 114, 103, 32, 115, 116, 97, 114, 103, 32, 108, 100, 97, 114, 103, 97, 32, 108, 100, 108, 111, 99, 32, 115, 116, 108,
  111, 99, 32, 108, 100, 108, 111, 99, 97, 32, 108, 100, 99, 52, 32, 108, 100, 99, 56, 32, 108, 100, 110, 117, 108, 108, 32, 100, 117, 112, 32, 112,
  111, 112, 32, 97, 100, 100, 32, 115, 117, 98, 32, 109, 117, 108, 32, 100, 105, 118, 32, 114, 101, 109, 32, 97, 110, 100, 32, 111, 114, 32, 120, 111,
  114, 32, 115, 104, 108, 32, 115, 104, 114, 32, 110, 101, 103, 32, 110, 111, 116, 32, 97, 100, 100, 111, 118, 102, 32, 115, 117, 98, 111, 118, 102, 32,
  109, 117, 108, 111, 118, 102, 32, 99, 111, 110, 118, 52, 32, 99, 111, 110, 118, 56, 32, 99, 111, 110, 118, 111, 118, 102, 52, 32, 99, 101, 113, 32,
  99, 103, 116, 32, 99, 108, 116, 32, 98, 114, 32, 98, 114, 116, 114, 117, 101, 32, 98, 114, 102, 97, 108, 115, 101, 32, 98, 101, 113, 32, 98, 103, 101,
  32, 98, 103, 116, 32, 98, 108, 101, 32, 98, 108, 116, 32, 98, 110, 101, 32, 99, 97, 108, 108, 32, 99, 97, 108, 108, 118, 105, 114, 116, 32, 110, 101,
  119, 111, 98, 106, 32, 114, 101, 116, 32, 116, 97, 105, 108, 32, 108, 100, 102, 108, 100, 32, 115, 116, 102, 108, 100, 32, 108, 100, 102, 108, 100,
  97, 32, 108, 100, 115, 102, 108, 100, 32, 115, 116, 115, 102, 108, 100, 32, 108, 100, 115, 102, 108, 100, 97, 32, 108, 100, 111, 98, 106, 32, 115,
  116, 111, 98, 106, 32, 105, 110, 105, 116, 111, 98, 106, 32, 110, 101, 119, 97, 114, 114, 32, 108, 100, 108, 101, 110, 32, 108, 100, 101, 108, 101,
  109, 32, 115, 116, 101, 108, 101, 109, 32, 108, 100, 101, 108, 101, 109, 97, 32, 98, 111, 120, 32, 117, 110, 98, 111, 120, 32, 117, 110, 98, 111, 120,
  97, 110, 121, 32, 99, 97, 115, 116, 99, 108, 97, 115, 115, 32, 105, 115, 105, 110, 115, 116, 32, 108, 100, 102, 116, 110, 32, 110, 101, 119, 100, 101,
  108, 32, 116, 104, 114, 111, 119, 32, 114, 101, 116, 104, 114, 111, 119, 32, 108, 101, 97, 118, 101, 32, 101, 110, 100, 102, 105, 110, 97, 108, 108,
  121, 32, 101, 110, 100, 102, 105, 108, 116, 101, 114, 32, 105, 110, 32, 111, 117, 116, 32]
def namesB : ByteArray := ⟨namesL.toArray⟩
/-- What is left is right: the m-th name goes on with it, behind cur. -/
def chk : List UInt8 → Nat → List UInt8 → Bool
  | [], m, cur => m == 76
  | c :: l, m, cur => if c = 32 then (opI (m : Int)).1 == cur && decide (1 ≤ m ∧ m ≤ 75) && chk l (m + 1) [] else chk l m (cur ++ [c])
theorem names_chk : chk namesL 1 [] = true := by decide +kernel
theorem names_len : namesL.length = 433 := by decide +kernel
theorem namesB_get (k : Nat) (h : k < 433) (g : k < namesB.size) : namesB[k] = namesL[k]'(by rw [names_len]; exact h) := rfl
/-- From f up to k. -/
def nseg (f k : Nat) : List UInt8 := (namesL.drop f).take (k - f)
theorem nseg_next {f k : Nat} (hf : f ≤ k) (hk : k < 433) : nseg f (k + 1) = nseg f k ++ [namesL[k]'(by rw [names_len]; exact hk)] := by
  unfold nseg
  have hl := names_len
  rw [show k + 1 - f = (k - f) + 1 by omega, List.take_succ_eq_append_getElem (by simp; omega)]
  congr 2
  simp [show f + (k - f) = k by omega]
theorem nseg_nil (k : Nat) : nseg k k = [] := by simp [nseg]
theorem drop_next {k : Nat} (hk : k < 433) : namesL.drop k = (namesL[k]'(by rw [names_len]; exact hk)) :: namesL.drop (k + 1) := by
  rw [List.drop_eq_getElem_cons (by rw [names_len]; exact hk)]
theorem chk_space {k m : Nat} {cur : List UInt8} (hk : k < 433) (h : chk (namesL.drop k) m cur = true) (hc : (namesL[k]'(by rw [names_len]; exact hk)) = 32) : (opI (m : Int)).1 = cur ∧ 1 ≤ m ∧ m ≤ 75 ∧ chk (namesL.drop (k + 1)) (m + 1) [] = true := by
  rw [drop_next hk] at h
  unfold chk at h
  rw [if_pos hc] at h
  simp only [Bool.and_eq_true, beq_iff_eq, decide_eq_true_eq] at h
  exact ⟨h.1.1, h.1.2.1, h.1.2.2, h.2⟩
theorem chk_sign {k m : Nat} {cur : List UInt8} (hk : k < 433) (h : chk (namesL.drop k) m cur = true) (hc : ¬ (namesL[k]'(by rw [names_len]; exact hk)) = 32) : chk (namesL.drop (k + 1)) m (cur ++ [namesL[k]'(by rw [names_len]; exact hk)]) = true := by
  rw [drop_next hk] at h
  unfold chk at h
  rw [if_neg hc] at h
  exact h
theorem chk_end {m : Nat} {cur : List UInt8} (h : chk (namesL.drop 433) m cur = true) : m = 76 := by
  rw [List.drop_of_length_le (by rw [names_len]; exact Nat.le_refl _)] at h
  simpa [chk] using h

theorem names_yes {k : Nat} (hlt : k < 433) (g : k < namesB.size) (h : (((namesB[k]'g).toNat : Int) == 32) = true) : (namesL[k]'(by rw [names_len]; exact hlt)) = 32 := by
  rw [namesB_get k hlt g] at h
  exact UInt8.toNat_inj.1 (by simp at h ⊢; omega)
theorem names_no {k : Nat} (hlt : k < 433) (g : k < namesB.size) (h : (((namesB[k]'g).toNat : Int) == 32) = false) : ¬ (namesL[k]'(by rw [names_len]; exact hlt)) = 32 := by
  rw [namesB_get k hlt g] at h
  intro e
  rw [e] at h
  simp at h
theorem names_cut {f k m : Nat} (hf : f ≤ k) (h : (opI (m : Int)).1 = nseg f k) : namesB.extract f k = opS (m : Int) := by
  unfold opS
  rw [h]
  apply ByteArray.ext
  rw [ByteArray.data_extract]
  apply Array.ext'
  simp [namesB, nseg]
theorem ret_txt {a b : ByteArray} (h : a = b) : Ending.returned (.string a) = .returned (.string b) := by rw [h]

set_option maxHeartbeats 1000000 in
set_option maxRecDepth 1000000 in
theorem refOpName_any (n : Int) (w : World) :
    Calls Tryd.prog 38 #[.int .i64 n] w fun e w' => e = .returned (.string (opS n)) ∧ w' = w := by
  go_enter Tryd.func38, Tryd.ntmps38
  go_wp2_with fail
  go_loop [3, 4, 5] (fun m f i => ∃ k m' f' : Nat, k ≤ 433 ∧ i = .int .i64 (k : Int) ∧ m = .int .i64 (m' : Int) ∧ f = .int .i64 (f' : Int) ∧ f' ≤ k ∧ m' ≤ k + 1 ∧ Hid (chk (namesL.drop k) m' (nseg f' k) = true ∧ ¬ (1 ≤ n ∧ n < (m' : Int)))) (fun _ _ i => 433 - (intOf i).toNat)
  case atStart => exact ⟨0, 1, 0, by omega, by go_num, by go_num, by go_num, by omega, by omega, ⟨names_chk, by omega⟩⟩
  case round =>
    obtain ⟨k, m', f', hk, rfl, rfl, rfl, hf, hm, HC⟩ := hrel
    by_cases hlt : k < 433
    · have hkB : k < namesB.size := hlt
      by_cases hmn : (m' : Int) = n
      · subst hmn
        go_wp2_with fail
        · rename_i hs0 _ _ _
          have hsp := names_yes hlt hkB hs0
          clear hs0
          obtain ⟨c1, c2, c3, c4⟩ := chk_space hlt HC.out.1 hsp
          go_ret
          exact ⟨ret_txt (names_cut hf c1), rfl⟩
        · rename_i hs0
          have hsp := names_no hlt hkB hs0
          clear hs0
          go_round
          case rel => exact ⟨k + 1, m', f', by omega, by go_num, rfl, rfl, by omega, by omega, ⟨by rw [nseg_next hf hlt]; exact chk_sign hlt HC.out.1 hsp, HC.out.2⟩⟩
          case measure => simp [intOf]; omega
      · have hmn2 : ((m' : Int) == n) = false := by simpa using hmn
        have HN : Hid (¬ (1 ≤ n ∧ n < ((m' + 1 : Nat) : Int))) := by have := HC.out.2; show ¬ _; omega
        clear hmn
        go_wp2_with fail
        · rename_i hs0
          have hsp := names_yes hlt hkB hs0
          clear hs0
          obtain ⟨c1, c2, c3, c4⟩ := chk_space hlt HC.out.1 hsp
          go_round
          case rel => exact ⟨k + 1, m' + 1, k + 1, by omega, by go_num, by go_num, by go_num, by omega, by omega, ⟨by rw [nseg_nil]; exact c4, HN.out⟩⟩
          case measure => simp [intOf]; omega
        · rename_i hs0
          have hsp := names_no hlt hkB hs0
          clear hs0
          go_round
          case rel => exact ⟨k + 1, m', f', by omega, by go_num, rfl, rfl, by omega, by omega, ⟨by rw [nseg_next hf hlt]; exact chk_sign hlt HC.out.1 hsp, HC.out.2⟩⟩
          case measure => simp [intOf]; omega
    · have e : k = 433 := by omega
      subst e
      go_wp2_with fail
      go_ret
      have h76 := chk_end HC.out.1
      have := HC.out.2
      exact ⟨ret_txt (opS_out (by omega)).symm, rfl⟩

end Go.Proofs.YtpgkjfjooogfmaaDoor
