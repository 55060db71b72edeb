
/- Num of the references, and Take of the reader. -/
import Derived.Test.YtjmjpdamhondkaaRows
import Derived.Test.YtjmjpdamhondkaaPackMath
import Derived.Test.YtjmjpdamhondkaaAppend
namespace Go.Proofs.Ytjmjpdamhondkaa
set_option linter.unusedVariables false
set_option linter.unusedSimpArgs false
open Go.RowKit

theorem leN_seg_step (bs : List UInt8) (at_ k m : Nat) (h : at_ + k < bs.length) : leN (seg bs (at_ + k) (m + 1)) = 256 * leN (seg bs (at_ + k + 1) m) + bs[at_ + k].toNat := by
  rw [seg_cons bs (at_ + k) m h]; simp [leN]; omega

set_option maxRecDepth 100000 in
set_option maxHeartbeats 1000000 in
theorem refNum_any {v : Value} {bs : List UInt8} {w : World} (hv : Bs w v bs) (at_ n : Nat) (hn1 : 1 ≤ n) (hn8 : n ≤ 8) (hn : at_ + n ≤ bs.length) :
    Calls Try.prog 28 #[v, .int .i64 (at_ : Int), .int .i64 (n : Int)] w fun e w' => e = .returned (.int .u64 (leN (seg bs at_ n) : Int)) ∧ w' = w := by
  obtain ⟨a, cap, rfl, h1, h2, h3⟩ := hv
  obtain ⟨b, off, rfl, hbl, hc⟩ := h3 (by intro e; subst e; simp at hn; omega)
  clear h3
  unfold maxLen at h2
  have HC : Hid (∀ i (h : i < bs.length), w.cell? ⟨b, off + i, none⟩ = some (.int .u8 (bs[i].toNat : Int))) := hc
  clear hc
  go_enter Try.func28, Try.ntmps28
  go_wp2
  go_loop [7, 8] (fun x i => ∃ k : Nat, k ≤ n ∧ i = .int .i64 ((k : Int) - 1) ∧ x = .int .u64 (leN (seg bs (at_ + k) (n - k)) : Int)) (fun _ i => (intOf i + 1).toNat)
  case atStart => exact ⟨n, Nat.le_refl _, rfl, by simp [seg_zero, leN]⟩
  case round =>
    obtain ⟨k, hk, rfl, rfl⟩ := hrel
    by_cases hk0 : 0 < k
    · obtain ⟨j, rfl⟩ : ∃ j, k = j + 1 := ⟨k - 1, by omega⟩
      have hcell := HC.out (at_ + j) (by omega)
      have hb2 := bs[at_ + j].toNat_lt
      have HS : Hid (leN (seg bs (at_ + j) (n - j)) = 256 * leN (seg bs (at_ + (j + 1)) (n - (j + 1))) + bs[at_ + j].toNat) := by
        show _ = _
        have := leN_seg_step bs at_ j (n - (j + 1)) (by omega)
        rw [show n - (j + 1) + 1 = n - j by omega] at this
        exact this
      have hx := leN_lt (seg bs (at_ + (j + 1)) (n - (j + 1)))
      rw [seg_length bs _ _ (by omega)] at hx
      have hx2 : leN (seg bs (at_ + (j + 1)) (n - (j + 1))) < 256 ^ 7 := Nat.lt_of_lt_of_le hx (Nat.pow_le_pow_right (by omega) (by omega))
      clear hx
      generalize bs[at_ + j].toNat = c at *
      generalize leN (seg bs (at_ + (j + 1)) (n - (j + 1))) = x at *
      have hj : ((j + 1 : Nat) : Int) - 1 = (j : Int) := by omega
      rw [hj]
      clear hj
      go_wp2
      go_round
      case rel => exact ⟨j, by omega, rfl, by rw [HS.out]; go_num⟩
      case measure => simp [intOf]
    · have hkk : k = 0 := by omega
      subst hkk
      go_wp2
      go_ret
      exact ⟨by simp, rfl⟩

end Go.Proofs.Ytjmjpdamhondkaa
