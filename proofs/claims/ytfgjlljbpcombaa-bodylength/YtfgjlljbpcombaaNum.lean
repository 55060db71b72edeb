
/- Num of the reader: the number of so many bytes, the lowest first. -/
import Derived.Test.YtfgjlljbpcombaaRows
import Derived.Test.YtfgjlljbpcombaaReader
import Derived.Test.YtfgjlljbpcombaaArith
import Derived.Test.YtfgjlljbpcombaaAppend
namespace Go.Proofs.Ytfgjlljbpcombaa
set_option linter.unusedVariables false
set_option linter.unusedSimpArgs false
open Go.RowKit

/-- The number that bytes tell, the lowest first. -/
def leN : List UInt8 → Nat
  | [] => 0
  | b :: r => b.toNat + 256 * leN r

theorem leN_snoc (l : List UInt8) (b : UInt8) : leN (l ++ [b]) = leN l + 256 ^ l.length * b.toNat := by
  induction l with
  | nil => simp [leN]
  | cons a r ih => simp [leN, ih, Nat.pow_succ]; rw [Nat.mul_add, ← Nat.mul_assoc, Nat.mul_comm 256 (256 ^ r.length)]; omega

theorem leN_lt (l : List UInt8) : leN l < 256 ^ l.length := by
  induction l with
  | nil => simp [leN]
  | cons a r ih => have := a.toNat_lt; simp [leN, Nat.pow_succ]; omega

theorem seg_succ (bs : List UInt8) (at_ k : Nat) (h : at_ + k < bs.length) : seg bs at_ (k + 1) = seg bs at_ k ++ [bs[at_ + k]] := by
  unfold seg
  rw [List.take_succ_eq_append_getElem (by simp; omega)]
  simp

set_option maxHeartbeats 400000 in
theorem num_yes {w : World} {rb : Nat} {bs : List UInt8} {at_ : Nat} (h : RdAt w rb bs at_) (n : Nat) (hw : wideB n = true) (hn8 : n ≤ 8) (hn : at_ + n ≤ bs.length) (hn0 : 0 < n) :
    Calls Try.prog 44 #[.pointer (some ⟨rb, 0, none⟩), .int .i64 (n : Int)] w fun e w' => e = .returned (.tuple #[.int .u64 (leN (seg bs at_ n) : Int), .int .i64 0]) ∧ RdAt w' rb bs (at_ + n) ∧ Only rb w w' := by
  obtain ⟨a, cap, c0, c1, f1, l1, l2, hb⟩ := h.cells
  have hle := h.le
  have hsm := h.small
  rcases hb with hb | ⟨b, off, rfl, hlt, hne, hc⟩
  · subst hb; simp at hn; omega
  have G : Hid (∀ k, RdAt ((w.setCell ⟨rb, 1, none⟩ (.int .i64 ((at_ + n : Nat) : Int))).drewN k) rb bs (at_ + n)) := fun k => (h.go n hn).drewN k
  have HC : Hid (∀ i (h : i < bs.length), w.cell? ⟨b, off + i, none⟩ = some (.int .u8 (bs[i].toNat : Int))) := hc
  clear hc
  have L := fun (wx : World) (hx : ∃ m, wx = w.drewN m) => left_any (show RdAt wx rb bs at_ by obtain ⟨m, rfl⟩ := hx; exact h.drewN m)
  have HL : Hid (∀ (wx : World) (hx : ∃ m, wx = w.drewN m), Calls Try.prog 47 #[.pointer (some ⟨rb, 0, none⟩)] wx fun e w' => e = .returned (.int .i64 ((bs.length : Int) - at_)) ∧ ∃ n, w' = wx.drewN n) := L
  clear L h
  go_enter Try.func44, Try.ntmps44
  go_wp2_with (first | (go_at_call 43; refine (isWidth_any _ _).mono ?_; rintro e wz ⟨rfl, hz⟩; subst wz) | (go_at_call 47; refine (HL.out _ ⟨0, rfl⟩).mono ?_; rintro e w' ⟨rfl, nq, rfl⟩))
  go_loopw [6, 18] (fun x i wr => ∃ k m : Nat, k ≤ n ∧ i = .int .i64 k ∧ wr = w.drewN m ∧ x = .int .u64 (leN (seg bs at_ k) : Int)) (fun _ i _ => n - (intOf i).toNat)
  case atStart => exact ⟨0, _, Nat.zero_le _, rfl, rfl, by simp [seg, leN]⟩
  case round =>
    obtain ⟨k, m, hk, rfl, rfl, rfl⟩ := hrel
    by_cases hkn : k < n
    · have hcell := HC.out (at_ + k) (by omega)
      have hbl := bs[at_ + k].toNat_lt
      have hx := leN_lt (seg bs at_ k)
      rw [seg_length bs at_ k (by omega)] at hx
      have HS : Hid (leN (seg bs at_ (k + 1)) = leN (seg bs at_ k) + 256 ^ k * bs[at_ + k].toNat) := by
        show _ = _
        rw [seg_succ bs at_ k (by omega), leN_snoc, seg_length bs at_ k (by omega)]
      generalize bs[at_ + k].toNat = c at *
      generalize leN (seg bs at_ k) = x at *
      have HO : Hid (bits .or .u64 (x : Int) (IntKind.u64.wrap ((c : Int) * 2 ^ (8 * k))) = ((x + 256 ^ k * c : Nat) : Int)) := or_step x c k hx (by omega) (by omega)
      clear hx
      go_wp2
      go_quiet (fail)
      go_wp2
      go_roundw
      case rel => exact ⟨k + 1, m + nq, by omega, by go_num, rfl, by rw [HO.out, HS.out]⟩
      case measure => simp [intOf]; omega
    · have hkk : k = n := by omega
      subst hkk
      go_wp2
      go_ret2
      exact ⟨rfl, G.out _, ((Only.refl _ _).setCell _ _).drewN _⟩

set_option maxHeartbeats 400000 in
theorem num_arg {w : World} {rb : Nat} {bs : List UInt8} {at_ : Nat} (_h : RdAt w rb bs at_) (n : Int) (hw : wideB n = false) :
    Calls Try.prog 44 #[.pointer (some ⟨rb, 0, none⟩), .int .i64 n] w fun e w' => e = .returned (.tuple #[.int .u64 0, .int .i64 17]) ∧ w' = w := by
  go_enter Try.func44, Try.ntmps44
  go_wp2_with (go_at_call 43; refine (isWidth_any _ _).mono ?_; rintro e wz ⟨rfl, hz⟩; subst wz)
  go_ret2
  exact ⟨rfl, rfl⟩

set_option maxHeartbeats 400000 in
theorem num_short {w : World} {rb : Nat} {bs : List UInt8} {at_ : Nat} (h : RdAt w rb bs at_) (n : Int) (hw : wideB n = true) (hs : (bs.length : Int) - at_ < n) :
    Calls Try.prog 44 #[.pointer (some ⟨rb, 0, none⟩), .int .i64 n] w fun e w' => e = .returned (.tuple #[.int .u64 0, .int .i64 1]) ∧ ∃ n, w' = w.drewN n := by
  go_enter Try.func44, Try.ntmps44
  go_wp2_with (first | (go_at_call 43; refine (isWidth_any _ _).mono ?_; rintro e wz ⟨rfl, hz⟩; subst wz) | (go_at_call 47; refine (left_any h).mono ?_; rintro e w' ⟨rfl, nq, rfl⟩))
  go_ret2
  exact ⟨rfl, _, rfl⟩

/-- Num, of whatever number: what it answers, and how far it goes. -/
def numN (len at_ : Nat) (n : Int) : Nat := if wideB n = true then if (len : Int) - at_ < n then 0 else n.toNat else 0
def numE (len at_ : Nat) (n : Int) : Int := if wideB n = true then if (len : Int) - at_ < n then 1 else 0 else 17

theorem wide_cases {n : Int} (h : wideB n = true) : n = 1 ∨ n = 2 ∨ n = 4 ∨ n = 8 := by simp [wideB] at h; omega

theorem num_any {w : World} {rb : Nat} {bs : List UInt8} {at_ : Nat} (h : RdAt w rb bs at_) (n : Int) :
    Calls Try.prog 44 #[.pointer (some ⟨rb, 0, none⟩), .int .i64 n] w fun e w' =>
      e = .returned (.tuple #[.int .u64 (leN (seg bs at_ (numN bs.length at_ n)) : Int), .int .i64 (numE bs.length at_ n)]) ∧ RdAt w' rb bs (at_ + numN bs.length at_ n) ∧ Only rb w w' := by
  by_cases hw : wideB n = true
  · by_cases hs : (bs.length : Int) - at_ < n
    · refine (num_short h n hw hs).mono ?_
      rintro e w' ⟨rfl, m, rfl⟩
      simp only [numN, numE, hw, hs, if_true]
      exact ⟨rfl, h.drewN m, (Only.refl _ _).drewN m⟩
    · have hc := wide_cases hw
      obtain ⟨m, rfl⟩ := Int.eq_ofNat_of_zero_le (show 0 ≤ n by omega)
      have hle := h.le
      simp only [numN, numE, hw, hs, if_true, if_false, Int.toNat_natCast]
      exact num_yes h m hw (by omega) (by omega) (by omega)
  · have hw' : wideB n = false := by simpa using hw
    refine (num_arg h n hw').mono ?_
    rintro e wz ⟨rfl, hz⟩
    subst wz
    simp only [numN, numE, hw]
    exact ⟨rfl, h, Only.refl _ _⟩

end Go.Proofs.Ytfgjlljbpcombaa
