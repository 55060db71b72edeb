
/- Pack and Put of the references. -/
import Derived.Test.YtcjoidhbhffcgaaRows
import Derived.Test.YtcjoidhbhffcgaaWakes
import Derived.Test.YtcjoidhbhffcgaaAppend
import Derived.Test.YtcjoidhbhffcgaaPackMath
namespace Go.Proofs.Ytcjoidhbhffcgaa
set_option linter.unusedVariables false
set_option linter.unusedSimpArgs false
open Go.RowKit

theorem below_of_nil {w w1 : World} {o : Obj} (h : (w.alloc o).grownBy w1 (Value.slice none 0 0).ownBlock) : Below w.heap.size w w1 :=
  ((Below.refl _ _).alloc (Nat.le_refl _) o).trans ⟨h.os, h.tape, h.output, h.size, fun k hk => h.block k (by simp; omega) (by simp [Value.ownBlock])⟩

theorem lit_eq (xs : List Int) (bs : List UInt8) (h : bs.map (fun b => (b.toNat : Int)) = xs) : (xs.map (Value.int .u8)).toArray = (u8s bs).toArray := by
  subst h; simp [u8s]

set_option maxRecDepth 100000 in
set_option maxHeartbeats 1000000 in
theorem refPack_any (n : Nat) (hn : n ≤ 536870911) (w : World) :
    Calls Try.prog 33 #[.int .i64 (n : Int)] w fun e w' => ∃ v, e = .returned v ∧ Own w' w.heap.size 5 v (pkL n) ∧ Below w.heap.size w w' := by
  by_cases h1 : n ≤ 127
  ·
    have hs : sizeI (n : Int) = 1 := by unfold sizeI; omega
    have hp : Hid (pkL n = [UInt8.ofNat n]) := by show _ = _; simp [pkL, h1]
    go_enter Try.func33, Try.ntmps33
    go_wp2_with fail
    refine (refSize_any _ _).mono ?_
    rintro e wz ⟨rfl, hz⟩
    subst wz
    go_wp2_with (at_builtin; go_must (refine wpList_append_bs rfl _ _ _ rfl w.heap.size 5 Try.underlying26 Try.infoU8 rfl rfl (Own.nil _ _ _) (bs_lit w [UInt8.ofNat n] _ _ _ ((by simp [u8s]; omega)) rfl (by simp [maxLen])) (by simp) (by simp) ?_; intro v2 w2 ho2 hg2))
    go_ret
    rw [hp.out]
    exact ⟨_, rfl, by simpa using ho2, below_of_nil hg2⟩
  · by_cases h2 : n ≤ 16383
    ·
      have hs : sizeI (n : Int) = 2 := by unfold sizeI; omega
      have hp : Hid (pkL n = [UInt8.ofNat (128 + n / 256), UInt8.ofNat (n % 256)]) := by show _ = _; simp [pkL, h1, h2]
      go_enter Try.func33, Try.ntmps33
      go_wp2_with fail
      refine (refSize_any _ _).mono ?_
      rintro e wz ⟨rfl, hz⟩
      subst wz
      go_wp2_with (at_builtin; go_must (refine wpList_append_bs rfl _ _ _ rfl w.heap.size 5 Try.underlying26 Try.infoU8 rfl rfl (Own.nil _ _ _) (bs_lit w [UInt8.ofNat (128 + n / 256), UInt8.ofNat (n % 256)] _ _ _ ((by simp [u8s]; omega)) rfl (by simp [maxLen])) (by simp) (by simp) ?_; intro v2 w2 ho2 hg2))
      go_ret
      rw [hp.out]
      exact ⟨_, rfl, by simpa using ho2, below_of_nil hg2⟩
    ·
      have hs : sizeI (n : Int) = 4 := by unfold sizeI; omega
      have hp : Hid (pkL n = [UInt8.ofNat (192 + n / 16777216), UInt8.ofNat (n / 65536 % 256), UInt8.ofNat (n / 256 % 256), UInt8.ofNat (n % 256)]) := by show _ = _; simp [pkL, h1, h2]
      go_enter Try.func33, Try.ntmps33
      go_wp2_with fail
      refine (refSize_any _ _).mono ?_
      rintro e wz ⟨rfl, hz⟩
      subst wz
      go_wp2_with (at_builtin; go_must (refine wpList_append_bs rfl _ _ _ rfl w.heap.size 5 Try.underlying26 Try.infoU8 rfl rfl (Own.nil _ _ _) (bs_lit w [UInt8.ofNat (192 + n / 16777216), UInt8.ofNat (n / 65536 % 256), UInt8.ofNat (n / 256 % 256), UInt8.ofNat (n % 256)] _ _ _ ((by simp [u8s]; omega)) rfl (by simp [maxLen])) (by simp) (by simp) ?_; intro v2 w2 ho2 hg2))
      go_ret
      rw [hp.out]
      exact ⟨_, rfl, by simpa using ho2, below_of_nil hg2⟩

end Go.Proofs.Ytcjoidhbhffcgaa
