
/- Plain arithmetic of layer 1: shifted bytes that are joined. -/
import Derived.WalkKit
import Derived.Laws.BitsAllLaws
namespace Go.Proofs.Ytfgjlljbpcombaa
set_option linter.unusedVariables false
set_option linter.unusedSimpArgs false

theorem pow256 (k : Nat) : 256 ^ k = 2 ^ (8 * k) := by rw [Nat.pow_mul]

theorem wrap_u64_small (n : Nat) (h : n < 18446744073709551616) : IntKind.u64.wrap (n : Int) = (n : Int) := by
  rw [IntKind.wrap_u64]; omega

theorem or_step (x c k : Nat) (hx : x < 256 ^ k) (hc : c < 256) (hk : k < 8) :
    bits .or .u64 (x : Int) (IntKind.u64.wrap ((c : Int) * 2 ^ (8 * k))) = ((x + 256 ^ k * c : Nat) : Int) := by
  have h8 : 256 ^ k * 256 ≤ 18446744073709551616 := by
    have : 256 ^ (k + 1) ≤ 256 ^ 8 := Nat.pow_le_pow_right (by omega) (by omega)
    rw [Nat.pow_succ] at this; simpa using this
  have hpc : 256 ^ k * c < 18446744073709551616 := Nat.lt_of_lt_of_le (Nat.mul_lt_mul_of_pos_left hc (Nat.pow_pos (by omega))) h8
  have hxl : x < 18446744073709551616 := Nat.lt_of_lt_of_le hx (Nat.le_trans (Nat.le_mul_of_pos_right _ (by omega)) h8)
  have e : ((c : Int) * 2 ^ (8 * k)) = ((256 ^ k * c : Nat) : Int) := by
    rw [pow256]; push_cast; rw [Int.mul_comm]
  rw [e, wrap_u64_small _ hpc, u64_or_nat _ _ hxl hpc, Nat.or_comm, nat_join (8 * k) (256 ^ k * c) x (by rw [pow256]; exact Nat.mul_mod_right _ _) (by rw [← pow256]; exact hx), Nat.add_comm]

theorem i64_or_nat (a b : Nat) (ha : a < 9223372036854775808) (hb : b < 9223372036854775808) : bits .or .i64 (a : Int) (b : Int) = ((a ||| b : Nat) : Int) := by
  have hx : a ||| b < 2 ^ 63 := Nat.or_lt_two_pow (by omega) (by omega)
  show IntKind.i64.wrap ((BitVec.ofInt 64 (a : Int) ||| BitVec.ofInt 64 (b : Int)).toNat : Int) = _
  rw [BitVec.toNat_or, ofInt_u64 a (by omega), ofInt_u64 b (by omega), IntKind.wrap_i64]
  omega

theorem or_low (x d : Nat) (hx : x < 256 ^ 3) (hd : d < 256) : bits .or .i64 ((x : Int) * 256) (d : Int) = ((256 * x + d : Nat) : Int) := by
  have e : ((x : Int) * 256) = ((x * 256 : Nat) : Int) := by omega
  rw [e, i64_or_nat _ _ (by omega) (by omega), nat_join 8 (x * 256) d (by omega) (by omega)]
  congr 1; omega

end Go.Proofs.Ytfgjlljbpcombaa
