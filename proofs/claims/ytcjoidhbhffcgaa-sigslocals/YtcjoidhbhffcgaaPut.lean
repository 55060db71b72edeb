
/- Put of layer 1 and of the references. -/
import Derived.Test.YtcjoidhbhffcgaaRefPack
namespace Go.Proofs.Ytcjoidhbhffcgaa
set_option linter.unusedVariables false
set_option linter.unusedSimpArgs false
open Go.RowKit

/-- A number's bytes, so many, the lowest first. -/
def leL (x n : Nat) : List UInt8 := (List.range n).map fun k => UInt8.ofNat (x / 2 ^ (8 * k))
theorem leL_length (x n : Nat) : (leL x n).length = n := by simp [leL]
theorem leL_get (x n k : Nat) (h : k < (leL x n).length) : ((leL x n)[k].toNat : Int) = (x : Int) / 2 ^ (8 * k) % 256 := by
  simp [leL]
theorem leL_succ (x n : Nat) : leL x (n + 1) = leL x n ++ [UInt8.ofNat (x / 2 ^ (8 * n))] := by simp [leL, List.range_succ]

theorem leN_leL (x : Nat) : ∀ n, leN (leL x n) = x % 256 ^ n := by
  intro n
  induction n with
  | zero => simp [leL, leN, Nat.mod_one]
  | succ n ih =>
    rw [leL_succ, leN_snoc, ih, leL_length]
    have : (UInt8.ofNat (x / 2 ^ (8 * n))).toNat = x / 256 ^ n % 256 := by rw [pow256]; simp
    rw [this, Nat.pow_succ, Nat.mod_mul]

end Go.Proofs.Ytcjoidhbhffcgaa
