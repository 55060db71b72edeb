
/- Num of the reader: the number of so many bytes, the lowest first. -/
import Derived.Test.YtlcfbnbbdpgjiaaRows
import Derived.Test.YtlcfbnbbdpgjiaaReader
import Derived.Test.YtlcfbnbbdpgjiaaArith
import Derived.Test.YtlcfbnbbdpgjiaaAppend
namespace Go.Proofs.Ytlcfbnbbdpgjiaa
set_option linter.unusedVariables false
set_option linter.unusedSimpArgs false
open Go.RowKit

/-- The number that bytes tell, the lowest first. -/
def leN : List UInt8 → Nat
  | [] => 0
  | b :: r => b.toNat + 256 * leN r

theorem leN_snoc (l : List UInt8) (b : UInt8) : leN (l ++ [b]) = leN l + 256 ^ l.length * b.toNat := by
  induction l with
  | nil => simp [leN]
  | cons a r ih => simp [leN, ih, Nat.pow_succ]; rw [Nat.mul_add, ← Nat.mul_assoc, Nat.mul_comm 256 (256 ^ r.length)]; omega

theorem leN_lt (l : List UInt8) : leN l < 256 ^ l.length := by
  induction l with
  | nil => simp [leN]
  | cons a r ih => have := a.toNat_lt; simp [leN, Nat.pow_succ]; omega

theorem seg_succ (bs : List UInt8) (at_ k : Nat) (h : at_ + k < bs.length) : seg bs at_ (k + 1) = seg bs at_ k ++ [bs[at_ + k]] := by
  unfold seg
  rw [List.take_succ_eq_append_getElem (by simp; omega)]
  simp

/-- Num, of whatever number: what it answers, and how far it goes. -/
def numN (len at_ : Nat) (n : Int) : Nat := if wideB n = true then if (len : Int) - at_ < n then 0 else n.toNat else 0
def numE (len at_ : Nat) (n : Int) : Int := if wideB n = true then if (len : Int) - at_ < n then 1 else 0 else 17

theorem wide_cases {n : Int} (h : wideB n = true) : n = 1 ∨ n = 2 ∨ n = 4 ∨ n = 8 := by simp [wideB] at h; omega

end Go.Proofs.Ytlcfbnbbdpgjiaa
