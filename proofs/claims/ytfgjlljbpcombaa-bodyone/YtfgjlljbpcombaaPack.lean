
/- Put and Pack of layer 1. -/
import Derived.Test.YtfgjlljbpcombaaRows
import Derived.Test.YtfgjlljbpcombaaPacked
import Derived.Deep.RegionWith
namespace Go.Proofs.Ytfgjlljbpcombaa
set_option linter.unusedVariables false
set_option linter.unusedSimpArgs false
open Go.RowKit

/-- Bytes that were put, one by one, behind others. -/
def puts (bs zs : List UInt8) (k : Nat) : List UInt8 := bs ++ (zs.take k ++ List.replicate (zs.length - k) 0)
theorem puts_length (bs zs : List UInt8) (k : Nat) (h : k ≤ zs.length) : (puts bs zs k).length = bs.length + zs.length := by simp [puts]; omega
theorem puts_zero (bs zs : List UInt8) : puts bs zs 0 = ext bs zs.length := by simp [puts, ext]
theorem puts_all (bs zs : List UInt8) : puts bs zs zs.length = bs ++ zs := by simp [puts]
theorem puts_succ (bs zs : List UInt8) (k : Nat) (h : k < zs.length) : (puts bs zs k).set (bs.length + k) zs[k] = puts bs zs (k + 1) := by
  unfold puts
  rw [List.set_append_right _ _ (by omega), List.set_append_right _ _ (by simp; omega)]
  simp only [List.length_take]
  rw [show bs.length + k - bs.length - min k zs.length = 0 by omega, show zs.length - k = (zs.length - (k + 1)) + 1 by omega, List.replicate_succ, List.set_cons_zero, List.take_succ_eq_append_getElem h]
  simp only [List.append_assoc, List.singleton_append]

theorem u8s_set (l : List UInt8) (i : Nat) (x : Int) (y : UInt8) (hx : x = (y.toNat : Int)) : (u8s l).toArray.setIfInBounds i (.int .u8 x) = (u8s (l.set i y)).toArray := by
  subst hx; simp [u8s]
theorem u8s_at (l : List UInt8) (i : Nat) (h : i < l.length) : (u8s l).toArray[i]? = some (.int .u8 (l[i].toNat : Int)) := by simp [u8s_get l i h]

/-- A number's bytes, so many, the highest first. -/
def beL (n s : Nat) : List UInt8 := (List.range s).map fun k => UInt8.ofNat (n / 2 ^ (8 * (s - 1 - k)))
theorem beL_length (n s : Nat) : (beL n s).length = s := by simp [beL]
theorem beL_get (n s k : Nat) (h : k < (beL n s).length) : ((beL n s)[k].toNat : Int) = (n : Int) / 2 ^ (8 * (s - 1 - k)) % 256 := by
  simp [beL]

theorem ofNat_mod (n : Nat) : UInt8.ofNat n = UInt8.ofNat (n % 256) := UInt8.toNat_inj.1 (by simp)

/-- A packed number's bytes. -/
def pkL (n : Nat) : List UInt8 :=
  if n ≤ 127 then [UInt8.ofNat n] else if n ≤ 16383 then [UInt8.ofNat (128 + n / 256), UInt8.ofNat (n % 256)]
  else [UInt8.ofNat (192 + n / 16777216), UInt8.ofNat (n / 65536 % 256), UInt8.ofNat (n / 256 % 256), UInt8.ofNat (n % 256)]

theorem pkL_length (n : Nat) (h : n ≤ 536870911) : ((pkL n).length : Int) = sizeI (n : Int) := by
  unfold pkL sizeI
  split
  · simp; omega
  · split
    · simp; omega
    · simp; omega

end Go.Proofs.Ytfgjlljbpcombaa
