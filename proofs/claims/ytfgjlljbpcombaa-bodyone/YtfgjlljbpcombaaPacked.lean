
/- Packed of the reader: a packed number, or why there is none. -/
import Derived.Test.YtfgjlljbpcombaaRows
import Derived.Test.YtfgjlljbpcombaaNum
namespace Go.Proofs.Ytfgjlljbpcombaa
set_option linter.unusedVariables false
set_option linter.unusedSimpArgs false
open Go.RowKit

/-- Bytes behind a number, the highest first. -/
def beA (x : Nat) (l : List UInt8) : Nat := l.foldl (fun y b => 256 * y + b.toNat) x
theorem beA_snoc (x : Nat) (l : List UInt8) (b : UInt8) : beA x (l ++ [b]) = 256 * beA x l + b.toNat := by simp [beA]
theorem beA_lt (l : List UInt8) : ∀ (x m : Nat), x < 256 ^ m → beA x l < 256 ^ (m + l.length) := by
  induction l with
  | nil => intro x m h; simpa [beA] using h
  | cons b r ih =>
    intro x m h
    have hb := b.toNat_lt
    have := ih (256 * x + b.toNat) (m + 1) (by rw [Nat.pow_succ]; omega)
    rw [show m + (b :: r).length = m + 1 + r.length by simp; omega]
    exact this

/-- What stands at a place, as a packed number that begins with c, wants s bytes and bears the mark mk: the number, how many bytes it has, the error. -/
def unpS (bs : List UInt8) (at_ c s mk : Nat) : Nat × Nat × Nat :=
  if s = 0 then (0, 0, 2) else if bs.length < at_ + s then (0, 0, 1) else if sizeI (beA (c - mk) (seg bs (at_ + 1) (s - 1)) : Int) = (s : Int) then (beA (c - mk) (seg bs (at_ + 1) (s - 1)), s, 0) else (0, 0, 2)
def wantN (c : Nat) : Nat := (wantI (c : Int)).toNat
def markN (s : Nat) : Nat := (markI (s : Int)).toNat
def unp (bs : List UInt8) (at_ : Nat) : Nat × Nat × Nat :=
  if h : at_ < bs.length then unpS bs at_ bs[at_].toNat (wantN bs[at_].toNat) (markN (wantN bs[at_].toNat)) else (0, 0, 1)

theorem want_facts (c : Nat) (_hc : c < 256) : wantI (c : Int) = (wantN c : Int) ∧ wantN c ≤ 4 ∧ markI (wantN c : Int) = (markN (wantN c) : Int) ∧ markN (wantN c) ≤ c := by
  unfold wantN markN
  by_cases h1 : (c : Int) < 128
  · simp [wantI, markI, h1]
  · by_cases h2 : (c : Int) < 192
    · simp [wantI, markI, h1, h2]; omega
    · by_cases h3 : (c : Int) < 224
      · simp [wantI, markI, h1, h2, h3]; omega
      · simp [wantI, markI, h1, h2, h3]

end Go.Proofs.Ytfgjlljbpcombaa
