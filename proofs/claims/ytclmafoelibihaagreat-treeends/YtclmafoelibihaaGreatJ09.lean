/- Texts joined: PackMath, RefPack, Put. -/
import Derived.Test.YtclmafoelibihaaGreatJ08
import Derived.Test.YtclmafoelibihaaGreatRows
import Derived.Test.YtclmafoelibihaaGreatJ02
/- Plain facts: what is unpacked, packed again, is the bytes; what is packed is unpacked. -/
namespace Go.Proofs.YtclmafoelibihaaGreat
set_option linter.unusedVariables false
set_option linter.unusedSimpArgs false
open Go.RowKit

theorem unp_err (bs : List UInt8) (at_ : Nat) (h : (unp bs at_).2.2 ≠ 0) : (unp bs at_).1 = 0 ∧ (unp bs at_).2.1 = 0 := by
  unfold unp at *
  by_cases h1 : at_ < bs.length
  · simp only [dif_pos h1] at *
    unfold unpS at *
    split
    · exact ⟨rfl, rfl⟩
    · split
      · exact ⟨rfl, rfl⟩
      · split
        · rename_i a b c; rw [if_neg a, if_neg b, if_pos c] at h; exact absurd rfl h
        · exact ⟨rfl, rfl⟩
  · simp only [dif_neg h1]; exact ⟨trivial, trivial⟩

theorem seg_one (bs : List UInt8) (at_ : Nat) (h : at_ < bs.length) : seg bs at_ 1 = [bs[at_]] := by
  have := seg_succ bs at_ 0 (by omega); simpa [seg] using this

theorem seg_cons (bs : List UInt8) (at_ n : Nat) (h : at_ < bs.length) : seg bs at_ (n + 1) = bs[at_] :: seg bs (at_ + 1) n := by
  unfold seg
  rw [List.drop_eq_getElem_cons h, List.take_succ_cons]

theorem seg_zero (bs : List UInt8) (at_ : Nat) : seg bs at_ 0 = [] := by simp [seg]

theorem u8_eq (x : UInt8) (n : Nat) (h : n = x.toNat) : UInt8.ofNat n = x := by subst h; simp

theorem size_range (v : Nat) (s : Nat) (h : sizeI (v : Int) = (s : Int)) (hs : s ≠ 0) : v ≤ 536870911 ∧ (s = 1 ∧ v ≤ 127 ∨ s = 2 ∧ 127 < v ∧ v ≤ 16383 ∨ s = 4 ∧ 16383 < v) := by
  unfold sizeI at h
  split at h
  · omega
  · split at h
    · omega
    · split at h
      · omega
      · split at h <;> omega

theorem unpS_ok (bs : List UInt8) (at_ s mk : Nat) (h1 : at_ < bs.length) (f2 : s ≤ 4) (f3 : markI (s : Int) = (mk : Int)) (f4 : mk ≤ bs[at_].toNat) (h : (unpS bs at_ bs[at_].toNat s mk).2.2 = 0) :
    at_ + (unpS bs at_ bs[at_].toNat s mk).2.1 ≤ bs.length ∧ (unpS bs at_ bs[at_].toNat s mk).1 ≤ 536870911 ∧ pkL (unpS bs at_ bs[at_].toNat s mk).1 = seg bs at_ (unpS bs at_ bs[at_].toNat s mk).2.1 ∧ 1 ≤ (unpS bs at_ bs[at_].toNat s mk).2.1 := by
  have hc := bs[at_].toNat_lt
  unfold unpS at *
  by_cases h2 : s = 0
  · rw [if_pos h2] at h; simp at h
  rw [if_neg h2] at *
  by_cases h3 : bs.length < at_ + s
  · rw [if_pos h3] at h; simp at h
  rw [if_neg h3] at *
  by_cases h4 : sizeI (beA (bs[at_].toNat - mk) (seg bs (at_ + 1) (s - 1)) : Int) = (s : Int)
  · simp only [if_pos h4] at *
    obtain ⟨g1, g2⟩ := size_range _ s h4 h2
    refine ⟨by omega, g1, ?_, by omega⟩
    rcases g2 with ⟨rfl, g2⟩ | ⟨rfl, g2, g3⟩ | ⟨rfl, g2⟩
    · have hmk : mk = 0 := by simp [markI] at f3; omega
      subst hmk
      simp only [seg_zero, beA, List.foldl_nil, Nat.sub_zero, Nat.sub_self] at g2 ⊢
      rw [seg_one bs at_ h1]
      simp [pkL, g2]
    · have hmk : mk = 128 := by simp [markI] at f3; omega
      subst hmk
      have e1 : seg bs (at_ + 1) (2 - 1) = [bs[at_ + 1]] := seg_one bs (at_ + 1) (by omega)
      have e2 : seg bs at_ 2 = [bs[at_], bs[at_ + 1]] := by rw [seg_cons bs at_ 1 h1, seg_one bs (at_ + 1) (by omega)]
      rw [e1] at g2 g3 ⊢
      rw [e2]
      have hd := bs[at_ + 1].toNat_lt
      simp only [beA, List.foldl_cons, List.foldl_nil] at g2 g3 ⊢
      unfold pkL
      rw [if_neg (by omega), if_pos (by omega)]
      rw [u8_eq bs[at_] _ (by omega), u8_eq bs[at_ + 1] _ (by omega)]
    · have hmk : mk = 192 := by simp [markI] at f3; omega
      subst hmk
      have e1 : seg bs (at_ + 1) (4 - 1) = [bs[at_ + 1], bs[at_ + 1 + 1], bs[at_ + 1 + 1 + 1]] := by
        rw [seg_cons bs (at_ + 1) 2 (by omega), seg_cons bs (at_ + 1 + 1) 1 (by omega), seg_one bs (at_ + 1 + 1 + 1) (by omega)]
      have e2 : seg bs at_ 4 = [bs[at_], bs[at_ + 1], bs[at_ + 1 + 1], bs[at_ + 1 + 1 + 1]] := by
        rw [seg_cons bs at_ 3 h1, ← e1]
      rw [e1] at g1 g2 ⊢
      rw [e2]
      have hd1 := bs[at_ + 1].toNat_lt
      have hd2 := bs[at_ + 1 + 1].toNat_lt
      have hd3 := bs[at_ + 1 + 1 + 1].toNat_lt
      simp only [beA, List.foldl_cons, List.foldl_nil] at g1 g2 ⊢
      unfold pkL
      rw [if_neg (by omega), if_neg (by omega)]
      rw [u8_eq bs[at_] _ (by omega), u8_eq bs[at_ + 1] _ (by omega), u8_eq bs[at_ + 1 + 1] _ (by omega), u8_eq bs[at_ + 1 + 1 + 1] _ (by omega)]
  · rw [if_neg h4] at h; simp at h

theorem unp_ok (bs : List UInt8) (at_ : Nat) (h : (unp bs at_).2.2 = 0) :
    at_ + (unp bs at_).2.1 ≤ bs.length ∧ (unp bs at_).1 ≤ 536870911 ∧ pkL (unp bs at_).1 = seg bs at_ (unp bs at_).2.1 ∧ 1 ≤ (unp bs at_).2.1 := by
  by_cases h1 : at_ < bs.length
  · have e : unp bs at_ = unpS bs at_ bs[at_].toNat (wantN bs[at_].toNat) (markN (wantN bs[at_].toNat)) := by unfold unp; rw [dif_pos h1]
    obtain ⟨f1, f2, f3, f4⟩ := want_facts bs[at_].toNat bs[at_].toNat_lt
    rw [e] at h ⊢
    exact unpS_ok bs at_ _ _ h1 f2 f3 f4 h
  · exfalso; unfold unp at h; rw [dif_neg h1] at h; simp at h

theorem unpS_drop (L : List UInt8) (at_ c s mk : Nat) (h : at_ ≤ L.length) : unpS L at_ c s mk = unpS (L.drop at_) 0 c s mk := by
  have e1 : seg L (at_ + 1) (s - 1) = seg (L.drop at_) (0 + 1) (s - 1) := by simp [seg, List.drop_drop]
  have e2 : (L.length < at_ + s) = ((L.drop at_).length < 0 + s) := by simp; omega
  unfold unpS
  rw [e1]
  simp only [e2]

theorem unp_drop (L : List UInt8) (at_ : Nat) (h : at_ ≤ L.length) : unp L at_ = unp (L.drop at_) 0 := by
  unfold unp
  by_cases h1 : at_ < L.length
  · have h2 : 0 < (L.drop at_).length := by simp; omega
    rw [dif_pos h1, dif_pos h2]
    have e : (L.drop at_)[0] = L[at_] := by simp
    rw [e]
    exact unpS_drop L at_ _ _ _ h
  · rw [dif_neg h1, dif_neg (by simp; omega)]

theorem unp_cons (c : UInt8) (r : List UInt8) : unp (c :: r) 0 = unpS (c :: r) 0 c.toNat (wantN c.toNat) (markN (wantN c.toNat)) := by
  unfold unp; rw [dif_pos (by simp)]; rfl

theorem unp_pk (n : Nat) (hn : n ≤ 536870911) (bs cs : List UInt8) : unp (bs ++ (pkL n ++ cs)) bs.length = (n, (pkL n).length, 0) := by
  rw [unp_drop _ _ (by simp), List.drop_left]
  by_cases h1 : n ≤ 127
  · have e : pkL n = [UInt8.ofNat n] := by simp [pkL, h1]
    rw [e]
    show unp (UInt8.ofNat n :: cs) 0 = _
    rw [unp_cons]
    have ec : (UInt8.ofNat n).toNat = n := by simp; omega
    have ew : wantN n = 1 := by simp [wantN, wantI]; omega
    have em : markN 1 = 0 := by simp [markN, markI]
    have hz : sizeI (n : Int) = 1 := by unfold sizeI; omega
    rw [ec, ew, em]
    simp [unpS, seg, beA, hz]
  · by_cases h2 : n ≤ 16383
    · have e : pkL n = [UInt8.ofNat (128 + n / 256), UInt8.ofNat (n % 256)] := by simp [pkL, h1, h2]
      rw [e]
      show unp (UInt8.ofNat (128 + n / 256) :: UInt8.ofNat (n % 256) :: cs) 0 = _
      rw [unp_cons]
      have ec : (UInt8.ofNat (128 + n / 256)).toNat = 128 + n / 256 := by simp; omega
      have ed : (UInt8.ofNat (n % 256)).toNat = n % 256 := by simp
      have ew : wantN (128 + n / 256) = 2 := by simp [wantN, wantI]; omega
      have em : markN 2 = 128 := by simp [markN, markI]
      have hz : sizeI (n : Int) = 2 := by unfold sizeI; omega
      have hb : beA (128 + n / 256 - 128) (seg (UInt8.ofNat (128 + n / 256) :: UInt8.ofNat (n % 256) :: cs) (0 + 1) (2 - 1)) = n := by
        show 256 * (128 + n / 256 - 128) + (UInt8.ofNat (n % 256)).toNat = n
        rw [ed]; omega
      rw [ec, ew, em]
      unfold unpS
      rw [hb, hz]
      simp
    · have e : pkL n = [UInt8.ofNat (192 + n / 16777216), UInt8.ofNat (n / 65536 % 256), UInt8.ofNat (n / 256 % 256), UInt8.ofNat (n % 256)] := by simp [pkL, h1, h2]
      rw [e]
      show unp (UInt8.ofNat (192 + n / 16777216) :: UInt8.ofNat (n / 65536 % 256) :: UInt8.ofNat (n / 256 % 256) :: UInt8.ofNat (n % 256) :: cs) 0 = _
      rw [unp_cons]
      have ec : (UInt8.ofNat (192 + n / 16777216)).toNat = 192 + n / 16777216 := by simp; omega
      have ed : ∀ m, (UInt8.ofNat (m % 256)).toNat = m % 256 := by intro m; simp
      have ew : wantN (192 + n / 16777216) = 4 := by simp [wantN, wantI]; omega
      have em : markN 4 = 192 := by simp [markN, markI]
      have hz : sizeI (n : Int) = 4 := by unfold sizeI; omega
      have hb : beA (192 + n / 16777216 - 192) (seg (UInt8.ofNat (192 + n / 16777216) :: UInt8.ofNat (n / 65536 % 256) :: UInt8.ofNat (n / 256 % 256) :: UInt8.ofNat (n % 256) :: cs) (0 + 1) (4 - 1)) = n := by
        show 256 * (256 * (256 * (192 + n / 16777216 - 192) + (UInt8.ofNat (n / 65536 % 256)).toNat) + (UInt8.ofNat (n / 256 % 256)).toNat) + (UInt8.ofNat (n % 256)).toNat = n
        rw [ed, ed, ed]; omega
      rw [ec, ew, em]
      unfold unpS
      rw [hb, hz]
      simp

end Go.Proofs.YtclmafoelibihaaGreat

/- Pack and Put of the references. -/
namespace Go.Proofs.YtclmafoelibihaaGreat
set_option linter.unusedVariables false
set_option linter.unusedSimpArgs false
open Go.RowKit

theorem below_of_nil {w w1 : World} {o : Obj} (h : (w.alloc o).grownBy w1 (Value.slice none 0 0).ownBlock) : Below w.heap.size w w1 :=
  ((Below.refl _ _).alloc (Nat.le_refl _) o).trans ⟨h.os, h.tape, h.output, h.size, fun k hk => h.block k (by simp; omega) (by simp [Value.ownBlock])⟩

theorem lit_eq (xs : List Int) (bs : List UInt8) (h : bs.map (fun b => (b.toNat : Int)) = xs) : (xs.map (Value.int .u8)).toArray = (u8s bs).toArray := by
  subst h; simp [u8s]

end Go.Proofs.YtclmafoelibihaaGreat

/- Put of layer 1 and of the references. -/
namespace Go.Proofs.YtclmafoelibihaaGreat
set_option linter.unusedVariables false
set_option linter.unusedSimpArgs false
open Go.RowKit

/-- A number's bytes, so many, the lowest first. -/
def leL (x n : Nat) : List UInt8 := (List.range n).map fun k => UInt8.ofNat (x / 2 ^ (8 * k))
theorem leL_length (x n : Nat) : (leL x n).length = n := by simp [leL]
theorem leL_get (x n k : Nat) (h : k < (leL x n).length) : ((leL x n)[k].toNat : Int) = (x : Int) / 2 ^ (8 * k) % 256 := by
  simp [leL]
theorem leL_succ (x n : Nat) : leL x (n + 1) = leL x n ++ [UInt8.ofNat (x / 2 ^ (8 * n))] := by simp [leL, List.range_succ]

theorem leN_leL (x : Nat) : ∀ n, leN (leL x n) = x % 256 ^ n := by
  intro n
  induction n with
  | zero => simp [leL, leN, Nat.mod_one]
  | succ n ih =>
    rw [leL_succ, leN_snoc, ih, leL_length]
    have : (UInt8.ofNat (x / 2 ^ (8 * n))).toNat = x / 256 ^ n % 256 := by rw [pow256]; simp
    rw [this, Nat.pow_succ, Nat.mod_mul]

end Go.Proofs.YtclmafoelibihaaGreat
