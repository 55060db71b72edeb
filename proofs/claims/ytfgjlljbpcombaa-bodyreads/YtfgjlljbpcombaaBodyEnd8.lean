
/- How reading a body ends: plain facts. No program is named here. -/
import Derived.Test.YtfgjlljbpcombaaBodyStick8
namespace Go.Proofs.Ytfgjlljbpcombaa
set_option linter.unusedVariables false
set_option linter.unusedSimpArgs false
open Go.RowKit

theorem rd_small {ds : List UInt8} {al : Bool} (h0 : 0 < ds.length) (hf : boF ds % 4 = 2) : rdS ds al = coS ds (1, 0) (boF ds / 4) ∧ rdC ds al = coL ds (1, 0) (boF ds / 4) ∧ rdK ds al = [] := by
  unfold rdS rdC rdK
  rw [if_pos hf, if_pos hf, if_pos hf, (bo_first h0).1]
  exact ⟨rfl, rfl, rfl⟩
theorem co_form {bs : List UInt8} {a n : Nat} (h : ¬ (1 ≤ n ∧ n ≤ 65535)) : coS bs (a, 0) n = (a, 2) := by
  have : lenB (n : Int) = false := by
    cases hl : lenB (n : Int) with
    | false => rfl
    | true => have := (lenB_iff _).1 hl; omega
  simp [coS, this]
theorem co_short {bs : List UInt8} {a n : Nat} (h : 1 ≤ n ∧ n ≤ 65535) (hs : bs.length < a + n) : coS bs (a, 0) n = (a, 1) := by
  have h1 : lenB (n : Int) = true := (lenB_iff _).2 (by omega)
  have h2 : ¬ a + n ≤ bs.length := by omega
  simp [coS, h1, h2]
theorem co_good {bs : List UInt8} {a n : Nat} (h : 1 ≤ n ∧ n ≤ 65535) (hs : a + n ≤ bs.length) : coS bs (a, 0) n = (a + n, 0) ∧ coL bs (a, 0) n = seg bs a n := by
  have h1 : lenB (n : Int) = true := (lenB_iff _).2 (by omega)
  simp [coS, coL, h1, hs]
/-- Behind the length. -/
theorem bo_len {ds : List UInt8} {al : Bool} (h3 : bo3 ds al = (4, 0)) (hl : 8 ≤ ds.length) : bo4 ds al = (8, 0) ∧ boN ds al = leN (seg ds 4 4) ∧ bo5 ds al = coS ds (8, 0) (leN (seg ds 4 4)) ∧ boC ds al = coL ds (8, 0) (leN (seg ds 4 4)) := by
  obtain ⟨h1, h2⟩ := nu_yes (bs := ds) (a := 4) (n := 4) (by omega)
  have e4 : bo4 ds al = (8, 0) := by unfold bo4; rw [h3, h1]
  have eN : boN ds al = leN (seg ds 4 4) := by unfold boN; rw [h3, h2]
  exact ⟨e4, eN, by unfold bo5; rw [e4, eN], by unfold boC; rw [e4, eN]⟩
theorem rd_len {ds : List UInt8} {al : Bool} (hf : boF ds % 4 ≠ 2) (h3 : bo3 ds al = (4, 0)) (hl : ds.length < 8) : (rdS ds al).2 = 1 := by
  have e4 : bo4 ds al = (4, 1) := by
    unfold bo4
    have : ¬ 4 + 4 ≤ ds.length := by omega
    rw [h3]; simp [nuS, this]
  rw [rd_no4 hf (by rw [e4]; decide), e4]
theorem rd_big3 {ds : List UInt8} {al : Bool} {n : Nat} (hf : boF ds = 3) (h5 : bo5 ds al = (8 + n, 0)) (hC : boC ds al = seg ds 8 n) (hl : 8 + n ≤ ds.length) : (n < 64 → (rdS ds al).2 = 2) ∧ (64 ≤ n → rdS ds al = (8 + n, 0) ∧ rdC ds al = seg ds 8 n ∧ rdK ds al = []) := by
  have hf2 : ¬ boF ds % 4 = 2 := by omega
  have h11 : ¬ boF ds = 11 := by omega
  have eK : boK ds al = [] := by unfold boK; rw [if_neg h11]
  have e6 : bo6 ds al = (8 + n, 0) := by unfold bo6; rw [if_neg h11, h5]
  have hlen := seg_len8 ds 8 n hl
  unfold rdS rdC rdK
  rw [if_neg hf2, if_neg hf2, if_neg hf2, e6, hC, eK]
  refine ⟨fun h => ?_, fun h => ⟨?_, rfl, rfl⟩⟩
  · rw [(smallB_iff _ _).2 ⟨by omega, rfl⟩]; rfl
  · have : smallB (seg ds 8 n) [] = false := by
      cases hs : smallB (seg ds 8 n) [] with
      | false => rfl
      | true => have := (smallB_iff _ _).1 hs; omega
    rw [this]; rfl
theorem rd_big11 {ds : List UInt8} {al : Bool} {n : Nat} (hf : boF ds = 11) (h5 : bo5 ds al = (8 + n, 0)) (hC : boC ds al = seg ds 8 n) (hl : 8 + n ≤ ds.length) : ((csS ds (8 + n, 0)).2 ≠ 0 → (rdS ds al).2 = (csS ds (8 + n, 0)).2) ∧ ((csS ds (8 + n, 0)).2 = 0 → rdS ds al = csS ds (8 + n, 0) ∧ rdC ds al = seg ds 8 n ∧ rdK ds al = csL ds (8 + n, 0)) := by
  have hf2 : ¬ boF ds % 4 = 2 := by omega
  have eK : boK ds al = csL ds (8 + n, 0) := by unfold boK; rw [if_pos hf, h5]
  have e6 : bo6 ds al = csS ds (8 + n, 0) := by unfold bo6; rw [if_pos hf, h5]
  unfold rdS rdC rdK
  rw [if_neg hf2, if_neg hf2, if_neg hf2, e6, hC, eK]
  refine ⟨fun h => by rw [waS_stuck _ h], fun h => ⟨?_, rfl, rfl⟩⟩
  obtain ⟨m, m1, _, _, m4, _⟩ := cs_ok hl h
  have : smallB (seg ds 8 n) (csL ds (8 + n, 0)) = false := by
    cases hs : smallB (seg ds 8 n) (csL ds (8 + n, 0)) with
    | false => rfl
    | true => have := (smallB_iff _ _).1 hs; omega
  rw [this]
  unfold waS
  simp

end Go.Proofs.Ytfgjlljbpcombaa
