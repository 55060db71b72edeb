
/- An error stays; bytes one by one: plain facts on reading bodies. No program is named here. -/
import Derived.Test.YtfgjlljbpcombaaBodyBack8
namespace Go.Proofs.Ytfgjlljbpcombaa
set_option linter.unusedVariables false
set_option linter.unusedSimpArgs false
open Go.RowKit

theorem waS_stuck {s : St} (b : Bool) (h : s.2 ≠ 0) : waS s b = s := by simp [waS, h]
theorem nuS_stuck {bs : List UInt8} {s : St} (n : Nat) (h : s.2 ≠ 0) : nuS bs s n = s := by simp [nuS, h]
theorem coS_stuck {bs : List UInt8} {s : St} (n : Nat) (h : s.2 ≠ 0) : coS bs s n = s := by simp [coS, h]
theorem zeS_stuck {bs : List UInt8} {s : St} (h : s.2 ≠ 0) : ∀ k, zeS bs s k = s
  | 0 => rfl
  | k + 1 => by unfold zeS; rw [zeS_stuck h k, nuS_stuck _ h, waS_stuck _ h]
theorem clS_stuck {bs : List UInt8} {s : St} (h : s.2 ≠ 0) : ∀ k, clS bs s k = s
  | 0 => rfl
  | k + 1 => by unfold clS; rw [clS_stuck h k, nuS_stuck _ h]
theorem rsS_stuck {bs : List UInt8} {s : St} (h : s.2 ≠ 0) : ∀ k, rsS bs s k = s
  | 0 => rfl
  | k + 1 => by unfold rsS; rw [rsS_stuck h k, clS_stuck h 6]
theorem zeS_stop {bs : List UInt8} {s : St} {i : Nat} (h : (zeS bs s i).2 ≠ 0) : ∀ k, i ≤ k → zeS bs s k = zeS bs s i := by
  intro k hk
  obtain ⟨d, rfl⟩ : ∃ d, k = i + d := ⟨k - i, by omega⟩
  clear hk
  induction d with
  | zero => rfl
  | succ d ih =>
    show waS (nuS bs (zeS bs s (i + d)) 1) (decide (nuV bs (zeS bs s (i + d)) 1 = 0)) = _
    rw [ih, nuS_stuck _ h, waS_stuck _ h]
theorem rsS_stop {bs : List UInt8} {s : St} {i : Nat} (h : (rsS bs s i).2 ≠ 0) : ∀ k, i ≤ k → rsS bs s k = rsS bs s i := by
  intro k hk
  obtain ⟨d, rfl⟩ : ∃ d, k = i + d := ⟨k - i, by omega⟩
  clear hk
  induction d with
  | zero => rfl
  | succ d ih =>
    show clS bs (rsS bs s (i + d)) 6 = _
    rw [ih, clS_stuck h 6]

theorem one_get (bs : List UInt8) (a : Nat) (h : a < bs.length) : leN (seg bs a 1) = bs[a].toNat := by
  have : seg bs a 1 = [bs[a]] := by
    unfold seg
    rw [List.drop_eq_getElem_cons h]
    rfl
  rw [this]
  simp [leN]
theorem byte_no {bs : List UInt8} {a : Nat} (h : bs.length ≤ a) : nuS bs (a, 0) 1 = (a, 1) ∧ nuV bs (a, 0) 1 = 0 := by
  have : ¬ a + 1 ≤ bs.length := by omega
  simp [nuS, nuV, this]
theorem byte_yes {bs : List UInt8} {a : Nat} (h : a < bs.length) : nuS bs (a, 0) 1 = (a + 1, 0) ∧ nuV bs (a, 0) 1 = bs[a].toNat := by
  have h1 : a + 1 ≤ bs.length := by omega
  have := nu_yes (bs := bs) (a := a) (n := 1) h1
  rw [one_get bs a h] at this
  exact this
theorem ze_short {bs : List UInt8} {s : St} {a i : Nat} (hz : zeS bs s i = (a, 0)) (h : bs.length ≤ a) : zeS bs s (i + 1) = (a, 1) := by
  unfold zeS
  rw [hz, (byte_no h).1, (byte_no h).2]; rfl
theorem ze_bad {bs : List UInt8} {s : St} {a i : Nat} (hz : zeS bs s i = (a, 0)) (h : a < bs.length) (hb : bs[a].toNat ≠ 0) : zeS bs s (i + 1) = (a + 1, 2) := by
  unfold zeS
  rw [hz, (byte_yes h).1, (byte_yes h).2, decide_eq_false hb]; rfl
theorem ze_good {bs : List UInt8} {s : St} {a i : Nat} (hz : zeS bs s i = (a, 0)) (h : a < bs.length) (hb : bs[a].toNat = 0) : zeS bs s (i + 1) = (a + 1, 0) := by
  unfold zeS
  rw [hz, (byte_yes h).1, (byte_yes h).2, decide_eq_true hb]; rfl
theorem clS_no {bs : List UInt8} {a : Nat} (ha : a ≤ bs.length) : ∀ k, bs.length < a + 2 * k → (clS bs (a, 0) k).2 = 1
  | 0, h => by omega
  | k + 1, h => by
    unfold clS
    by_cases hk : bs.length < a + 2 * k
    · have h1 := clS_no ha k hk
      rw [nuS_stuck _ (by rw [h1]; decide), h1]
    · rw [clS_yes k (by omega)]
      have : ¬ a + 2 * k + 2 ≤ bs.length := by omega
      simp [nuS, this]

theorem cs_no4 {bs : List UInt8} {s : St} (h : (cs4 bs s).2 ≠ 0) : (csS bs s).2 = (cs4 bs s).2 := by unfold csS; rw [if_neg h]
theorem cs_yes4 {bs : List UInt8} {s : St} (h : (cs4 bs s).2 = 0) : csS bs s = rsS bs (cs4 bs s) (csN bs s) ∧ csL bs s = rsL bs (cs4 bs s) (csN bs s) := by unfold csS csL; rw [if_pos h, if_pos h]; exact ⟨rfl, rfl⟩
theorem cs_no3 {bs : List UInt8} {s : St} (h : (cs3 bs s).2 ≠ 0) : (csS bs s).2 = (cs3 bs s).2 := by
  have h4 : cs4 bs s = cs3 bs s := zeS_stuck h 2
  rw [cs_no4 (by rw [h4]; exact h), h4]
theorem cs_no2 {bs : List UInt8} {s : St} (h : (cs2 bs s).2 ≠ 0) : (csS bs s).2 = (cs2 bs s).2 := by
  have h3 : cs3 bs s = cs2 bs s := by unfold cs3; rw [nuS_stuck _ h, waS_stuck _ h]
  rw [cs_no3 (by rw [h3]; exact h), h3]
theorem cs_no1 {bs : List UInt8} {s : St} (h : (cs1 bs s).2 ≠ 0) : (csS bs s).2 = (cs1 bs s).2 := by
  have h2 : cs2 bs s = cs1 bs s := by unfold cs2; rw [nuS_stuck _ h, waS_stuck _ h]
  rw [cs_no2 (by rw [h2]; exact h), h2]
theorem csS_stuck {bs : List UInt8} {s : St} (h : s.2 ≠ 0) : (csS bs s).2 = s.2 := by
  have h1 : cs1 bs s = s := zeS_stuck h _
  rw [cs_no1 (by rw [h1]; exact h), h1]

/-- The four bytes ahead of clauses, one by one. -/
theorem cs_hd0 {bs : List UInt8} {s : St} {a : Nat} (h : cs1 bs s = (a, 0)) : (bs.length ≤ a → (csS bs s).2 = 1) ∧ ∀ ha : a < bs.length, (bs[a].toNat ≠ 1 → (csS bs s).2 = 2) ∧ (bs[a].toNat = 1 → cs2 bs s = (a + 1, 0)) := by
  refine ⟨fun hs => ?_, fun ha => ⟨fun hb => ?_, fun hb => ?_⟩⟩
  · have h2 : cs2 bs s = (a, 1) := by unfold cs2; rw [h, (byte_no hs).1, waS_stuck _ (by simp)]
    rw [cs_no2 (by rw [h2]; simp), h2]
  · have h2 : cs2 bs s = (a + 1, 2) := by unfold cs2; rw [h, (byte_yes ha).1, (byte_yes ha).2, decide_eq_false hb]; rfl
    rw [cs_no2 (by rw [h2]; simp), h2]
  · unfold cs2; rw [h, (byte_yes ha).1, (byte_yes ha).2, decide_eq_true hb]; rfl
theorem cs_hd1 {bs : List UInt8} {s : St} {a : Nat} (h : cs2 bs s = (a, 0)) : (bs.length ≤ a → (csS bs s).2 = 1) ∧ ∀ ha : a < bs.length, csN bs s = bs[a].toNat ∧ (¬ (1 ≤ bs[a].toNat ∧ bs[a].toNat ≤ 6) → (csS bs s).2 = 2) ∧ (1 ≤ bs[a].toNat ∧ bs[a].toNat ≤ 6 → cs3 bs s = (a + 1, 0)) := by
  refine ⟨fun hs => ?_, fun ha => ?_⟩
  · have h3 : cs3 bs s = (a, 1) := by unfold cs3; rw [h, (byte_no hs).1, waS_stuck _ (by simp)]
    rw [cs_no3 (by rw [h3]; simp), h3]
  · have hN : csN bs s = bs[a].toNat := by unfold csN; rw [h, (byte_yes ha).2]
    refine ⟨hN, fun hb => ?_, fun hb => ?_⟩
    · have hc : cntB (csN bs s) = false := by
        cases hc : cntB (csN bs s) with
        | false => rfl
        | true => rw [hN] at hc; exact absurd ((cntB_iff _).1 hc) hb
      have h3 : cs3 bs s = (a + 1, 2) := by unfold cs3; rw [hc, h, (byte_yes ha).1]; rfl
      rw [cs_no3 (by rw [h3]; simp), h3]
    · have hc : cntB (csN bs s) = true := by rw [hN]; exact (cntB_iff _).2 hb
      unfold cs3; rw [hc, h, (byte_yes ha).1]; rfl
theorem cs_hdz {bs : List UInt8} {s : St} {a k : Nat} (hk : k < 2) (h : zeS bs (cs3 bs s) k = (a, 0)) : (bs.length ≤ a → (csS bs s).2 = 1) ∧ ∀ ha : a < bs.length, (bs[a].toNat ≠ 0 → (csS bs s).2 = 2) ∧ (bs[a].toNat = 0 → zeS bs (cs3 bs s) (k + 1) = (a + 1, 0)) := by
  have key : ∀ b e, zeS bs (cs3 bs s) (k + 1) = (b, e) → e ≠ 0 → (csS bs s).2 = e := fun b e hz he => by
    have h4 : cs4 bs s = (b, e) := by
      unfold cs4
      rw [zeS_stop (i := k + 1) (by rw [hz]; exact he) 2 (by omega), hz]
    rw [cs_no4 (by rw [h4]; exact he), h4]
  exact ⟨fun hs => key _ _ (ze_short h hs) (by decide), fun ha => ⟨fun hb => key _ _ (ze_bad h ha hb) (by decide), fun hb => ze_good h ha hb⟩⟩
/-- Clauses, one by one. -/
theorem cs_short {bs : List UInt8} {s : St} {a q : Nat} (h : cs4 bs s = (a, 0)) (hq : q < csN bs s) (ha : a + 12 * q ≤ bs.length) (hs : bs.length < a + 12 * q + 12) : (csS bs s).2 = 1 := by
  rw [(cs_yes4 (by rw [h])).1, h]
  have h1 : (rsS bs (a, 0) (q + 1)).2 = 1 := by
    show (clS bs (rsS bs (a, 0) q) 6).2 = 1
    rw [rsS_yes q ha]
    exact clS_no ha 6 (by omega)
  rw [rsS_stop (i := q + 1) (by rw [h1]; decide) _ (by omega), h1]
theorem cs_all {bs : List UInt8} {s : St} {a : Nat} (h : cs4 bs s = (a, 0)) (ha : a + 12 * csN bs s ≤ bs.length) : csS bs s = (a + 12 * csN bs s, 0) ∧ csL bs s = rsL bs (a, 0) (csN bs s) := by
  obtain ⟨h1, h2⟩ := cs_yes4 (bs := bs) (s := s) (by rw [h])
  rw [h] at h1 h2
  rw [rsS_yes _ ha] at h1
  exact ⟨h1, h2⟩

theorem rd_no5 {bs : List UInt8} {al : Bool} (hf : boF bs % 4 ≠ 2) (h : (bo5 bs al).2 ≠ 0) : (rdS bs al).2 = (bo5 bs al).2 := by
  unfold rdS
  rw [if_neg hf]
  have h6 : (bo6 bs al).2 = (bo5 bs al).2 := by
    unfold bo6
    split
    · exact csS_stuck h
    · rfl
  rw [waS_stuck _ (by rw [h6]; exact h), h6]
theorem rd_no4 {bs : List UInt8} {al : Bool} (hf : boF bs % 4 ≠ 2) (h : (bo4 bs al).2 ≠ 0) : (rdS bs al).2 = (bo4 bs al).2 := by
  have h5 : bo5 bs al = bo4 bs al := coS_stuck _ h
  rw [rd_no5 hf (by rw [h5]; exact h), h5]
theorem rd_no3 {bs : List UInt8} {al : Bool} (hf : boF bs % 4 ≠ 2) (h : (bo3 bs al).2 ≠ 0) : (rdS bs al).2 = (bo3 bs al).2 := by
  have h4 : bo4 bs al = bo3 bs al := nuS_stuck _ h
  rw [rd_no4 hf (by rw [h4]; exact h), h4]
theorem rd_no2 {bs : List UInt8} {al : Bool} (hf : boF bs % 4 ≠ 2) (h : (bo2 bs al).2 ≠ 0) : (rdS bs al).2 = (bo2 bs al).2 := by
  have h3 : bo3 bs al = bo2 bs al := zeS_stuck h 3
  rw [rd_no3 hf (by rw [h3]; exact h), h3]

/-- Nothing is there. -/
theorem rd_none (al : Bool) : (rdS [] al).2 = 1 := by
  have h1 : bo1 [] = (0, 1) := rfl
  have hF : boF [] = 0 := rfl
  have h2 : bo2 [] al = (0, 1) := by unfold bo2; rw [h1, waS_stuck _ (by decide), waS_stuck _ (by decide)]
  rw [rd_no2 (by rw [hF]; decide) (by rw [h2]; decide), h2]
/-- A first byte. -/
theorem bo_first {bs : List UInt8} (h : 0 < bs.length) : bo1 bs = (1, 0) ∧ boF bs = bs[0].toNat := byte_yes h
theorem bo_bad {bs : List UInt8} {al : Bool} (h : 0 < bs.length) (hb : ¬ (boF bs = 3 ∨ boF bs = 11) ∨ al = false) : bo2 bs al = (1, 2) := by
  unfold bo2
  rw [(bo_first h).1]
  rcases hb with hb | hb
  · have : (decide (boF bs = 3) || decide (boF bs = 11)) = false := by simp; omega
    rw [this]
    show waS (1, 2) al = _
    rw [waS_stuck _ (by decide)]
  · rw [hb]
    cases (decide (boF bs = 3) || decide (boF bs = 11)) <;> rfl
theorem bo_good {bs : List UInt8} {al : Bool} (h : 0 < bs.length) (hb : boF bs = 3 ∨ boF bs = 11) (ha : al = true) : bo2 bs al = (1, 0) := by
  unfold bo2
  rw [(bo_first h).1, ha, show (decide (boF bs = 3) || decide (boF bs = 11)) = true by simpa using hb]
  rfl

end Go.Proofs.Ytfgjlljbpcombaa
