
/- What is read, written again, is the very bytes; what is written is read: bodies. No program is named here. -/
import Derived.Test.YtfgjlljbpcombaaBodyMath
namespace Go.Proofs.Ytfgjlljbpcombaa
set_option linter.unusedVariables false
set_option linter.unusedSimpArgs false
open Go.RowKit

theorem zeS_zero {bs : List UInt8} {s : St} : ∀ k, (zeS bs s k).2 = 0 → s.2 = 0
  | 0, h => h
  | k + 1, h => by
    unfold zeS at h
    exact zeS_zero k (nuS_ok (waS_ok h).1).1

theorem leL_one (bs : List UInt8) (a : Nat) (h : a + 1 ≤ bs.length) : leL (leN (seg bs a 1)) 1 = seg bs a 1 := by
  have hl := seg_len8 bs a 1 h
  have := leL_leN (seg bs a 1)
  rw [hl] at this
  exact this
theorem leL_four (bs : List UInt8) (a : Nat) (h : a + 4 ≤ bs.length) : leL (leN (seg bs a 4)) 4 = seg bs a 4 := by
  have hl := seg_len8 bs a 4 h
  have := leL_leN (seg bs a 4)
  rw [hl] at this
  exact this
theorem one_lt8 (bs : List UInt8) (a : Nat) : leN (seg bs a 1) ≤ 255 := by
  have h := leN_lt (seg bs a 1)
  have hl : (seg bs a 1).length ≤ 1 := by simp [seg]; omega
  have h2 : 256 ^ (seg bs a 1).length ≤ 256 ^ 1 := Nat.pow_le_pow_right (by omega) hl
  omega
theorem cntB_iff (n : Nat) : cntB n = true ↔ 1 ≤ n ∧ n ≤ 6 := by simp [cntB]

/-- Clauses that are read. -/
theorem cs_ok {bs : List UInt8} {a : Nat} (ha : a ≤ bs.length) (h : (csS bs (a, 0)).2 = 0) : ∃ n, (1 ≤ n ∧ n ≤ 6) ∧ a + fillN a + 4 + 12 * n ≤ bs.length ∧ csS bs (a, 0) = (a + fillN a + 4 + 12 * n, 0) ∧ (csL bs (a, 0)).length = n ∧
    (csL bs (a, 0)).all fitR = true ∧ seg bs a (fillN a + 4 + 12 * n) = List.replicate (fillN a) 0 ++ leL 1 1 ++ leL n 1 ++ List.replicate 2 0 ++ clsB (csL bs (a, 0)) := by
  by_cases h4 : (cs4 bs (a, 0)).2 = 0
  · have hS : csS bs (a, 0) = rsS bs (cs4 bs (a, 0)) (csN bs (a, 0)) := by unfold csS; rw [if_pos h4]
    have hL : csL bs (a, 0) = rsL bs (cs4 bs (a, 0)) (csN bs (a, 0)) := by unfold csL; rw [if_pos h4]
    have h3 := zeS_zero 2 h4
    obtain ⟨w1, w2, w3⟩ := waS_ok h3
    obtain ⟨n1, n2, n3, n4⟩ := nuS_ok w1
    obtain ⟨v1, v2, v3⟩ := waS_ok n1
    obtain ⟨m1, m2, m3, m4⟩ := nuS_ok v1
    obtain ⟨z1, z2, z3, z4⟩ := zeS_ok (fillN a) m1 ha
    simp only at z2 z3 z4
    have e1 : cs1 bs (a, 0) = (a + fillN a, 0) := z3
    rw [e1] at m2 m3 m4 v2 v3
    simp only at m2 m3 m4
    have e2 : cs2 bs (a, 0) = (a + fillN a + 1, 0) := by unfold cs2; rw [e1, v3, m3]
    rw [e2] at n2 n3 n4 w3
    simp only at n2 n3 n4
    have e3 : cs3 bs (a, 0) = (a + fillN a + 2, 0) := by unfold cs3; rw [e2, w3, n3]
    have h4' : (zeS bs (a + fillN a + 2, 0) 2).2 = 0 := by rw [← e3]; exact h4
    obtain ⟨y1, y2, y3, y4⟩ := zeS_ok 2 h4' (by simp only; omega)
    simp only at y2 y3 y4
    have e4 : cs4 bs (a, 0) = (a + fillN a + 4, 0) := by unfold cs4; rw [e3, y3]
    have eN : csN bs (a, 0) = leN (seg bs (a + fillN a + 1) 1) := by unfold csN; rw [e2, n4]
    have hc := (cntB_iff _).1 w2
    obtain ⟨n, hn⟩ : ∃ n, n = csN bs (a, 0) := ⟨_, rfl⟩
    rw [← hn] at hc hS hL eN
    rw [hS, e4] at h
    rw [e4] at hS hL
    obtain ⟨r1, r2, r3⟩ := rsS_ok n h (by simp only; omega)
    simp only at r2 r3
    obtain ⟨q1, q2⟩ := rsL_yes (bs := bs) (a := a + fillN a + 4) n r2
    refine ⟨n, hc, r2, by rw [hS, r3], by rw [hL, rsL_length], by rw [hL]; exact q2, ?_⟩
    rw [hL, q1]
    simp only [decide_eq_true_eq] at v2
    rw [m4] at v2
    have s1 : seg bs (a + fillN a) 1 = leL 1 1 := by rw [← leL_one bs (a + fillN a) (by omega), v2]
    have s2 : seg bs (a + fillN a + 1) 1 = leL n 1 := by rw [eN, leL_one bs _ (by omega)]
    rw [← s1, ← s2, ← y4, ← z4]
    rw [show fillN a + 4 + 12 * n = fillN a + 1 + 1 + 2 + 12 * n by omega]
    simp only [seg_add8]
    simp only [Nat.add_assoc, List.append_assoc]
  · exfalso
    unfold csS at h
    rw [if_neg h4] at h
    exact h4 h

theorem body_ok {bs : List UInt8} {al : Bool} (h : (rdS bs al).2 = 0) : rightB (rdC bs al) (rdK bs al) = true ∧ (rdS bs al).1 ≤ bs.length ∧ wrL (rdC bs al) (rdK bs al) = bs.take (rdS bs al).1 ∧ (smallB (rdC bs al) (rdK bs al) = true ∨ al = true) := by
  by_cases hf : boF bs % 4 = 2
  · have hS : rdS bs al = coS bs (bo1 bs) (boF bs / 4) := by simp [rdS, hf]
    have hC : rdC bs al = coL bs (bo1 bs) (boF bs / 4) := by simp [rdC, hf]
    have hK : rdK bs al = [] := by simp [rdK, hf]
    rw [hS] at h
    obtain ⟨c1, c2, c3, c4, c5⟩ := coS_ok h
    obtain ⟨n1, n2, n3, n4⟩ := nuS_ok c1
    have e1 : bo1 bs = (1, 0) := by unfold bo1; rw [n3]
    have eF : boF bs = leN (seg bs 0 1) := by unfold boF; rw [n4]
    rw [e1] at c3 c4 c5
    simp only [Nat.zero_add] at c3 c4 c5 n2
    have hlt := one_lt8 bs 0
    rw [← eF] at hlt
    have hl := seg_len8 bs 1 (boF bs / 4) c3
    have hsm : smallB (rdC bs al) (rdK bs al) = true := by
      rw [hC, hK, e1, c5, smallB_iff, hl]; simp; omega
    rw [e1] at hS hC
    rw [c4] at hS
    rw [c5] at hC
    refine ⟨?_, by rw [hS]; exact c3, ?_, .inl hsm⟩
    · rw [hC, hK, rightB_iff, hl]; simp; omega
    · unfold wrL
      rw [if_pos hsm, hC, hl, show 4 * (boF bs / 4) + 2 = boF bs by omega, hS, eF, leL_one bs 0 (by omega), ← eF, ← seg_zero8]
      simp only
      rw [seg_add8]
  · have hS : rdS bs al = waS (bo6 bs al) (!smallB (boC bs al) (boK bs al)) := by simp [rdS, hf]
    have hC : rdC bs al = boC bs al := by simp [rdC, hf]
    have hK : rdK bs al = boK bs al := by simp [rdK, hf]
    rw [hS] at h
    obtain ⟨w1, w2, w3⟩ := waS_ok h
    rw [w3] at hS
    have h5 : (bo5 bs al).2 = 0 := by
      unfold bo6 at w1
      by_cases h11 : boF bs = 11
      · rw [if_pos h11] at w1
        unfold csS at w1
        have q : (cs4 bs (bo5 bs al)).2 = 0 := by
          by_cases q : (cs4 bs (bo5 bs al)).2 = 0
          · exact q
          · rw [if_neg q] at w1; exact absurd w1 q
        exact zeS_zero _ (nuS_ok (waS_ok (nuS_ok (waS_ok (zeS_zero 2 q)).1).1).1).1
      · rw [if_neg h11] at w1; exact w1
    obtain ⟨c1, c2, c3, c4, c5⟩ := coS_ok h5
    obtain ⟨n1, n2, n3, n4⟩ := nuS_ok c1
    have h2 := zeS_zero 3 n1
    obtain ⟨a1, a2, a3⟩ := waS_ok h2
    obtain ⟨b1, b2, b3⟩ := waS_ok a1
    obtain ⟨f1, f2, f3, f4⟩ := nuS_ok b1
    simp only [Nat.zero_add] at f2 f3 f4
    have e1 : bo1 bs = (1, 0) := f3
    have eF : boF bs = leN (seg bs 0 1) := f4
    have e2 : bo2 bs al = (1, 0) := by unfold bo2; rw [a3, b3, e1]
    obtain ⟨z1, z2, z3, z4⟩ := zeS_ok 3 n1 (by rw [e2]; simp only; omega)
    rw [e2] at z2 z3 z4
    simp only at z2 z3 z4
    have e3 : bo3 bs al = (4, 0) := by unfold bo3; rw [e2, z3]
    rw [e3] at n2 n3 n4
    simp only at n2 n3 n4
    have e4 : bo4 bs al = (8, 0) := by unfold bo4; rw [e3, n3]
    have eN : boN bs al = leN (seg bs 4 4) := by unfold boN; rw [e3, n4]
    rw [e4] at c3 c4 c5
    simp only at c3 c4 c5
    obtain ⟨n, hn⟩ : ∃ n, n = boN bs al := ⟨_, rfl⟩
    rw [← hn] at c2 c3 c4 c5 eN
    have e5 : bo5 bs al = (8 + n, 0) := by unfold bo5; rw [e4, ← hn, c4]
    have eC : boC bs al = seg bs 8 n := by unfold boC; rw [e4, ← hn, c5]
    have hl := seg_len8 bs 8 n c3
    have sF : leL (boF bs) 1 = seg bs 0 1 := by rw [eF, leL_one bs 0 (by omega)]
    have sN : leL n 4 = seg bs 4 4 := by rw [eN, leL_four bs 4 (by omega)]
    have hsm : smallB (boC bs al) (boK bs al) = false := by simpa using w2
    have hhd : seg bs 0 1 ++ List.replicate 3 0 ++ seg bs 4 4 ++ seg bs 8 n = seg bs 0 (8 + n) := by
      rw [show 8 + n = 1 + 3 + 4 + n by omega, ← z4]
      simp only [seg_add8, Nat.zero_add]
    by_cases h11 : boF bs = 11
    · have e6 : bo6 bs al = csS bs (8 + n, 0) := by unfold bo6; rw [if_pos h11, e5]
      have eK : boK bs al = csL bs (8 + n, 0) := by unfold boK; rw [if_pos h11, e5]
      rw [e6] at w1 hS
      obtain ⟨m, m1, m2, m3, m4, m5, m6⟩ := cs_ok c3 w1
      rw [m3] at hS
      refine ⟨?_, by rw [hS]; exact m2, ?_, .inr a2⟩
      · rw [hC, hK, rightB_iff, eC, hl, eK]; exact ⟨by omega, by omega, m5⟩
      · rw [hC, hK, hS]
        simp only
        unfold wrL
        rw [if_neg (by rw [hsm]; decide)]
        have hmk : mkN8 (boK bs al) = boF bs := by unfold mkN8; rw [if_neg (by rw [eK]; omega), h11]
        have hhw : headW (boC bs al) (boK bs al) = seg bs 0 (8 + n) := by unfold headW; rw [hmk, eC, hl, sF, sN, hhd]
        have hhl : (headW (boC bs al) (boK bs al)).length = 8 + n := by rw [hhw, seg_len8 bs 0 (8 + n) (by omega)]
        rw [hhl, hhw]
        unfold tabW
        rw [if_neg (by rw [eK]; omega), eK, m4, ← m6, ← seg_zero8, show 8 + n + fillN (8 + n) + 4 + 12 * m = (8 + n) + (fillN (8 + n) + 4 + 12 * m) by omega, seg_add8 bs 0 (8 + n), Nat.zero_add]
    · have hb2 : boF bs = 3 := by simp only [Bool.or_eq_true, decide_eq_true_eq] at b2; omega
      have e6 : bo6 bs al = (8 + n, 0) := by unfold bo6; rw [if_neg h11, e5]
      have eK : boK bs al = [] := by unfold boK; rw [if_neg h11]
      rw [e6] at hS
      refine ⟨?_, by rw [hS]; exact c3, ?_, .inr a2⟩
      · rw [hC, hK, rightB_iff, eC, hl, eK]; simp; omega
      · rw [hC, hK, hS]
        simp only
        unfold wrL
        rw [if_neg (by rw [hsm]; decide)]
        have hmk : mkN8 (boK bs al) = boF bs := by unfold mkN8; rw [if_pos (by rw [eK]; rfl), hb2]
        have hhw : headW (boC bs al) (boK bs al) = seg bs 0 (8 + n) := by unfold headW; rw [hmk, eC, hl, sF, sN, hhd]
        rw [hhw]
        unfold tabW
        rw [if_pos (by rw [eK]; rfl), List.append_nil, seg_zero8]

/-- What is written is read. -/
theorem body_back {bs : List UInt8} {al : Bool} {c : List UInt8} {l : List Rw} (hr : rightB c l = true) (hal : smallB c l = true ∨ al = true) (hb : (wrL c l).length ≤ bs.length) (hs : seg bs 0 (wrL c l).length = wrL c l) :
    rdS bs al = ((wrL c l).length, 0) ∧ rdC bs al = c ∧ rdK bs al = l := by
  obtain ⟨⟨r1, r2⟩, r3, r4⟩ := (rightB_iff c l).1 hr
  have sub : ∀ i m, i + m ≤ (wrL c l).length → seg bs i m = seg (wrL c l) i m := fun i m him => by
    rw [← hs, seg_seg bs 0 (wrL c l).length i m him, Nat.zero_add]
  by_cases hsm : smallB c l = true
  · obtain ⟨s1, s2⟩ := (smallB_iff c l).1 hsm
    have hl : l = [] := List.eq_nil_of_length_eq_zero s2
    have hw : wrL c l = leL (4 * c.length + 2) 1 ++ c := by unfold wrL; rw [if_pos hsm]
    have hwl : (wrL c l).length = 1 + c.length := by rw [hw]; simp [leL_length]
    rw [hwl] at sub hb ⊢
    have p0 : seg bs 0 1 = leL (4 * c.length + 2) 1 := by
      rw [sub 0 1 (by omega), hw]
      have := seg_mid8 [] (leL (4 * c.length + 2) 1) c
      simpa [leL_length] using this
    have p1 : seg bs 1 c.length = c := by
      rw [sub 1 c.length (by omega), hw]
      have := seg_mid8 (leL (4 * c.length + 2) 1) c []
      simpa [leL_length] using this
    have eF : boF bs = 4 * c.length + 2 := by
      unfold boF
      rw [(nu_yes (bs := bs) (a := 0) (n := 1) (by omega)).2, p0, leN_leL, Nat.mod_eq_of_lt (by omega)]
    have e1 : bo1 bs = (1, 0) := (nu_yes (bs := bs) (a := 0) (n := 1) (by omega)).1
    have hf : boF bs % 4 = 2 := by omega
    have hq : boF bs / 4 = c.length := by omega
    have hlen : lenB (c.length : Int) = true := (lenB_iff _).2 (by omega)
    refine ⟨?_, ?_, ?_⟩
    · unfold rdS; rw [if_pos hf, e1, hq]; unfold coS; simp [hlen, hb]
    · unfold rdC; rw [if_pos hf, e1, hq]; unfold coL; simp [hlen, hb, p1]
    · unfold rdK; rw [if_pos hf, hl]
  · have hal' : al = true := by rcases hal with h | h; exact absurd h hsm; exact h
    have hw : wrL c l = headW c l ++ tabW (headW c l).length l := by unfold wrL; rw [if_neg hsm]
    have hhl := headW_length c l
    have hwl : (wrL c l).length = 8 + c.length + (tabW (c.length + 8) l).length := by rw [hw, hhl]; simp [hhl]; omega
    have mk : mkN8 l = 3 ∨ mkN8 l = 11 := by unfold mkN8; split <;> simp
    have hw2 : wrL c l = leL (mkN8 l) 1 ++ List.replicate 3 0 ++ leL c.length 4 ++ c ++ tabW (c.length + 8) l := by rw [hw, hhl]; rfl
    have p0 : seg bs 0 1 = leL (mkN8 l) 1 := by
      rw [sub 0 1 (by omega), hw2]
      have := seg_mid8 [] (leL (mkN8 l) 1) (List.replicate 3 0 ++ leL c.length 4 ++ c ++ tabW (c.length + 8) l)
      simpa [leL_length] using this
    have p1 : seg bs 1 3 = List.replicate 3 0 := by
      rw [sub 1 3 (by omega), hw2]
      have := seg_mid8 (leL (mkN8 l) 1) (List.replicate 3 0) (leL c.length 4 ++ c ++ tabW (c.length + 8) l)
      simpa [leL_length] using this
    have p4 : seg bs 4 4 = leL c.length 4 := by
      rw [sub 4 4 (by omega), hw2]
      have := seg_mid8 (leL (mkN8 l) 1 ++ List.replicate 3 0) (leL c.length 4) (c ++ tabW (c.length + 8) l)
      simpa [leL_length] using this
    have p8 : seg bs 8 c.length = c := by
      rw [sub 8 c.length (by omega), hw2]
      have := seg_mid8 (leL (mkN8 l) 1 ++ List.replicate 3 0 ++ leL c.length 4) c (tabW (c.length + 8) l)
      simpa [leL_length] using this
    have pt : seg bs (8 + c.length) (tabW (c.length + 8) l).length = tabW (c.length + 8) l := by
      rw [sub (8 + c.length) _ (by omega), hw2]
      have := seg_mid8 (leL (mkN8 l) 1 ++ List.replicate 3 0 ++ leL c.length 4 ++ c) (tabW (c.length + 8) l) []
      have hA : (leL (mkN8 l) 1 ++ List.replicate 3 0 ++ leL c.length 4 ++ c).length = 8 + c.length := by simp [leL_length]; omega
      rw [List.append_nil, hA] at this
      exact this
    have eF : boF bs = mkN8 l := by
      unfold boF
      rw [(nu_yes (bs := bs) (a := 0) (n := 1) (by omega)).2, p0, leN_leL, Nat.mod_eq_of_lt (by omega)]
    have e1 : bo1 bs = (1, 0) := (nu_yes (bs := bs) (a := 0) (n := 1) (by omega)).1
    have hf : ¬ boF bs % 4 = 2 := by omega
    have hb3 : (decide (boF bs = 3) || decide (boF bs = 11)) = true := by rw [eF]; simpa using mk
    have e2 : bo2 bs al = (1, 0) := by unfold bo2; rw [e1, hb3, hal']; rfl
    have e3 : bo3 bs al = (4, 0) := by unfold bo3; rw [e2, zeS_yes 3 (by omega) p1]
    have e4 : bo4 bs al = (8, 0) := by unfold bo4; rw [e3, (nu_yes (bs := bs) (a := 4) (n := 4) (by omega)).1]
    have eN : boN bs al = c.length := by
      unfold boN
      rw [e3, (nu_yes (bs := bs) (a := 4) (n := 4) (by omega)).2, p4, leN_leL, Nat.mod_eq_of_lt (by omega)]
    have hlen : lenB (c.length : Int) = true := (lenB_iff _).2 (by omega)
    have e5 : bo5 bs al = (8 + c.length, 0) := by unfold bo5 coS; rw [e4, eN]; simp [hlen]; omega
    have eC : boC bs al = c := by
      unfold boC coL
      rw [e4, eN]
      have hle : 8 + c.length ≤ bs.length := by omega
      simp [hlen, hle, p8]
    by_cases hl0 : l.length = 0
    · have hl : l = [] := List.eq_nil_of_length_eq_zero hl0
      have h11 : ¬ boF bs = 11 := by rw [eF]; unfold mkN8; rw [if_pos hl0]; decide
      have eK : boK bs al = l := by unfold boK; rw [if_neg h11, hl]
      have e6 : bo6 bs al = (8 + c.length, 0) := by unfold bo6; rw [if_neg h11, e5]
      have ht : (tabW (c.length + 8) l).length = 0 := by unfold tabW; rw [if_pos hl0]; rfl
      refine ⟨?_, ?_, ?_⟩
      · unfold rdS
        rw [if_neg hf, e6, eC, eK, hwl, ht]
        have : smallB c l = false := by simpa using hsm
        rw [this]; rfl
      · unfold rdC; rw [if_neg hf, eC]
      · unfold rdK; rw [if_neg hf, eK]
    · have h11 : boF bs = 11 := by rw [eF]; unfold mkN8; rw [if_neg hl0]
      have htw : tabW (c.length + 8) l = List.replicate (fillN (c.length + 8)) 0 ++ leL 1 1 ++ leL l.length 1 ++ List.replicate 2 0 ++ clsB l := by unfold tabW; rw [if_neg hl0]
      have htl : (tabW (c.length + 8) l).length = fillN (c.length + 8) + 4 + 12 * l.length := by rw [htw]; simp [leL_length, clsB_length]; omega
      obtain ⟨F, hF⟩ : ∃ F, F = fillN (c.length + 8) := ⟨_, rfl⟩
      have hF8 : fillN (8 + c.length) = F := by rw [hF, Nat.add_comm]
      obtain ⟨a, ha⟩ : ∃ a, a = 8 + c.length := ⟨_, rfl⟩
      rw [← hF] at htw htl
      rw [← ha] at hF8 pt e5
      have hle : a + (F + 4 + 12 * l.length) ≤ bs.length := by omega
      have sub2 : ∀ i m, i + m ≤ F + 4 + 12 * l.length → seg bs (a + i) m = seg (tabW (c.length + 8) l) i m := fun i m him => by
        rw [← pt, htl, seg_seg bs a _ i m him]
      have q0 : seg bs a F = List.replicate F 0 := by
        have h0 := sub2 0 F (by omega)
        rw [Nat.add_zero] at h0
        rw [h0, htw]
        have := seg_mid8 [] (List.replicate F 0) (leL 1 1 ++ leL l.length 1 ++ List.replicate 2 0 ++ clsB l)
        simpa [leL_length] using this
      have q1 : seg bs (a + F) 1 = leL 1 1 := by
        rw [sub2 F 1 (by omega), htw]
        have := seg_mid8 (List.replicate F 0) (leL 1 1) (leL l.length 1 ++ List.replicate 2 0 ++ clsB l)
        simpa [leL_length] using this
      have q2 : seg bs (a + F + 1) 1 = leL l.length 1 := by
        rw [Nat.add_assoc, sub2 (F + 1) 1 (by omega), htw]
        have := seg_mid8 (List.replicate F 0 ++ leL 1 1) (leL l.length 1) (List.replicate 2 0 ++ clsB l)
        simpa [leL_length] using this
      have q3 : seg bs (a + F + 2) 2 = List.replicate 2 0 := by
        rw [Nat.add_assoc, sub2 (F + 2) 2 (by omega), htw]
        have := seg_mid8 (List.replicate F 0 ++ leL 1 1 ++ leL l.length 1) (List.replicate 2 0) (clsB l)
        simpa [leL_length] using this
      have q4 : seg bs (a + F + 4) (12 * l.length) = clsB l := by
        rw [Nat.add_assoc, sub2 (F + 4) _ (by omega), htw]
        have := seg_mid8 (List.replicate F 0 ++ leL 1 1 ++ leL l.length 1 ++ List.replicate 2 0) (clsB l) []
        have hA : (List.replicate F (0 : UInt8) ++ leL 1 1 ++ leL l.length 1 ++ List.replicate 2 0).length = F + 4 := by simp [leL_length]
        rw [List.append_nil, hA, clsB_length] at this
        exact this
      have k1 : cs1 bs (a, 0) = (a + F, 0) := by unfold cs1; rw [show fillN (a, (0 : Int)).1 = F from hF8, zeS_yes F (by omega) q0]
      have k2 : cs2 bs (a, 0) = (a + F + 1, 0) := by
        unfold cs2
        obtain ⟨g1, g2⟩ := nu_yes (bs := bs) (a := a + F) (n := 1) (by omega)
        rw [k1, g1, g2, q1]
        rfl
      have kN : csN bs (a, 0) = l.length := by
        unfold csN
        rw [k2, (nu_yes (bs := bs) (a := a + F + 1) (n := 1) (by omega)).2, q2, leN_leL, Nat.mod_eq_of_lt (by omega)]
      have k3 : cs3 bs (a, 0) = (a + F + 2, 0) := by
        unfold cs3
        rw [k2, kN, (nu_yes (bs := bs) (a := a + F + 1) (n := 1) (by omega)).1, (cntB_iff _).2 (by omega)]
        rfl
      have k4 : cs4 bs (a, 0) = (a + F + 4, 0) := by unfold cs4; rw [k3, zeS_yes 2 (by omega) q3]
      have kS : csS bs (a, 0) = (a + F + 4 + 12 * l.length, 0) := by unfold csS; rw [k4, kN, if_pos rfl, rsS_yes _ (by omega)]
      have kL : csL bs (a, 0) = l := by
        unfold csL
        rw [k4, kN, if_pos rfl]
        obtain ⟨g1, g2⟩ := rsL_yes (bs := bs) (a := a + F + 4) l.length (by omega)
        exact clsB_inj (rsL_length _ _ _) g2 r4 (by rw [g1, q4])
      have eK : boK bs al = l := by unfold boK; rw [if_pos h11, e5, kL]
      have e6 : bo6 bs al = (a + F + 4 + 12 * l.length, 0) := by unfold bo6; rw [if_pos h11, e5, kS]
      refine ⟨?_, ?_, ?_⟩
      · unfold rdS
        rw [if_neg hf, e6, eC, eK, hwl, htl]
        have : smallB c l = false := by simpa using hsm
        rw [this]
        show (a + F + 4 + 12 * l.length, (0 : Int)) = _
        rw [ha]
        congr 1
        omega
      · unfold rdC; rw [if_neg hf, eC]
      · unfold rdK; rw [if_neg hf, eK]

end Go.Proofs.Ytfgjlljbpcombaa
