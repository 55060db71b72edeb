
/- What is read, written again, is the very bytes; what is written is read. No program is named here. -/
import Derived.Test.YtfgjlljbpcombaaBodySpec
namespace Go.Proofs.Ytfgjlljbpcombaa
set_option linter.unusedVariables false
set_option linter.unusedSimpArgs false
open Go.RowKit

theorem leN_inj8 : ∀ (a b : List UInt8), a.length = b.length → leN a = leN b → a = b
  | [], [], _, _ => rfl
  | [], _ :: _, h, _ => by simp at h
  | _ :: _, [], h, _ => by simp at h
  | x :: a, y :: b, h, e => by
    simp only [leN] at e
    have hx := x.toNat_lt
    have hy := y.toNat_lt
    have h1 : x.toNat = y.toNat := by omega
    have h2 : leN a = leN b := by omega
    rw [leN_inj8 a b (by simpa using h) h2, UInt8.toNat_inj.1 h1]
theorem leL_of8 {x w : Nat} {s : List UInt8} (hl : s.length = w) (h : x % 256 ^ w = leN s) : leL x w = s :=
  leN_inj8 _ _ (by rw [leL_length, hl]) (by rw [leN_leL, h])
theorem leL_leN (s : List UInt8) : leL (leN s) s.length = s := leL_of8 rfl (Nat.mod_eq_of_lt (leN_lt s))
theorem seg_mid8 (a b c : List UInt8) : seg (a ++ b ++ c) a.length b.length = b := by
  unfold seg
  simp
theorem seg_add8 (bs : List UInt8) (a m n : Nat) : seg bs a (m + n) = seg bs a m ++ seg bs (a + m) n := by
  unfold seg
  rw [List.take_add, List.drop_drop]
theorem seg_seg (bs : List UInt8) (a n i m : Nat) (h : i + m ≤ n) : seg (seg bs a n) i m = seg bs (a + i) m := by
  unfold seg
  rw [List.drop_take, List.take_take, List.drop_drop, Nat.min_eq_left (by omega)]
theorem seg_zero8 (bs : List UInt8) (n : Nat) : seg bs 0 n = bs.take n := by simp [seg]
theorem seg_len8 (bs : List UInt8) (a n : Nat) (h : a + n ≤ bs.length) : (seg bs a n).length = n := seg_length bs a n h

theorem nuS_ok {bs : List UInt8} {s : St} {n : Nat} (h : (nuS bs s n).2 = 0) : s.2 = 0 ∧ s.1 + n ≤ bs.length ∧ nuS bs s n = (s.1 + n, 0) ∧ nuV bs s n = leN (seg bs s.1 n) := by
  unfold nuS at h ⊢
  unfold nuV
  by_cases h0 : s.2 = 0
  · by_cases h1 : s.1 + n ≤ bs.length
    · simp [h0, h1]
    · simp [h0, h1] at h
  · simp [h0] at h
theorem waS_ok {s : St} {b : Bool} (h : (waS s b).2 = 0) : s.2 = 0 ∧ b = true ∧ waS s b = s := by
  unfold waS at h ⊢
  by_cases h0 : s.2 = 0
  · cases b with
    | true => simp [h0]
    | false => simp [h0] at h
  · simp [h0] at h
theorem coS_ok {bs : List UInt8} {s : St} {n : Nat} (h : (coS bs s n).2 = 0) : s.2 = 0 ∧ (1 ≤ n ∧ n ≤ 65535) ∧ s.1 + n ≤ bs.length ∧ coS bs s n = (s.1 + n, 0) ∧ coL bs s n = seg bs s.1 n := by
  unfold coS at h ⊢
  unfold coL
  by_cases h0 : s.2 = 0
  · by_cases hl : lenB (n : Int) = true
    · by_cases h1 : s.1 + n ≤ bs.length
      · have := (lenB_iff _).1 hl
        simp [h0, h1, hl]; omega
      · simp [h0, h1, hl] at h
    · simp [h0, hl] at h
  · simp [h0] at h
theorem one_zero {bs : List UInt8} {a : Nat} (h : a + 1 ≤ bs.length) (hz : leN (seg bs a 1) = 0) : seg bs a 1 = [0] := by
  have hl := seg_len8 bs a 1 h
  refine leN_inj8 _ _ (by rw [hl]; rfl) ?_
  rw [hz]; rfl
theorem zeS_ok {bs : List UInt8} {s : St} : ∀ k, (zeS bs s k).2 = 0 → s.1 ≤ bs.length → s.2 = 0 ∧ s.1 + k ≤ bs.length ∧ zeS bs s k = (s.1 + k, 0) ∧ seg bs s.1 k = List.replicate k 0
  | 0, h, hs => ⟨h, hs, by show s = _; obtain ⟨a, e⟩ := s; simp only [zeS] at h; subst h; rfl, by simp [seg]⟩
  | k + 1, h, hs => by
    unfold zeS at h ⊢
    obtain ⟨h1, h2, h3⟩ := waS_ok h
    obtain ⟨g1, g2, g3, g4⟩ := nuS_ok h1
    obtain ⟨i1, i2, i3, i4⟩ := zeS_ok k g1 hs
    rw [h3, g3, i3]
    rw [i3] at g2 g4
    simp only at g2 g4
    refine ⟨i1, by omega, rfl, ?_⟩
    simp only [decide_eq_true_eq] at h2
    rw [i3, g4] at h2
    rw [seg_add8, i4, one_zero (by omega) h2, List.replicate_succ']
theorem clS_ok {bs : List UInt8} {s : St} : ∀ k, (clS bs s k).2 = 0 → s.1 ≤ bs.length → s.2 = 0 ∧ s.1 + 2 * k ≤ bs.length ∧ clS bs s k = (s.1 + 2 * k, 0)
  | 0, h, hs => ⟨h, hs, by show s = _; obtain ⟨a, e⟩ := s; simp only [clS] at h; subst h; rfl⟩
  | k + 1, h, hs => by
    unfold clS at h ⊢
    obtain ⟨g1, g2, g3, g4⟩ := nuS_ok h
    obtain ⟨i1, i2, i3⟩ := clS_ok k g1 hs
    rw [g3, i3]
    rw [i3] at g2
    simp only at g2
    exact ⟨i1, by omega, by simp; omega⟩

theorem nu_yes {bs : List UInt8} {a n : Nat} (h : a + n ≤ bs.length) : nuS bs (a, 0) n = (a + n, 0) ∧ nuV bs (a, 0) n = leN (seg bs a n) := by simp [nuS, nuV, h]
theorem zeS_yes {bs : List UInt8} {a : Nat} : ∀ k, a + k ≤ bs.length → seg bs a k = List.replicate k 0 → zeS bs (a, 0) k = (a + k, 0)
  | 0, _, _ => rfl
  | k + 1, h, hz => by
    rw [seg_add8, List.replicate_succ'] at hz
    obtain ⟨h1, h2⟩ := List.append_inj hz (by rw [seg_len8 bs a k (by omega), List.length_replicate])
    unfold zeS
    rw [zeS_yes k (by omega) h1]
    obtain ⟨g1, g2⟩ := nu_yes (bs := bs) (a := a + k) (n := 1) (by omega)
    rw [g1, g2, h2]
    rfl
theorem clS_yes {bs : List UInt8} {a : Nat} : ∀ k, a + 2 * k ≤ bs.length → clS bs (a, 0) k = (a + 2 * k, 0)
  | 0, _ => rfl
  | k + 1, h => by
    unfold clS
    rw [clS_yes k (by omega), (nu_yes (bs := bs) (a := a + 2 * k) (n := 2) (by omega)).1]
    simp; omega
theorem clV_yes {bs : List UInt8} {a : Nat} (k : Nat) (h : a + 2 * k + 2 ≤ bs.length) : clV bs (a, 0) k = (leN (seg bs (a + 2 * k) 2) : Int) := by
  unfold clV
  rw [clS_yes k (by omega), (nu_yes (bs := bs) (a := a + 2 * k) (n := 2) (by omega)).2]
theorem two_lt8 (bs : List UInt8) (a : Nat) : leN (seg bs a 2) ≤ 65535 := by
  have h := leN_lt (seg bs a 2)
  have hl : (seg bs a 2).length ≤ 2 := by simp [seg]; omega
  have h2 : 256 ^ (seg bs a 2).length ≤ 256 ^ 2 := Nat.pow_le_pow_right (by omega) hl
  omega
theorem leL_two (bs : List UInt8) (a : Nat) (h : a + 2 ≤ bs.length) : leL ((leN (seg bs a 2) : Int).toNat) 2 = seg bs a 2 := by
  have hl := seg_len8 bs a 2 h
  have := leL_leN (seg bs a 2)
  rw [hl] at this
  simpa using this
theorem clR_yes {bs : List UInt8} {a : Nat} (h : a + 12 ≤ bs.length) : clB (clR bs (a, 0)) = seg bs a 12 ∧ fitR (clR bs (a, 0)) = true := by
  have q : ∀ k, k < 6 → clV bs (a, 0) k = (leN (seg bs (a + 2 * k) 2) : Int) := fun k hk => clV_yes k (by omega)
  unfold clR
  rw [q 0 (by omega), q 1 (by omega), q 2 (by omega), q 3 (by omega), q 4 (by omega), q 5 (by omega)]
  constructor
  · simp only [clB, numsR, List.flatMap_cons, List.flatMap_nil, List.append_nil]
    rw [leL_two bs (a + 2 * 0) (by omega), leL_two bs (a + 2 * 1) (by omega), leL_two bs (a + 2 * 2) (by omega), leL_two bs (a + 2 * 3) (by omega), leL_two bs (a + 2 * 4) (by omega), leL_two bs (a + 2 * 5) (by omega)]
    rw [show (12 : Nat) = 2 + (2 + (2 + (2 + (2 + 2)))) by rfl]
    simp only [seg_add8]
    simp only [Nat.mul_zero, Nat.add_zero, Nat.add_assoc]
  · have h0 := two_lt8 bs (a + 2 * 0)
    have h1 := two_lt8 bs (a + 2 * 1)
    have h2 := two_lt8 bs (a + 2 * 2)
    have h3 := two_lt8 bs (a + 2 * 3)
    have h4 := two_lt8 bs (a + 2 * 4)
    have h5 := two_lt8 bs (a + 2 * 5)
    simp only [fitR, numsR, List.all_cons, List.all_nil, Bool.and_eq_true, fitN_iff, and_true]
    omega
theorem rsS_yes {bs : List UInt8} {a : Nat} : ∀ n, a + 12 * n ≤ bs.length → rsS bs (a, 0) n = (a + 12 * n, 0)
  | 0, _ => rfl
  | n + 1, h => by
    unfold rsS
    rw [rsS_yes n (by omega), clS_yes 6 (by omega)]
    simp; omega
theorem rsS_ok {bs : List UInt8} {s : St} : ∀ n, (rsS bs s n).2 = 0 → s.1 ≤ bs.length → s.2 = 0 ∧ s.1 + 12 * n ≤ bs.length ∧ rsS bs s n = (s.1 + 12 * n, 0)
  | 0, h, hs => ⟨h, hs, by show s = _; obtain ⟨a, e⟩ := s; simp only [rsS] at h; subst h; rfl⟩
  | n + 1, h, hs => by
    unfold rsS at h ⊢
    have h6 : (rsS bs s n).2 = 0 := by
      have h' : (clS bs (rsS bs s n) 6).2 = 0 := h
      have q : ∀ (t : St) k, (clS bs t k).2 = 0 → t.2 = 0 := fun t k => by
        induction k with
        | zero => exact id
        | succ k ih => intro hk; unfold clS at hk; exact ih (nuS_ok hk).1
      exact q _ 6 h'
    obtain ⟨i1, i2, i3⟩ := rsS_ok n h6 hs
    rw [i3] at h ⊢
    obtain ⟨g1, g2, g3⟩ := clS_ok 6 h (by simp only; omega)
    simp only at g2
    rw [g3]
    exact ⟨i1, by omega, by simp; omega⟩
theorem rsL_yes {bs : List UInt8} {a : Nat} : ∀ n, a + 12 * n ≤ bs.length → clsB (rsL bs (a, 0) n) = seg bs a (12 * n) ∧ (rsL bs (a, 0) n).all fitR = true
  | 0, _ => ⟨by simp [rsL, clsB, seg], rfl⟩
  | n + 1, h => by
    obtain ⟨h1, h2⟩ := rsL_yes (bs := bs) (a := a) n (by omega)
    obtain ⟨g1, g2⟩ := clR_yes (bs := bs) (a := a + 12 * n) (by omega)
    rw [rsL_succ, clsB_snoc, h1, rsS_yes n (by omega), g1, List.all_append, h2]
    refine ⟨?_, by simp [g2]⟩
    rw [show 12 * (n + 1) = 12 * n + 12 by omega, seg_add8]

/-- A clause's bytes tell it. -/
theorem leL_inj2 {x y : Int} (hx : 0 ≤ x ∧ x ≤ 65535) (hy : 0 ≤ y ∧ y ≤ 65535) (h : leL x.toNat 2 = leL y.toNat 2) : x = y := by
  have := congrArg leN h
  rw [leN_leL, leN_leL, Nat.mod_eq_of_lt (by omega), Nat.mod_eq_of_lt (by omega)] at this
  omega
theorem clB_inj {r t : Rw} (hr : fitR r = true) (ht : fitR t = true) (h : clB r = clB t) : r = t := by
  obtain ⟨a, b, c, d, e, f⟩ := r
  obtain ⟨a', b', c', d', e', f'⟩ := t
  simp only [fitR, numsR, List.all_cons, List.all_nil, Bool.and_eq_true, fitN_iff, and_true] at hr ht
  simp only [clB, numsR, List.flatMap_cons, List.flatMap_nil, List.append_nil] at h
  obtain ⟨h0, h⟩ := List.append_inj h (by rw [leL_length, leL_length])
  obtain ⟨h1, h⟩ := List.append_inj h (by rw [leL_length, leL_length])
  obtain ⟨h2, h⟩ := List.append_inj h (by rw [leL_length, leL_length])
  obtain ⟨h3, h⟩ := List.append_inj h (by rw [leL_length, leL_length])
  obtain ⟨h4, h5⟩ := List.append_inj h (by rw [leL_length, leL_length])
  rw [leL_inj2 hr.1 ht.1 h0, leL_inj2 hr.2.1 ht.2.1 h1, leL_inj2 hr.2.2.1 ht.2.2.1 h2, leL_inj2 hr.2.2.2.1 ht.2.2.2.1 h3, leL_inj2 hr.2.2.2.2.1 ht.2.2.2.2.1 h4, leL_inj2 hr.2.2.2.2.2 ht.2.2.2.2.2 h5]
theorem clsB_inj : ∀ {l m : List Rw}, l.length = m.length → l.all fitR = true → m.all fitR = true → clsB l = clsB m → l = m
  | [], [], _, _, _, _ => rfl
  | [], _ :: _, h, _, _, _ => by simp at h
  | _ :: _, [], h, _, _, _ => by simp at h
  | r :: l, t :: m, h, hl, hm, e => by
    simp only [List.all_cons, Bool.and_eq_true] at hl hm
    simp only [clsB, List.flatMap_cons] at e
    obtain ⟨e1, e2⟩ := List.append_inj e (by rw [clB_length, clB_length])
    rw [clB_inj hl.1 hm.1 e1, clsB_inj (by simpa using h) hl.2 hm.2 e2]

end Go.Proofs.Ytfgjlljbpcombaa
