
/- More on types as bytes: errors, and the same bytes from a later place on. -/
import Derived.Test.YtcjoidhbhffcgaaHeads5
namespace Go.Proofs.Ytcjoidhbhffcgaa
set_option linter.unusedVariables false
set_option linter.unusedSimpArgs false
open Go.RowKit

theorem num_bad (bs : List UInt8) (r : Bool) (j c a : Nat) (h : (numR bs r j c a).2.2 ≠ 0) : numR bs r j c a = badR (numR bs r j c a).2.2 := by
  unfold numR at h ⊢
  split
  · rfl
  · rename_i h1
    rw [if_neg h1] at h
    split
    · rename_i h2
      rw [if_pos h2] at h
      split
      · rfl
      · rename_i h3; rw [if_neg h3] at h; exact absurd rfl h
    · rename_i h2
      rw [if_neg h2] at h
      split
      · rfl
      · rename_i h3; rw [if_neg h3] at h; exact absurd rfl h
theorem tail_bad2 (bs : List UInt8) (r : Bool) (j c a : Nat) (h : (tailR bs r j c a).2.2 ≠ 0) : tailR bs r j c a = badR (tailR bs r j c a).2.2 := by
  unfold tailR at h ⊢
  by_cases h1 : c = 1
  · rw [if_pos h1] at h ⊢
    split
    · rfl
    · rename_i h2; rw [if_neg h2] at h; exact absurd rfl h
  rw [if_neg h1] at h ⊢
  by_cases h2 : c = 8
  · rw [if_pos h2] at h; exact absurd rfl h
  rw [if_neg h2] at h ⊢
  by_cases h3 : c = 10
  · rw [if_pos h3] at h; exact absurd rfl h
  rw [if_neg h3] at h ⊢
  by_cases h4 : c = 28
  · rw [if_pos h4] at h; exact absurd rfl h
  rw [if_neg h4] at h ⊢
  by_cases h5 : c = 17 ∨ c = 18 ∨ c = 19
  · rw [if_pos h5] at h ⊢
    exact num_bad bs r j c a h
  · rw [if_neg h5]; rfl
theorem getD_bad (bs : List UInt8) (r : Bool) : ∀ (n a : Nat), (getD bs r n a).2.2 ≠ 0 → getD bs r n a = badR (getD bs r n a).2.2 := by
  intro n
  induction n with
  | zero =>
    intro a h
    unfold getD at h ⊢
    by_cases hl : a < bs.length
    · rw [dif_pos hl] at h ⊢
      by_cases h29 : bs[a].toNat = 29
      · rw [if_pos h29]; rfl
      · rw [if_neg h29] at h ⊢
        exact tail_bad2 bs r 3 _ _ h
    · rw [dif_neg hl]; rfl
  | succ n ih =>
    intro a h
    unfold getD at h ⊢
    by_cases hl : a < bs.length
    · rw [dif_pos hl] at h ⊢
      by_cases h29 : bs[a].toNat = 29
      · rw [if_pos h29] at h ⊢; exact ih _ h
      · rw [if_neg h29] at h ⊢
        exact tail_bad2 bs r _ _ _ h
    · rw [dif_neg hl]; rfl
theorem get_bad (bs : List UInt8) (a : Nat) (h : (getT bs a).2.2 ≠ 0) : getT bs a = badR (getT bs a).2.2 := by
  unfold getT at h ⊢
  by_cases hl : a < bs.length
  · rw [dif_pos hl] at h ⊢
    by_cases h16 : bs[a].toNat = 16
    · rw [if_pos h16] at h ⊢; exact getD_bad bs true 3 _ h
    · rw [if_neg h16] at h ⊢; exact getD_bad bs false 3 _ h
  · rw [dif_neg hl]; rfl

/-- Read from n bytes further on. -/
def shR (n : Nat) (g : Ty × Nat × Nat) : Ty × Nat × Nat := if g.2.2 = 0 then (g.1, n + g.2.1, 0) else g

theorem unp_shift (bs : List UInt8) (n a : Nat) (h : n + a ≤ bs.length) : unp bs (n + a) = unp (bs.drop n) a := by
  rw [unp_drop bs (n + a) h, unp_drop (bs.drop n) a (by simp; omega), List.drop_drop]

theorem num_shift (bs : List UInt8) (r : Bool) (j c n a : Nat) (h : n + a ≤ bs.length) : numR bs r j c (n + a) = shR n (numR (bs.drop n) r j c a) := by
  unfold numR
  rw [unp_shift bs n a h]
  generalize unp (bs.drop n) a = u
  by_cases h1 : u.2.2 ≠ 0
  · rw [if_pos h1, if_pos h1]; unfold shR badR; rw [if_neg h1]
  · rw [if_neg h1, if_neg h1]
    by_cases h2 : c = 19
    · rw [if_pos h2, if_pos h2]
      by_cases h3 : 7 < u.1
      · rw [if_pos h3, if_pos h3]; rfl
      · rw [if_neg h3, if_neg h3]; simp [shR]; omega
    · rw [if_neg h2, if_neg h2]
      by_cases h3 : codedE (u.1 : Int) ≠ 0 ∨ codedT (u.1 : Int) ≠ 0 ∨ 32 < codedR (u.1 : Int)
      · rw [if_pos h3, if_pos h3]; rfl
      · rw [if_neg h3, if_neg h3]; simp [shR]; omega
theorem tail_shift (bs : List UInt8) (r : Bool) (j c n a : Nat) (h : n + a ≤ bs.length) : tailR bs r j c (n + a) = shR n (tailR (bs.drop n) r j c a) := by
  unfold tailR
  by_cases h1 : c = 1
  · rw [if_pos h1, if_pos h1]
    by_cases h2 : r = true ∨ 0 < j
    · rw [if_pos h2, if_pos h2]; rfl
    · rw [if_neg h2, if_neg h2]; rfl
  rw [if_neg h1, if_neg h1]
  by_cases h2 : c = 8
  · rw [if_pos h2, if_pos h2]; rfl
  rw [if_neg h2, if_neg h2]
  by_cases h3 : c = 10
  · rw [if_pos h3, if_pos h3]; rfl
  rw [if_neg h3, if_neg h3]
  by_cases h4 : c = 28
  · rw [if_pos h4, if_pos h4]; rfl
  rw [if_neg h4, if_neg h4]
  by_cases h5 : c = 17 ∨ c = 18 ∨ c = 19
  · rw [if_pos h5, if_pos h5]; exact num_shift bs r j c n a h
  · rw [if_neg h5, if_neg h5]; rfl
theorem getD_shift (bs : List UInt8) (r : Bool) (n : Nat) : ∀ (m a : Nat), n + a ≤ bs.length → getD bs r m (n + a) = shR n (getD (bs.drop n) r m a) := by
  intro m
  induction m with
  | zero =>
    intro a h
    unfold getD
    by_cases hl : n + a < bs.length
    · have hl2 : a < (bs.drop n).length := by simp; omega
      have e : (bs.drop n)[a] = bs[n + a] := by simp
      rw [dif_pos hl, dif_pos hl2, e]
      by_cases h29 : bs[n + a].toNat = 29
      · rw [if_pos h29, if_pos h29]; rfl
      · rw [if_neg h29, if_neg h29]
        exact tail_shift bs r 3 _ n (a + 1) (by omega)
    · have hl2 : ¬ a < (bs.drop n).length := by simp; omega
      rw [dif_neg hl, dif_neg hl2]; rfl
  | succ m ih =>
    intro a h
    unfold getD
    by_cases hl : n + a < bs.length
    · have hl2 : a < (bs.drop n).length := by simp; omega
      have e : (bs.drop n)[a] = bs[n + a] := by simp
      rw [dif_pos hl, dif_pos hl2, e]
      by_cases h29 : bs[n + a].toNat = 29
      · rw [if_pos h29, if_pos h29]
        exact ih (a + 1) (by omega)
      · rw [if_neg h29, if_neg h29]
        exact tail_shift bs r _ _ n (a + 1) (by omega)
    · have hl2 : ¬ a < (bs.drop n).length := by simp; omega
      rw [dif_neg hl, dif_neg hl2]; rfl
theorem get_shift (bs : List UInt8) (n a : Nat) (h : n + a ≤ bs.length) : getT bs (n + a) = shR n (getT (bs.drop n) a) := by
  unfold getT
  by_cases hl : n + a < bs.length
  · have hl2 : a < (bs.drop n).length := by simp; omega
    have e : (bs.drop n)[a] = bs[n + a] := by simp
    rw [dif_pos hl, dif_pos hl2, e]
    by_cases h16 : bs[n + a].toNat = 16
    · rw [if_pos h16, if_pos h16]
      exact getD_shift bs true n 3 (a + 1) (by omega)
    · rw [if_neg h16, if_neg h16]
      exact getD_shift bs false n 3 a h
  · have hl2 : ¬ a < (bs.drop n).length := by simp; omega
    rw [dif_neg hl, dif_neg hl2]; rfl

/-- A type, and no more: type and error. -/
def whT (bs : List UInt8) : Ty := if (getT bs 0).2.2 = 0 ∧ (getT bs 0).2.1 < bs.length then (0, 0, 0, false) else (getT bs 0).1
def whE (bs : List UInt8) : Nat := if (getT bs 0).2.2 = 0 ∧ (getT bs 0).2.1 < bs.length then 2 else (getT bs 0).2.2

theorem may0 (t : Ty) : mayT 0 t = plainT t := rfl
theorem last0 (bs : List UInt8) : (lastR 0 bs (getT bs 0)).1 = whT bs ∧ (lastR 0 bs (getT bs 0)).2.2 = whE bs := by
  unfold lastR whT whE
  by_cases h : (getT bs 0).2.2 = 0
  · have hp := (get_ok bs 0 (Nat.zero_le _) h).1
    rw [if_neg (by simpa using h)]
    by_cases h2 : (getT bs 0).2.1 < bs.length
    · rw [if_pos h2, if_pos ⟨h, h2⟩, if_pos ⟨h, h2⟩]; exact ⟨rfl, rfl⟩
    · rw [if_neg h2, if_pos (by rw [may0]; exact hp), if_neg (by simp [h2]), if_neg (by simp [h2])]; exact ⟨rfl, rfl⟩
  · have hb := get_bad bs 0 h
    rw [if_pos h, if_neg (by simp [h]), if_neg (by simp [h])]
    generalize getT bs 0 = g at *
    refine ⟨?_, rfl⟩
    rw [hb]; rfl

theorem field_eq (bs : List UInt8) (h : hdE [6] bs 0 = 0) (hl : 1 ≤ bs.length) :
    (fieldR bs).1 = (if whE (bs.drop 1) = 0 ∧ mayT 1 (whT (bs.drop 1)) = false then (0, 0, 0, false) else whT (bs.drop 1)) ∧
    (fieldR bs).2.2 = (if whE (bs.drop 1) = 0 ∧ mayT 1 (whT (bs.drop 1)) = false then 10 else whE (bs.drop 1)) := by
  have hs := get_shift bs 1 0 (by omega)
  rw [Nat.add_zero] at hs
  unfold fieldR
  rw [if_neg (by simpa using h), hs]
  have hb := get_bad (bs.drop 1) 0
  unfold whT whE
  have hlen : (bs.drop 1).length = bs.length - 1 := by simp
  generalize getT (bs.drop 1) 0 = g at *
  obtain ⟨t, at_, er⟩ := g
  simp only at *
  by_cases he : er = 0
  · subst he
    unfold shR lastR
    simp only [if_true, ne_eq, not_true_eq_false, if_false, true_and]
    by_cases h2 : at_ < (bs.drop 1).length
    · have h3 : 1 + at_ < bs.length := by omega
      rw [if_pos h3]
      simp only [h2, if_true]
      simp [badR]
    · have h3 : ¬ 1 + at_ < bs.length := by omega
      rw [if_neg h3]
      simp only [h2, if_false, true_and]
      by_cases hm : mayT 1 t = true
      · rw [if_pos hm]; simp [hm]
      · have hm' : mayT 1 t = false := by simpa using hm
        rw [if_neg hm]; simp [hm', badR]
  · have hb2 := hb he
    unfold shR lastR
    rw [if_neg he]
    simp only [he, false_and, if_false, ne_eq, not_false_eq_true, if_true]
    rw [Prod.mk.injEq] at hb2
    exact ⟨hb2.1.symm, rfl⟩

end Go.Proofs.Ytcjoidhbhffcgaa
