
/- Layer 3 by definition: how the references look for a tag, and for a byte that is somebody's already. No program is named here. -/
import Derived.Test.YtbehcdpjpjklfaaStreamPlain
namespace Go.Proofs.Ytbehcdpjpjklfaa
set_option linter.unusedVariables false
set_option linter.unusedSimpArgs false
open Go.RowKit

/-- The tag that a search over the first j tags, the last one that fits, finds. -/
def tagTo (met : List Nat) (t : List UInt8) : Nat → Option Nat
  | 0 => none
  | j + 1 => if tagB j = t ∧ j ∉ met then some j else tagTo met t j

theorem tagB_inj {i j : Nat} (hi : i < 4) (hj : j < 4) (h : tagB i = tagB j) : i = j := by
  match i, j, hi, hj with
  | 0, 0, _, _ => rfl
  | 0, 1, _, _ => simp [tagB] at h
  | 0, 2, _, _ => simp [tagB] at h
  | 0, 3, _, _ => simp [tagB] at h
  | 1, 0, _, _ => simp [tagB] at h
  | 1, 1, _, _ => rfl
  | 1, 2, _, _ => simp [tagB] at h
  | 1, 3, _, _ => simp [tagB] at h
  | 2, 0, _, _ => simp [tagB] at h
  | 2, 1, _, _ => simp [tagB] at h
  | 2, 2, _, _ => rfl
  | 2, 3, _, _ => simp [tagB] at h
  | 3, 0, _, _ => simp [tagB] at h
  | 3, 1, _, _ => simp [tagB] at h
  | 3, 2, _, _ => simp [tagB] at h
  | 3, 3, _, _ => rfl

theorem tagTo_some {met : List Nat} {t : List UInt8} : ∀ {j k : Nat}, tagTo met t j = some k → k < j ∧ tagB k = t ∧ k ∉ met
  | 0, k, h => by simp [tagTo] at h
  | j + 1, k, h => by
    unfold tagTo at h
    split at h
    · rename_i hc
      simp only [Option.some.injEq] at h
      subst h
      exact ⟨by omega, hc.1, hc.2⟩
    · obtain ⟨h1, h2, h3⟩ := tagTo_some h
      exact ⟨by omega, h2, h3⟩
theorem tagTo_none {met : List Nat} {t : List UInt8} : ∀ {j : Nat}, tagTo met t j = none → ∀ k, k < j → ¬ (tagB k = t ∧ k ∉ met)
  | 0, _, k, hk => by omega
  | j + 1, h, k, hk => by
    unfold tagTo at h
    split at h
    · simp at h
    · rename_i hc
      by_cases e : k = j
      · subst e; exact hc
      · exact tagTo_none h k (by omega)

theorem tagOf_none {met : List Nat} {t : List UInt8} (h : tagOf met t = none) : ∀ k, k < 4 → ¬ (tagB k = t ∧ k ∉ met) := by
  intro k hk hc
  unfold tagOf at h
  rw [List.find?_eq_none] at h
  have hm : k ∈ [0, 1, 2, 3] := by
    match k, hk with
    | 0, _ => simp
    | 1, _ => simp
    | 2, _ => simp
    | 3, _ => simp
  have := h k hm
  simp only [Bool.and_eq_true, decide_eq_true_eq, Bool.not_eq_true', List.contains_eq_mem, decide_eq_false_iff_not] at this
  exact this ⟨hc.1, hc.2⟩

theorem tagTo_all (met : List Nat) (t : List UInt8) : tagTo met t 4 = tagOf met t := by
  cases h1 : tagTo met t 4 with
  | none =>
    cases h2 : tagOf met t with
    | none => rfl
    | some k =>
      obtain ⟨a, b, c⟩ := tagOf_some h2
      exact absurd ⟨c, b⟩ (tagTo_none h1 k a)
  | some j =>
    obtain ⟨a, b, c⟩ := tagTo_some h1
    cases h2 : tagOf met t with
    | none => exact absurd ⟨b, c⟩ (tagOf_none h2 j a)
    | some k =>
      obtain ⟨a', b', c'⟩ := tagOf_some h2
      rw [tagB_inj a a' (b.trans c'.symm)]

/-- The byte is somebody's. -/
def taken (ivs : List (Nat × Nat)) (j : Nat) : Bool := ivs.any fun p => decide (p.1 ≤ j) && decide (j < p.1 + p.2)

theorem taken_snoc (ivs : List (Nat × Nat)) (a n j : Nat) : taken (ivs ++ [(a, n)]) j = (taken ivs j || (decide (a ≤ j) && decide (j < a + n))) := by simp [taken]

theorem shares_yes {ivs : List (Nat × Nat)} {a n j : Nat} (h1 : a ≤ j) (h2 : j < a + n) (h : taken ivs j = true) : shares ivs a n = true := by
  unfold taken at h
  rw [List.any_eq_true] at h
  obtain ⟨p, hp, hq⟩ := h
  simp only [Bool.and_eq_true, decide_eq_true_eq] at hq
  unfold shares
  rw [List.any_eq_true]
  exact ⟨p, hp, by simp only [decide_eq_true_eq]; omega⟩
theorem shares_no {ivs : List (Nat × Nat)} {a n : Nat} (h : ∀ j, a ≤ j → j < a + n → taken ivs j = false) : shares ivs a n = false := by
  unfold shares
  rw [List.any_eq_false]
  intro p hp
  simp only [decide_eq_true_eq]
  intro hc
  have := h (max p.1 a) (by omega) (by omega)
  unfold taken at this
  rw [List.any_eq_false] at this
  have := this p hp
  simp only [Bool.and_eq_true, decide_eq_true_eq] at this
  omega

end Go.Proofs.Ytbehcdpjpjklfaa
