
/- Layer 3 by definition: what is parted is joined by no more bytes, but for what fills up. No program is named here. -/
import Derived.Test.YtbehcdpjpjklfaaStreamSpec
namespace Go.Proofs.Ytbehcdpjpjklfaa
set_option linter.unusedVariables false
set_option linter.unusedSimpArgs false
open Go.RowKit

def apart (a n b m : Nat) : Prop := ¬ (max a b < min (a + n) (b + m))

theorem four_fit (lo hi a b c d n m p q : Nat) (hab : apart a n b m) (hac : apart a n c p) (had : apart a n d q) (hbc : apart b m c p) (hbd : apart b m d q) (hcd : apart c p d q)
    (ha : lo ≤ a ∧ a + n ≤ hi) (hb : lo ≤ b ∧ b + m ≤ hi) (hc : lo ≤ c ∧ c + p ≤ hi) (hd : lo ≤ d ∧ d + q ≤ hi) : n + m + p + q ≤ hi - lo := by
  unfold apart at *
  omega

def tot (s : Strm) : Nat := s.r.length + s.n.length + s.b.length + s.c.length

theorem put_tot (s : Strm) (k : Nat) (x : List UInt8) (h : s.part k = []) : tot (s.put k x) = tot s + x.length := by
  match k with
  | 0 => simp only [Strm.part] at h; simp [tot, Strm.put, h]; omega
  | 1 => simp only [Strm.part] at h; simp [tot, Strm.put, h]; omega
  | 2 => simp only [Strm.part] at h; simp [tot, Strm.put, h]; omega
  | _ + 3 => simp only [Strm.part] at h; simp [tot, Strm.put, h]
theorem put_other (s : Strm) (k j : Nat) (x : List UInt8) (hk : k < 4) (hj : j < 4) (h : j ≠ k) : (s.put k x).part j = s.part j := by
  match k, j, hk, hj, h with
  | 0, 0, _, _, h => exact absurd rfl h
  | 0, 1, _, _, _ => rfl
  | 0, 2, _, _, _ => rfl
  | 0, 3, _, _, _ => rfl
  | 1, 0, _, _, _ => rfl
  | 1, 1, _, _, h => exact absurd rfl h
  | 1, 2, _, _, _ => rfl
  | 1, 3, _, _, _ => rfl
  | 2, 0, _, _, _ => rfl
  | 2, 1, _, _, _ => rfl
  | 2, 2, _, _, h => exact absurd rfl h
  | 2, 3, _, _, _ => rfl
  | 3, 0, _, _, _ => rfl
  | 3, 1, _, _, _ => rfl
  | 3, 2, _, _, _ => rfl
  | 3, 3, _, _, h => exact absurd rfl h

/-- What holds of what the entries have told. -/
structure Told3 (bs : List UInt8) (st : SSt) (k : Nat) : Prop where
  len : st.ivs.length = k
  within : ∀ p ∈ st.ivs, 56 ≤ p.1 ∧ p.1 + p.2 ≤ bs.length
  pw : st.ivs.Pairwise fun p q => apart p.1 p.2 q.1 q.2
  sum : tot st.s = (st.ivs.map Prod.snd).sum
  none : ∀ j, j < 4 → j ∉ st.met → st.s.part j = []

theorem told3_0 (bs : List UInt8) : Told3 bs sst0 0 := by
  refine ⟨rfl, by simp [sst0], by simp [sst0], rfl, fun j hj _ => ?_⟩
  match j, hj with
  | 0, _ => rfl
  | 1, _ => rfl
  | 2, _ => rfl
  | 3, _ => rfl

theorem tagOf_some {met : List Nat} {t : List UInt8} {k : Nat} (h : tagOf met t = some k) : k < 4 ∧ k ∉ met ∧ tagB k = t := by
  unfold tagOf at h
  have h1 := List.find?_some h
  have h2 := List.mem_of_find?_eq_some h
  simp only [Bool.and_eq_true, decide_eq_true_eq, Bool.not_eq_true', List.contains_eq_mem, decide_eq_false_iff_not] at h1
  refine ⟨?_, h1.2, h1.1⟩
  simp at h2
  omega

theorem Told3.step {bs : List UInt8} {st st' : SSt} {k : Nat} (h : Told3 bs st k) (he : entry bs k st = .inr st') : Told3 bs st' (k + 1) := by
  unfold entry at he
  cases ht : tagOf st.met (eTag bs k) with
  | none => rw [ht] at he; simp at he
  | some j =>
    rw [ht] at he
    simp only at he
    obtain ⟨hj, hnm, _⟩ := tagOf_some ht
    split at he
    · simp at he
    · rename_i h1
      split at he
      · simp at he
      · rename_i h2
        split at he
        · simp at he
        · rename_i h3
          simp only [Sum.inr.injEq] at he
          subst he
          have hsl : (seg bs (eAt bs k) (eLen bs k)).length = eLen bs k := seg_length bs _ _ (by omega)
          refine ⟨by simp [h.len], ?_, ?_, ?_, ?_⟩
          · intro p hp
            simp only [List.mem_append, List.mem_singleton] at hp
            rcases hp with hp | rfl
            · exact h.within p hp
            · exact ⟨by omega, by simp only; omega⟩
          · rw [List.pairwise_append]
            refine ⟨h.pw, by simp, fun p hp q hq => ?_⟩
            simp only [List.mem_singleton] at hq
            subst hq
            have := h3
            simp only [shares, Bool.not_eq_true, List.any_eq_false, decide_eq_true_eq] at this
            exact this p hp
          · rw [put_tot _ _ _ (h.none j hj hnm), h.sum, hsl]
            simp
          · intro i hi him
            simp only [List.mem_append, List.mem_singleton, not_or] at him
            rw [put_other _ _ _ _ hj hi him.2]
            exact h.none i hi him.1

theorem run_told (bs : List UInt8) : ∀ k st, runE bs k = .inl st → Told3 bs st k
  | 0, st, h => by simp only [runE, Sum.inl.injEq] at h; subst h; exact told3_0 bs
  | k + 1, st, h => by
    unfold runE at h
    cases hr : runE bs k with
    | inr e => rw [hr] at h; simp at h
    | inl st0 =>
      rw [hr] at h
      simp only at h
      cases he : entry bs k st0 with
      | inl e => rw [he] at h; simp at h
      | inr st1 =>
        rw [he] at h
        simp only [Sum.inl.injEq] at h
        subst h
        exact (run_told bs k st0 hr).step he

theorem entry_err {bs : List UInt8} {k e : Nat} {st : SSt} (h : entry bs k st = .inl e) : e ≠ 0 := by
  unfold entry at h
  split at h
  · simp only [Sum.inl.injEq] at h; omega
  · split at h
    · simp only [Sum.inl.injEq] at h; omega
    · split at h
      · simp only [Sum.inl.injEq] at h; omega
      · split at h
        · simp only [Sum.inl.injEq] at h; omega
        · simp at h
theorem run_err_ne {bs : List UInt8} : ∀ k e, runE bs k = .inr e → e.2 ≠ 0
  | 0, e, h => by simp [runE] at h
  | k + 1, e, h => by
    unfold runE at h
    cases hr : runE bs k with
    | inr e' => rw [hr] at h; simp only [Sum.inr.injEq] at h; subst h; exact run_err_ne k e' hr
    | inl st0 =>
      rw [hr] at h
      simp only at h
      cases he : entry bs k st0 with
      | inl e' => rw [he] at h; simp only [Sum.inr.injEq] at h; subst h; exact entry_err he
      | inr st1 => rw [he] at h; simp at h

/-- Beside an error there are no streams; without one the entries told them. -/
theorem split_cases (bs : List UInt8) : ((splitR bs).2.2 ≠ 0 ∧ (splitR bs).1 = Strm.nil) ∨ ∃ st, runE bs 4 = .inl st ∧ splitR bs = (st.s, 0, 0) ∧ 56 ≤ bs.length ∧ bs.length ≤ 65536 := by
  unfold splitR
  split
  · exact .inl ⟨by simp, rfl⟩
  · split
    · exact .inl ⟨by simp, rfl⟩
    · split
      · exact .inl ⟨by simp, rfl⟩
      · split
        · exact .inl ⟨by simp, rfl⟩
        · split
          · exact .inl ⟨by simp, rfl⟩
          · cases hr : runE bs 4 with
            | inl st => exact .inr ⟨st, rfl, rfl, by omega, by omega⟩
            | inr e => exact .inl ⟨run_err_ne 4 e hr, rfl⟩

theorem told_total {bs : List UInt8} {st : SSt} (h : Told3 bs st 4) : tot st.s ≤ bs.length - 56 := by
  have hl := h.len
  match hi : st.ivs, hl with
  | [p, q, r, t], _ =>
    have hw := h.within
    have hp := h.pw
    have hs := h.sum
    rw [hi] at hw hp hs
    simp only [List.pairwise_cons, List.mem_cons, List.not_mem_nil, or_false, forall_eq_or_imp, forall_eq, List.Pairwise.nil, and_true, false_imp_iff, implies_true] at hp
    have w1 := hw p (by simp)
    have w2 := hw q (by simp)
    have w3 := hw r (by simp)
    have w4 := hw t (by simp)
    simp only [List.map_cons, List.map_nil, List.sum_cons, List.sum_nil] at hs
    have := four_fit 56 bs.length p.1 q.1 r.1 t.1 p.2 q.2 r.2 t.2 hp.1.1 hp.1.2.1 hp.1.2.2 hp.2.1.1 hp.2.1.2 hp.2.2 w1 w2 w3 w4
    omega

/-- What is joined again is no longer, but for what fills up. -/
theorem join_again {bs : List UInt8} {st : SSt} (h : runE bs 4 = .inl st) (h56 : 56 ≤ bs.length) : (joinB st.s).length ≤ bs.length + 9 := by
  have ht := told_total (run_told bs 4 st h)
  have hj := join_length st.s
  have s0 : plc st.s 1 ≤ plc st.s 0 + (st.s.part 0).length + 3 := (plc_step st.s 0).2
  have s1 : plc st.s 2 ≤ plc st.s 1 + (st.s.part 1).length + 3 := (plc_step st.s 1).2
  have s2 : plc st.s 3 ≤ plc st.s 2 + (st.s.part 2).length + 3 := (plc_step st.s 2).2
  have e0 : plc st.s 0 = 56 := rfl
  have p0 : (st.s.part 0).length = st.s.r.length := rfl
  have p1 : (st.s.part 1).length = st.s.n.length := rfl
  have p2 : (st.s.part 2).length = st.s.b.length := rfl
  have p3 : (st.s.part 3).length = st.s.c.length := rfl
  unfold tot at ht
  omega

end Go.Proofs.Ytbehcdpjpjklfaa
