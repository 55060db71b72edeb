
/- Bytes read one by one: there is one way; there and back. -/
import Derived.Test.YtpgkjfjooogfmaaDoorReadAll7
namespace Go.Proofs.YtpgkjfjooogfmaaDoor
set_option linter.unusedVariables false
set_option linter.unusedSimpArgs false
open Go.RowKit

theorem szL_take_append (l : List Ins) (x : Ins) (k : Nat) (h : k ≤ l.length) : (l ++ [x]).take k = l.take k := List.take_append_of_le_length h

theorem Rdg.at {bs : List UInt8} {l : List Ins} {a : Nat} (h : Rdg bs l a) : ∀ k (hk : k < l.length), rdI bs (szL (l.take k)) = some l[k] ∧ szL (l.take k) < bs.length ∧ k < 160 := by
  intro k hk
  have h3 := h.2.2 k hk
  have hr := (rdI_some h3).2.2.1
  exact ⟨h3, by omega, by have := h.2.1; omega⟩

theorem Rdg.mk7 {bs : List UInt8} (l : List Ins) (h160 : l.length ≤ 160) (h : ∀ k (hk : k < l.length), rdI bs (szL (l.take k)) = some l[k]) : ∀ k, k ≤ l.length → Rdg bs (l.take k) (szL (l.take k)) := by
  intro k
  induction k with
  | zero => intro _; rw [List.take_zero]; exact Rdg.nil bs
  | succ k ih =>
    intro hk
    have hx := h k (by omega)
    have h1 := (rdI_some hx).2.2.1
    rw [szL_succ l k (by omega), List.take_succ_eq_append_getElem (by omega)]
    exact Rdg.snoc (ih (by omega)) (by omega) (by simp; omega) hx

theorem Rdg.same {bs : List UInt8} {l l' : List Ins} {a a' : Nat} (h : Rdg bs l a) (h' : Rdg bs l' a') : ∀ k, k ≤ l.length → k ≤ l'.length → l.take k = l'.take k := by
  intro k
  induction k with
  | zero => intro _ _; simp
  | succ k ih =>
    intro h1 h2
    have e := ih (by omega) (by omega)
    have g1 := (h.at k (by omega)).1
    have g2 := (h'.at k (by omega)).1
    rw [e, g2] at g1
    simp only [Option.some.injEq] at g1
    rw [List.take_succ_eq_append_getElem (by omega), List.take_succ_eq_append_getElem (by omega), e, g1]

theorem Rdg.one {bs : List UInt8} {l l' : List Ins} (h : Rdg bs l bs.length) (h' : Rdg bs l' bs.length) : l = l' := by
  have f1 := h.facts.1
  have f2 := h'.facts.1
  rcases Nat.lt_trichotomy l.length l'.length with hl | hl | hl
  · have e := h.same h' l.length (Nat.le_refl _) (by omega)
    rw [List.take_length] at e
    have := (h'.at l.length hl).2.1
    rw [← e] at this
    omega
  · have e := h.same h' l.length (Nat.le_refl _) (by omega)
    rwa [List.take_length, hl, List.take_length] at e
  · have e := h.same h' l'.length (by omega) (Nat.le_refl _)
    rw [List.take_length] at e
    have := (h.at l'.length hl).2.1
    rw [e] at this
    omega

/-- What stands still can't come to the end. -/
theorem Rdg.stuck {bs : List UInt8} {l l' : List Ins} {a : Nat} (h : Rdg bs l a) (ha : a < bs.length) (hs : l.length = 160 ∨ rdI bs a = none) (h' : Rdg bs l' bs.length) : False := by
  have f1 := h.facts.1
  have f2 := h'.facts
  rcases Nat.lt_or_ge l.length l'.length with hl | hl
  · have e := h.same h' l.length (Nat.le_refl _) (by omega)
    rw [List.take_length] at e
    have g := h'.at l.length hl
    rcases hs with hs | hs
    · omega
    · rw [← e, ← f1, hs] at g
      cases g.1
  · have e := h.same h' l'.length (by omega) (Nat.le_refl _)
    rw [List.take_length] at e
    have := szL_mono l l'.length l.length hl
    rw [List.take_length, e] at this
    omega

/-- A way in bytes made one of instructions. -/
def resP (ps : List Int) (x y : Ins) : Prop := if opK x.1 = 5 then ∃ k, ∃ _ : k < ps.length, ps[k] = x.2.1 ∧ y = (x.1, (k : Int), x.2.2) else y = x
def Ress (ps : List Int) (l m : List Ins) : Prop := m.length = l.length ∧ ∀ j (h : j < l.length) (h' : j < m.length), resP ps l[j] m[j]
theorem resP_op {ps : List Int} {x y : Ins} (h : resP ps x y) : y.1 = x.1 ∧ y.2.2 = x.2.2 := by
  unfold resP at h
  split at h
  · obtain ⟨k, _, _, rfl⟩ := h; exact ⟨rfl, rfl⟩
  · subst h; exact ⟨rfl, rfl⟩
/-- The places of instructions, without their end. -/
def pls (l : List Ins) : List Int := (plcs l).take l.length
theorem pls_length (l : List Ins) : (pls l).length = l.length := by simp [pls, plcs_length]
theorem pls_get (l : List Ins) (i : Nat) (h : i < (pls l).length) : (pls l)[i] = (szL (l.take i) : Int) := by
  simp only [pls, List.getElem_take]
  rw [plcs_get]
theorem pls_rise (l : List Ins) (i j : Nat) (hi : i < (pls l).length) (hj : j < (pls l).length) (h : i < j) : (pls l)[i] < (pls l)[j] := by
  rw [pls_get, pls_get]
  rw [pls_length] at hi hj
  have := szL_lt l i j h (by omega)
  omega
theorem szL_ops {l m : List Ins} (hl : m.length = l.length) (h : ∀ j (h : j < l.length) (h' : j < m.length), m[j].1 = l[j].1) : ∀ k, k ≤ l.length → szL (m.take k) = szL (l.take k) := by
  intro k
  induction k with
  | zero => intro _; simp
  | succ k ih =>
    intro hk
    rw [szL_succ l k (by omega), szL_succ m k (by omega), ih (by omega)]
    unfold opw
    rw [h k (by omega) (by omega)]

def DecOk (bs : List UInt8) : Prop := ∃ l m, Rdg bs l bs.length ∧ Ress (pls l) l m

theorem leN_inj : ∀ (a b : List UInt8), a.length = b.length → leN a = leN b → a = b
  | [], [], _, _ => rfl
  | x :: r, y :: s, hl, h => by
    simp only [leN] at h
    have h1 := x.toNat_lt
    have h2 := y.toNat_lt
    have e1 : x.toNat = y.toNat := by omega
    have e2 : leN r = leN s := by omega
    rw [UInt8.toNat_inj.1 e1, leN_inj r s (by simpa using hl) e2]
theorem leL_of {x w : Nat} {s : List UInt8} (hl : s.length = w) (h : x % 256 ^ w = leN s) : leL x w = s :=
  leN_inj _ _ (by rw [leL_length, hl]) (by rw [leN_leL, h])

theorem zero_ty {k i d : Int} {r : Bool} (h : zeroB k i d r = true) : k = 0 ∧ i = 0 ∧ d = 0 ∧ r = false := by
  unfold zeroB at h
  simp only [Bool.and_eq_true, beq_iff_eq, Bool.not_eq_true'] at h
  exact ⟨h.1.1.1, h.1.1.2, h.1.2, h.2⟩
theorem raw_zero {x : Ins} (h : rawB x = true) : x.2.2 = (0, 0, 0, false) := by
  obtain ⟨op, n, k, i, d, r⟩ := x
  by_cases h8 : opK op = 8
  · obtain ⟨rfl, rfl, rfl, rfl⟩ := zero_ty (raw_spec h h8).2.2
    rfl
  · obtain ⟨rfl, rfl, rfl, rfl⟩ := zero_ty (raw_fits h h8).2.2
    rfl

/-- The bytes of an instruction in the bytes of all. -/
theorem encTo_split (l : List Ins) (k : Nat) (hk : k < l.length) : ∃ r, encTo l l.length = encTo l k ++ encI l k l[k] ++ r := by
  have : ∀ n, k + 1 ≤ n → n ≤ l.length → ∃ r, encTo l n = encTo l k ++ encI l k l[k] ++ r := by
    intro n
    induction n with
    | zero => intro h; omega
    | succ n ih =>
      intro h1 h2
      by_cases hn : n = k
      · subst hn
        exact ⟨[], by rw [encTo_succ l n hk]; simp⟩
      · obtain ⟨r, hr⟩ := ih (by omega) (by omega)
        exact ⟨r ++ encI l n l[n], by rw [encTo_succ l n (by omega), hr]; simp⟩
  exact this l.length (by omega) (Nat.le_refl _)

theorem seg_mid (a b c : List UInt8) : seg (a ++ b ++ c) a.length b.length = b := by
  unfold seg
  rw [List.append_assoc, List.drop_left, List.take_left]

theorem u64n_pos {n : Int} (h0 : 0 ≤ n) (h1 : n < 18446744073709551616) : u64n n = n.toNat := by unfold u64n; rw [show n % 18446744073709551616 = n by omega]

theorem sgn_back2 (y : Int) (h0 : -32768 ≤ y) (h1 : y ≤ 32767) : sgnN (u64n y % 65536) 2 = y := by
  unfold sgnN u64n
  split <;> omega
theorem sgn_back4 (y : Int) (h0 : -2147483648 ≤ y) (h1 : y ≤ 2147483647) : sgnN (u64n y % 4294967296) 4 = y := by
  unfold sgnN u64n
  split <;> omega
theorem sgn_back8 (y : Int) (h0 : -9223372036854775808 ≤ y) (h1 : y ≤ 9223372036854775807) : sgnN (u64n y % 18446744073709551616) 8 = y := by
  unfold sgnN u64n
  split <;> omega

end Go.Proofs.YtpgkjfjooogfmaaDoor
