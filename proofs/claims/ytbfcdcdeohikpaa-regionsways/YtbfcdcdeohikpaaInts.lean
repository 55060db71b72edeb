
/- SameInts and Long of the references; the lists that the statements make of texts. -/
import Derived.Test.YtbfcdcdeohikpaaRows
import Derived.Test.YtbfcdcdeohikpaaApd
import Derived.Test.YtbfcdcdeohikpaaSame
import Derived.Test.YtbfcdcdeohikpaaFine
import Derived.Test.YtbfcdcdeohikpaaExtend
namespace Go.Proofs.Ytbfcdcdeohikpaa
set_option linter.unusedVariables false
set_option linter.unusedSimpArgs false
open Go.RowKit

def i64s (l : List Int) : List Value := l.map (Value.int .i64)
theorem i64s_length (l : List Int) : (i64s l).length = l.length := by simp [i64s]
def strs (l : List ByteArray) : List Value := l.map Value.string
theorem strs_length (l : List ByteArray) : (strs l).length = l.length := by simp [strs]
theorem strs_one (l : List ByteArray) : ∀ u ∈ strs l, u.oneCell' = true := fun u hu => by simp [strs] at hu; obtain ⟨x, _, rfl⟩ := hu; rfl
theorem i64s_one (l : List Int) : ∀ u ∈ i64s l, u.oneCell' = true := fun u hu => by simp [i64s] at hu; obtain ⟨x, _, rfl⟩ := hu; rfl

/-- The value is a slice of just these numbers; of these texts; of slices of these bytes. -/
def Is (w : World) (v : Value) (l : List Int) : Prop := Sl w v (i64s l)
def Ss (w : World) (v : Value) (l : List ByteArray) : Prop := Sl w v (strs l)
def Bss (w : World) (v : Value) (ls : List (List UInt8)) : Prop := ∃ vs, vs.length = ls.length ∧ Sl w v vs ∧ ∀ i (h : i < ls.length) (g : i < vs.length), Bs w vs[i] ls[i]

theorem sameI_len (va vb : Option Addr) (la lb ca cb : Nat) (w : World) (hne : la ≠ lb) (ha : la ≤ maxLen) (hb : lb ≤ maxLen) :
    Calls Try.prog 42 #[.slice va la ca, .slice vb lb cb] w fun e w' => e = .returned (.bool false) ∧ w' = w := by
  have h1 : ((la : Int) != (lb : Int)) = true := by rw [bne_iff_ne]; omega
  go_enter Try.func42, Try.ntmps42
  go_wp2
  go_ret
  exact ⟨rfl, rfl⟩

theorem sameI_empty (va vb : Option Addr) (ca cb : Nat) (w : World) :
    Calls Try.prog 42 #[.slice va 0 ca, .slice vb 0 cb] w fun e w' => e = .returned (.bool true) ∧ w' = w := by
  go_enter Try.func42, Try.ntmps42
  go_wp2
  refine wp_loop_rounds 1 ?_; rw [rounds_succ]
  go_wp2
  go_ret
  exact ⟨rfl, rfl⟩

theorem takeI_eq_succ {xs ys : List Int} {k : Nat} (h1 : k < xs.length) (h2 : k < ys.length) (h : xs.take k = ys.take k) (e : xs[k] = ys[k]) : xs.take (k + 1) = ys.take (k + 1) := by
  rw [List.take_succ_eq_append_getElem h1, List.take_succ_eq_append_getElem h2, h, e]

set_option maxHeartbeats 400000 in
theorem sameI_eq (a b : Nat) (oa ob ca cb : Nat) (xs ys : List Int) (w : World) (hl : xs.length = ys.length) (hm : xs.length ≤ maxLen)
    (ha : ∀ i (h : i < xs.length), w.cell? ⟨a, oa + i, none⟩ = some (.int .i64 xs[i]))
    (hb : ∀ i (h : i < ys.length), w.cell? ⟨b, ob + i, none⟩ = some (.int .i64 ys[i])) :
    Calls Try.prog 42 #[.slice (some ⟨a, oa, none⟩) xs.length ca, .slice (some ⟨b, ob, none⟩) xs.length cb] w fun e w' => e = .returned (.bool (decide (xs = ys))) ∧ ∃ n, w' = w.drewN n := by
  unfold maxLen at hm
  have h1 : ((xs.length : Int) != (xs.length : Int)) = false := by simp
  go_enter Try.func42, Try.ntmps42
  go_wp2
  go_loopw [5] (fun i wr => ∃ k n : Nat, k ≤ xs.length ∧ i = .int .i64 k ∧ wr = w.drewN n ∧ xs.take k = ys.take k) (fun i _ => xs.length - (intOf i).toNat)
  case atStart => exact ⟨0, 0, Nat.zero_le _, rfl, rfl, rfl⟩
  case round =>
    obtain ⟨k, n, hk, rfl, rfl, ht⟩ := hrel
    by_cases hlt : k < xs.length
    · have ca := ha k hlt
      have cb := hb k (by omega)
      have hlb : k < ys.length := by omega
      have HT : Hid (xs.take k = ys.take k) := ht
      clear ht ha hb
      by_cases he : xs[k] = ys[k]
      · have hq : (xs[k] != ys[k]) = false := by simp [he]
        have HE : Hid (xs.take (k + 1) = ys.take (k + 1)) := takeI_eq_succ hlt hlb HT.out he
        clear he
        generalize xs[k] = x at *
        generalize ys[k] = y at *
        go_wp2
        go_quiet (fail)
        go_wp2
        go_roundw
        case rel => exact ⟨k + 1, n + nq, by omega, by go_num, rfl, HE.out⟩
        case measure => simp [intOf]; omega
      · have hq : (xs[k] != ys[k]) = true := by
          rw [bne_iff_ne]; exact he
        have HE : Hid (¬ xs[k] = ys[k]) := he
        clear he
        go_wp2
        go_quiet (fail)
        go_wp2
        go_ret
        exact ⟨ret_bool (by have h := HE.out; symm; rw [decide_eq_false_iff_not]; intro e; subst e; exact h rfl), n + nq, by rw [World.drewN_drewN]⟩
    · go_wp2
      go_ret
      refine ⟨ret_bool ?_, n, rfl⟩
      symm; rw [decide_eq_true_iff]
      rwa [List.take_of_length_le (by omega), List.take_of_length_le (by omega)] at ht

/-- SameInts, of whatever two slices. -/
theorem sameI_any {va vb : Value} {xs ys : List Int} {w : World} (ha : Is w va xs) (hb : Is w vb ys) :
    Calls Try.prog 42 #[va, vb] w fun e w' => e = .returned (.bool (decide (xs = ys))) ∧ ∃ n, w' = w.drewN n := by
  obtain ⟨a, ca, rfl, h1, h2, h3⟩ := ha
  obtain ⟨b, cb, rfl, g1, g2, g3⟩ := hb
  rw [i64s_length] at h1 g1 ⊢
  rw [i64s_length]
  by_cases hl : xs.length = ys.length
  · by_cases hx : xs = []
    · subst hx
      have hy : ys = [] := List.eq_nil_of_length_eq_zero hl.symm
      subst hy
      refine (sameI_empty a b ca cb w).mono ?_
      rintro e w' ⟨rfl, rfl⟩
      exact ⟨ret_bool (by simp), 0, rfl⟩
    · obtain ⟨ba, oa, rfl, _, hca⟩ := h3 (by simpa [i64s] using hx)
      obtain ⟨bb, ob, rfl, _, hcb⟩ := g3 (by simp only [i64s, ne_eq, List.map_eq_nil_iff]; intro e; subst e; exact hx (List.eq_nil_of_length_eq_zero hl))
      rw [← hl]
      exact sameI_eq ba bb oa ob ca cb xs ys w hl (by omega) (fun i h => by rw [hca i (by rw [i64s_length]; exact h)]; simp [i64s]) (fun i h => by rw [hcb i (by rw [i64s_length]; exact h)]; simp [i64s])
  · refine (sameI_len a b _ _ ca cb w hl (by omega) (by omega)).mono ?_
    rintro e w' ⟨rfl, rfl⟩
    exact ⟨ret_bool (by symm; rw [decide_eq_false_iff_not]; intro e; subst e; exact hl rfl), 0, rfl⟩

/-- More texts, or longer ones, than a statement takes. -/
def longB (ls : List (List UInt8)) : Bool := decide (60 < ls.length) || ls.any fun l => decide (300 < l.length)

end Go.Proofs.Ytbfcdcdeohikpaa
