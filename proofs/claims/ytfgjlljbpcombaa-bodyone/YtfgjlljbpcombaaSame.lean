
/- Same of the references: two slices of bytes are alike just if their bytes are. -/
import Derived.Test.YtfgjlljbpcombaaRows
import Derived.Test.YtfgjlljbpcombaaMem
import Derived.Test.YtfgjlljbpcombaaLeaf
import Derived.Deep.QuietTactic
import Derived.BigQuiet
namespace Go.Proofs.Ytfgjlljbpcombaa
set_option linter.unusedVariables false
set_option linter.unusedSimpArgs false
open Go.RowKit

theorem same_len (va vb : Option Addr) (la lb ca cb : Nat) (w : World) (hne : la ≠ lb) (ha : la ≤ maxLen) (hb : lb ≤ maxLen) :
    Calls Try.prog 13 #[.slice va la ca, .slice vb lb cb] w fun e w' => e = .returned (.bool false) ∧ w' = w := by
  have h1 : ((la : Int) != (lb : Int)) = true := by rw [bne_iff_ne]; omega
  go_enter Try.func13, Try.ntmps13
  go_wp2
  go_ret
  exact ⟨rfl, rfl⟩

theorem same_empty (va vb : Option Addr) (ca cb : Nat) (w : World) :
    Calls Try.prog 13 #[.slice va 0 ca, .slice vb 0 cb] w fun e w' => e = .returned (.bool true) ∧ w' = w := by
  go_enter Try.func13, Try.ntmps13
  go_wp2
  refine wp_loop_rounds 1 ?_; rw [rounds_succ]
  go_wp2
  go_ret
  exact ⟨rfl, rfl⟩

theorem take_eq_succ {xs ys : List UInt8} {k : Nat} (h1 : k < xs.length) (h2 : k < ys.length) (h : xs.take k = ys.take k) (e : xs[k] = ys[k]) : xs.take (k + 1) = ys.take (k + 1) := by
  rw [List.take_succ_eq_append_getElem h1, List.take_succ_eq_append_getElem h2, h, e]

set_option maxHeartbeats 400000 in
theorem same_eq (a b : Nat) (oa ob ca cb : Nat) (xs ys : List UInt8) (w : World) (hl : xs.length = ys.length) (hm : xs.length ≤ maxLen)
    (ha : ∀ i (h : i < xs.length), w.cell? ⟨a, oa + i, none⟩ = some (.int .u8 (xs[i].toNat : Int)))
    (hb : ∀ i (h : i < ys.length), w.cell? ⟨b, ob + i, none⟩ = some (.int .u8 (ys[i].toNat : Int))) :
    Calls Try.prog 13 #[.slice (some ⟨a, oa, none⟩) xs.length ca, .slice (some ⟨b, ob, none⟩) xs.length cb] w fun e w' => e = .returned (.bool (decide (xs = ys))) ∧ ∃ n, w' = w.drewN n := by
  unfold maxLen at hm
  have h1 : ((xs.length : Int) != (xs.length : Int)) = false := by simp
  go_enter Try.func13, Try.ntmps13
  go_wp2
  go_loopw [5] (fun i wr => ∃ k n : Nat, k ≤ xs.length ∧ i = .int .i64 k ∧ wr = w.drewN n ∧ xs.take k = ys.take k) (fun i _ => xs.length - (intOf i).toNat)
  case atStart => exact ⟨0, 0, Nat.zero_le _, rfl, rfl, rfl⟩
  case round =>
    obtain ⟨k, n, hk, rfl, rfl, ht⟩ := hrel
    by_cases hlt : k < xs.length
    · have ca := ha k hlt
      have cb := hb k (by omega)
      have hlb : k < ys.length := by omega
      have HT : Hid (xs.take k = ys.take k) := ht
      clear ht ha hb
      by_cases he : xs[k] = ys[k]
      · have hq : ((xs[k].toNat : Int) != (ys[k].toNat : Int)) = false := by simp [he]
        have HE : Hid (xs[k] = ys[k]) := he
        clear he
        go_wp2
        go_quiet (fail)
        go_wp2
        go_roundw
        case rel => exact ⟨k + 1, n + nq, by omega, by go_num, rfl, take_eq_succ hlt hlb HT.out HE.out⟩
        case measure => simp [intOf]; omega
      · have hq : ((xs[k].toNat : Int) != (ys[k].toNat : Int)) = true := by
          rw [bne_iff_ne]; intro h; exact he (UInt8.toNat_inj.1 (by omega))
        have HE : Hid (¬ xs[k] = ys[k]) := he
        clear he
        go_wp2
        go_quiet (fail)
        go_wp2
        go_ret
        exact ⟨ret_bool (by have h := HE.out; symm; rw [decide_eq_false_iff_not]; intro e; subst e; exact h rfl), n + nq, by rw [World.drewN_drewN]⟩
    · go_wp2
      go_ret
      refine ⟨ret_bool ?_, n, rfl⟩
      symm; rw [decide_eq_true_iff]
      rwa [List.take_of_length_le (by omega), List.take_of_length_le (by omega)] at ht

/-- Same, of whatever two slices. -/
theorem same_any {va vb : Value} {xs ys : List UInt8} {w : World} (ha : Bs w va xs) (hb : Bs w vb ys) :
    Calls Try.prog 13 #[va, vb] w fun e w' => e = .returned (.bool (decide (xs = ys))) ∧ ∃ n, w' = w.drewN n := by
  obtain ⟨a, ca, rfl, h1, h2, h3⟩ := ha
  obtain ⟨b, cb, rfl, g1, g2, g3⟩ := hb
  by_cases hl : xs.length = ys.length
  · by_cases hx : xs = []
    · subst hx
      have hy : ys = [] := List.eq_nil_of_length_eq_zero hl.symm
      subst hy
      refine (same_empty a b ca cb w).mono ?_
      rintro e w' ⟨rfl, rfl⟩
      exact ⟨ret_bool (by simp), 0, rfl⟩
    · obtain ⟨ba, oa, rfl, _, hca⟩ := h3 hx
      obtain ⟨bb, ob, rfl, _, hcb⟩ := g3 (by intro e; subst e; exact hx (List.eq_nil_of_length_eq_zero hl))
      rw [← hl]
      exact same_eq ba bb oa ob ca cb xs ys w hl (by omega) hca hcb
  · refine (same_len a b _ _ ca cb w hl (by omega) (by omega)).mono ?_
    rintro e w' ⟨rfl, rfl⟩
    exact ⟨ret_bool (by symm; rw [decide_eq_false_iff_not]; intro e; subst e; exact hl rfl), 0, rfl⟩

end Go.Proofs.Ytfgjlljbpcombaa
