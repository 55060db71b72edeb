
/- Spans: where one ends, whether two share a byte, and whether one shares a byte with any of a row. -/
import Derived.Test.YtbehcdpjpjklfaaRows
import Derived.Test.YtbehcdpjpjklfaaKinds
namespace Go.Proofs.Ytbehcdpjpjklfaa
set_option linter.unusedVariables false
set_option linter.unusedSimpArgs false
open Go.RowKit Go.Maps
attribute [local go_sem ↓] Go.wp_at_zero Go.wp_at_succ

/-- A span as a value. -/
def spV (p : Nat × Nat) : Value := .agg #[.int .u64 (p.1 : Int), .int .u64 (p.2 : Int)]

theorem end_any (a b : Nat) (h : a + b < 18446744073709551616) (w : World) :
    Calls Try.prog 40 #[.agg #[.int .u64 (a : Int), .int .u64 (b : Int)]] w fun e w' => e = .returned (.int .u64 ((a + b : Nat) : Int)) ∧ w' = w.alloc (Obj.cells #[.int .u64 (a : Int), .int .u64 (b : Int)] 59) := by
  go_enter Try.func40, Try.ntmps40
  go_wp2
  go_ret
  exact ⟨rfl, rfl⟩

/-- Do two share a byte? -/
def shr (p q : Nat × Nat) : Bool := decide (max p.1 q.1 < min (p.1 + p.2) (q.1 + q.2))

set_option maxRecDepth 100000 in
set_option maxHeartbeats 1000000 in
theorem shares_any (a b c d : Nat) (h : a + b < 18446744073709551616) (h' : c + d < 18446744073709551616) (w : World) :
    Calls Try.prog 42 #[.agg #[.int .u64 (a : Int), .int .u64 (b : Int)], .agg #[.int .u64 (c : Int), .int .u64 (d : Int)]] w fun e w' => e = .returned (.bool (shr (a, b) (c, d))) ∧ Below w.heap.size w w' := by
  have HW : Hid (Below w.heap.size w ((w.alloc (Obj.cells #[.int .u64 (a : Int), .int .u64 (b : Int)] 59)).alloc (Obj.cells #[.int .u64 (c : Int), .int .u64 (d : Int)] 59))) := ((Below.refl _ _).alloc (Nat.le_refl _) _).alloc (by simp) _
  have hE : Hid (∀ r, r = decide (max a c < min (a + b) (c + d)) → Ending.returned (.bool r) = Ending.returned (.bool (shr (a, b) (c, d)))) := fun r hr => by rw [hr]; rfl
  rcases Nat.lt_or_ge a c with k1 | k1
  all_goals
    have m1 : ((a : Int) < (c : Int)) ↔ a < c := by omega
    have m2 : ((c : Int) < (a : Int)) ↔ c < a := by omega
    go_enter Try.func42, Try.ntmps42
    go_wp2_with fail
    go_region_held3 (fun w' => w'.cell? ⟨w.heap.size, 0, none⟩ = some (.int .u64 (a : Int)) ∧ w'.cell? ⟨w.heap.size, 1, none⟩ = some (.int .u64 (b : Int)) ∧ w'.cell? ⟨w.heap.size + 1, 0, none⟩ = some (.int .u64 (c : Int)) ∧ w'.cell? ⟨w.heap.size + 1, 1, none⟩ = some (.int .u64 (d : Int))) (go_keep)
      (first
        | (go_at_call_of 40 (Value.agg #[Value.int IntKind.u64 (a : Int), Value.int IntKind.u64 (b : Int)]); refine (end_any a b h _).mono ?_; rintro e w' ⟨rfl, rfl⟩)
        | (go_at_call 40; refine (end_any c d h' _).mono ?_; rintro e w' ⟨rfl, rfl⟩))
    all_goals go_wp2_with fail
    all_goals
      go_ret
      refine ⟨hE.out _ ?_, Below.drewN (Below.alloc (Below.alloc HW.out (by simp; omega) _) (by simp; omega) _) 1⟩
      rw [Bool.eq_iff_iff]
      simp only [decide_eq_true_eq]
      (try split) <;> omega

/-- The row of these spans lies from cell 0 on. -/
def Row2 (w : World) (ab : Nat) (ps : List (Nat × Nat)) : Prop := ∀ i (h : i < ps.length), w.cell? ⟨ab, 2 * i, none⟩ = some (.int .u64 (ps[i].1 : Int)) ∧ w.cell? ⟨ab, 2 * i + 1, none⟩ = some (.int .u64 (ps[i].2 : Int))

/-- What IndexFunc answers. -/
def firstS (q : Nat × Nat) : List (Nat × Nat) → Nat
  | [] => 0
  | p :: l => if shr q p = true then 0 else firstS q l + 1
def firstI (q : Nat × Nat) (ps : List (Nat × Nat)) : Int := if firstS q ps < ps.length then (firstS q ps : Int) else -1
theorem firstI_yes {q : Nat × Nat} {ps : List (Nat × Nat)} (h : firstS q ps < ps.length) : firstI q ps = (firstS q ps : Int) := if_pos h
theorem firstI_no {q : Nat × Nat} {ps : List (Nat × Nat)} (h : ¬ firstS q ps < ps.length) : firstI q ps = -1 := if_neg h
theorem firstS_hit {q : Nat × Nat} {ps : List (Nat × Nat)} {k : Nat} (h : k < ps.length) (e : shr q ps[k] = true) : firstS q (ps.drop k) = 0 := by
  rw [List.drop_eq_getElem_cons h]; simp [firstS, e]
theorem firstS_miss {q : Nat × Nat} {ps : List (Nat × Nat)} {k : Nat} (h : k < ps.length) (e : shr q ps[k] = false) : firstS q (ps.drop k) = firstS q (ps.drop (k + 1)) + 1 := by
  rw [List.drop_eq_getElem_cons h]; simp [firstS, e]
theorem firstS_any (q : Nat × Nat) : ∀ ps : List (Nat × Nat), (firstS q ps < ps.length) ↔ shares ps q.1 q.2 = true
  | [] => by simp [firstS, shares]
  | p :: l => by
    have ih := firstS_any q l
    have hs : shares (p :: l) q.1 q.2 = (shr q p || shares l q.1 q.2) := by
      simp [shares, shr, Nat.max_comm, Nat.min_comm]
    rw [hs]
    by_cases e : shr q p = true
    · simp [firstS, e]
    · simp only [firstS, e, Bool.or_eq_true, List.length_cons]
      simp only [Bool.false_eq_true, if_false, false_or]
      rw [← ih]; omega

theorem index_none (a : Option Addr) (cap : Nat) (f : Value) (w : World) :
    Calls Try.prog 49 #[.slice a 0 cap, f] w fun e w' => e = .returned (.int .i64 (-1)) ∧ w' = w := by
  go_enter Try.func49, Try.ntmps49
  go_wp2_with fail
  refine wp_loop_rounds 1 ?_; rw [rounds_succ]
  go_wp2_with fail
  go_ret
  exact ⟨rfl, rfl⟩

set_option maxHeartbeats 1000000 in
theorem index_span (ab : Nat) (ps : List (Nat × Nat)) (cap : Nat) (a b : Nat) (w : World) (hn : ps.length ≤ 4) (hab : ab < w.heap.size) (h : a + b < 18446744073709551616) (hps : ∀ p ∈ ps, p.1 + p.2 < 18446744073709551616) (hT : Row2 w ab ps) :
    Calls Try.prog 49 #[.slice (some ⟨ab, 0, none⟩) ps.length cap, .func (.func 42) #[.agg #[.int .u64 (a : Int), .int .u64 (b : Int)]] #[]] w fun e w' =>
      e = .returned (.int .i64 (firstI (a, b) ps)) ∧ Below w.heap.size w w' := by
  have HT : Hid (Row2 w ab ps) := hT
  have HP : Hid (∀ p ∈ ps, p.1 + p.2 < 18446744073709551616) := hps
  clear hT hps
  go_enter Try.func49, Try.ntmps49
  go_wp2_with fail
  go_loopw [5, 8] (fun _ i wr => ∃ k : Nat, k ≤ ps.length ∧ i = .int .i64 k ∧ Below w.heap.size w wr ∧ firstS (a, b) ps = firstS (a, b) (ps.drop k) + k) (fun _ i _ => ps.length - (intOf i).toNat)
  case atStart => exact ⟨0, Nat.zero_le _, rfl, Below.refl _ _, by simp⟩
  case round =>
    obtain ⟨k, hk, rfl, hbel, hix⟩ := hrel
    have HBL : Hid (Below w.heap.size w wr) := hbel
    have HIX : Hid (firstS (a, b) ps = firstS (a, b) (ps.drop k) + k) := hix
    have hsz := hbel.size
    clear hix
    by_cases hlt : k < ps.length
    · have hc0 : wr.cell? ⟨ab, k * 2, none⟩ = some (.int .u64 (ps[k].1 : Int)) := by rw [Nat.mul_comm, ← (HT.out k hlt).1]; exact World.cell?_of_block (hbel.block ab hab)
      have hc1 : wr.cell? ⟨ab, k * 2 + 1, none⟩ = some (.int .u64 (ps[k].2 : Int)) := by rw [Nat.mul_comm, ← (HT.out k hlt).2]; exact World.cell?_of_block (hbel.block ab hab)
      have hpk := HP.out ps[k] (List.getElem_mem _)
      have HSA : Hid (Calls Try.prog 42 #[.agg #[.int .u64 (a : Int), .int .u64 (b : Int)], .agg #[.int .u64 (ps[k].1 : Int), .int .u64 (ps[k].2 : Int)]] wr fun e w' => e = .returned (.bool (shr (a, b) ps[k])) ∧ Below wr.heap.size wr w') := shares_any a b ps[k].1 ps[k].2 h hpk wr
      clear hbel
      cases he : shr (a, b) ps[k] with
      | true =>
        have HI : Hid (firstS (a, b) ps = k) := by show _ = _; rw [HIX.out, firstS_hit hlt he]; omega
        go_wp2_with fail
        refine Calls.mono HSA.out ?_
        rintro e w1 ⟨rfl, hb1⟩
        have HB1 : Hid (Below w.heap.size w w1) := HBL.out.trans (hb1.mono hsz)
        rw [he]
        clear hb1
        go_wp2_with fail
        go_ret
        exact ⟨ret_int (by rw [firstI_yes (by rw [HI.out]; exact hlt), HI.out]), HB1.out⟩
      | false =>
        have HI : Hid (firstS (a, b) ps = firstS (a, b) (ps.drop (k + 1)) + (k + 1)) := by show _ = _; rw [HIX.out, firstS_miss hlt he]; omega
        go_wp2_with fail
        refine Calls.mono HSA.out ?_
        rintro e w1 ⟨rfl, hb1⟩
        have HB1 : Hid (Below w.heap.size w w1) := HBL.out.trans (hb1.mono hsz)
        rw [he]
        clear hb1
        go_wp2_with fail
        go_roundw
        case rel => exact ⟨k + 1, by omega, by go_num, HB1.out, HI.out⟩
        case measure => simp [intOf]; omega
    · have HI : Hid (¬ firstS (a, b) ps < ps.length) := by show ¬ _; rw [HIX.out]; omega
      go_wp2_with fail
      go_ret
      exact ⟨ret_int (by rw [firstI_no HI.out]), HBL.out⟩

/-- Is a byte shared with any of them? -/
theorem contains_any (av : Value) (ps : List (Nat × Nat)) (a b : Nat) (w : World) (base : Nat) (hav : w.ownsRow base 59 2 av ps.length (ps.flatMap fun p => [.int .u64 (p.1 : Int), .int .u64 (p.2 : Int)])) (hn : ps.length ≤ 4) (h : a + b < 18446744073709551616) (hps : ∀ p ∈ ps, p.1 + p.2 < 18446744073709551616) :
    Calls Try.prog 41 #[av, .func (.func 42) #[.agg #[.int .u64 (a : Int), .int .u64 (b : Int)]] #[]] w fun e w' =>
      e = .returned (.bool (shares ps a b)) ∧ Below w.heap.size w w' := by
  have HI : Hid (Calls Try.prog 49 #[av, .func (.func 42) #[.agg #[.int .u64 (a : Int), .int .u64 (b : Int)]] #[]] w fun e w' =>
      e = .returned (.int .i64 (firstI (a, b) ps)) ∧ Below w.heap.size w w') := by
    show Calls _ _ _ _ _
    rcases hav.2 with ⟨rfl, h0⟩ | ⟨g, cap, cur, rfl, hg, hh, hn', hm, hs, ht⟩
    · have : ps = [] := List.eq_nil_of_length_eq_zero h0
      subst this
      refine (index_none _ _ _ w).mono ?_
      rintro e w' ⟨rfl, hz⟩
      subst w'
      exact ⟨rfl, Below.refl _ _⟩
    · refine index_span g ps cap a b w hn (Array.getElem?_eq_some_iff.1 hh).1 h hps fun i hi => ?_
      have key : ∀ (ps : List (Nat × Nat)) (i : Nat) (hi : i < ps.length), (ps.flatMap fun p => [Value.int .u64 (p.1 : Int), .int .u64 (p.2 : Int)])[2 * i]? = some (.int .u64 (ps[i].1 : Int)) ∧ (ps.flatMap fun p => [Value.int .u64 (p.1 : Int), .int .u64 (p.2 : Int)])[2 * i + 1]? = some (.int .u64 (ps[i].2 : Int)) := by
        intro ps
        induction ps with
        | nil => intro i hi; simp at hi
        | cons p l ih =>
          intro i hi
          cases i with
          | zero => simp
          | succ i =>
            have := ih i (by simpa using hi)
            simpa [Nat.mul_add] using this
      obtain ⟨k1, k2⟩ := key ps i hi
      rw [← ht, List.getElem?_take, if_pos (by omega)] at k1 k2
      simp only [World.cell?, hh]
      exact ⟨by simpa using k1, by simpa using k2⟩
  have HF := firstS_any (a, b) ps
  have HR : Hid (∀ r : Bool, r = decide (0 ≤ firstI (a, b) ps) → Ending.returned (.bool r) = Ending.returned (.bool (shares ps a b))) := fun r hr => by
    rw [hr]
    congr 2
    rw [Bool.eq_iff_iff, decide_eq_true_eq, ← HF]
    by_cases hf : firstS (a, b) ps < ps.length
    · rw [firstI_yes hf]; constructor
      · intro _; exact hf
      · intro _; omega
    · rw [firstI_no hf]; constructor
      · intro hx; omega
      · intro hx; exact absurd hx hf
  clear HF
  go_enter Try.func41, Try.ntmps41
  go_wp2_with fail
  refine Calls.mono HI.out ?_
  rintro e w1 ⟨rfl, hb1⟩
  have HB1 : Hid (Below w.heap.size w w1) := hb1
  clear hb1
  generalize firstI (a, b) ps = fi at *
  go_wp2_with fail
  go_ret
  exact ⟨HR.out _ rfl, HB1.out⟩

end Go.Proofs.Ytbehcdpjpjklfaa
