
/- SameTypes and Same of the references, of like ones. -/
import Derived.Test.YtcjoidhbhffcgaaTList5
import Derived.Deep.QuietTactic
import Derived.BigQuiet
namespace Go.Proofs.Ytcjoidhbhffcgaa
set_option linter.unusedVariables false
set_option linter.unusedSimpArgs false
open Go.RowKit

set_option maxHeartbeats 1000000 in
theorem sameTypes_some {w : World} {ba oa ca bb ob cb : Nat} {ts : List Ty} (hl : ts.length ≤ maxLen)
    (ha : ∀ i (h : i < ts.length), w.cell? ⟨ba, oa + i * 4, none⟩ = some (.int .i64 ts[i].1) ∧ w.cell? ⟨ba, oa + i * 4 + 1, none⟩ = some (.int .i64 ts[i].2.1) ∧ w.cell? ⟨ba, oa + i * 4 + 2, none⟩ = some (.int .i64 ts[i].2.2.1) ∧ w.cell? ⟨ba, oa + i * 4 + 3, none⟩ = some (.bool ts[i].2.2.2))
    (hb : ∀ i (h : i < ts.length), w.cell? ⟨bb, ob + i * 4, none⟩ = some (.int .i64 ts[i].1) ∧ w.cell? ⟨bb, ob + i * 4 + 1, none⟩ = some (.int .i64 ts[i].2.1) ∧ w.cell? ⟨bb, ob + i * 4 + 2, none⟩ = some (.int .i64 ts[i].2.2.1) ∧ w.cell? ⟨bb, ob + i * 4 + 3, none⟩ = some (.bool ts[i].2.2.2)) :
    Calls Try.prog 25 #[.slice (some ⟨ba, oa, none⟩) ts.length ca, .slice (some ⟨bb, ob, none⟩) ts.length cb] w fun e w' => e = .returned (.bool true) ∧ ∃ n, w' = w.drewN n := by
  unfold maxLen at hl
  have HA : Hid (∀ i (h : i < ts.length), w.cell? ⟨ba, oa + i * 4, none⟩ = some (.int .i64 ts[i].1) ∧ w.cell? ⟨ba, oa + i * 4 + 1, none⟩ = some (.int .i64 ts[i].2.1) ∧ w.cell? ⟨ba, oa + i * 4 + 2, none⟩ = some (.int .i64 ts[i].2.2.1) ∧ w.cell? ⟨ba, oa + i * 4 + 3, none⟩ = some (.bool ts[i].2.2.2)) := ha
  have HB : Hid (∀ i (h : i < ts.length), w.cell? ⟨bb, ob + i * 4, none⟩ = some (.int .i64 ts[i].1) ∧ w.cell? ⟨bb, ob + i * 4 + 1, none⟩ = some (.int .i64 ts[i].2.1) ∧ w.cell? ⟨bb, ob + i * 4 + 2, none⟩ = some (.int .i64 ts[i].2.2.1) ∧ w.cell? ⟨bb, ob + i * 4 + 3, none⟩ = some (.bool ts[i].2.2.2)) := hb
  clear ha hb
  go_enter Try.func25, Try.ntmps25
  go_wp2
  go_loopw [5] (fun z wr => ∃ q n : Nat, q ≤ ts.length ∧ z = .int .i64 (q : Int) ∧ wr = w.drewN n) (fun z _ => ts.length - (intOf z).toNat)
  case atStart => exact ⟨0, 0, Nat.zero_le _, rfl, rfl⟩
  case round =>
    obtain ⟨q, n, hq, rfl, rfl⟩ := hrel
    by_cases hql : q < ts.length
    · obtain ⟨c0, c1, c2, c3⟩ := HA.out q hql
      obtain ⟨d0, d1, d2, d3⟩ := HB.out q hql
      generalize ts[q] = t at *
      obtain ⟨k, i, d, r⟩ := t
      simp only at c0 c1 c2 c3 d0 d1 d2 d3
      go_wp2
      go_quiet (fail)
      go_wp2
      go_roundw
      case rel => exact ⟨q + 1, n + nq, by omega, by go_num, rfl⟩
      case measure => simp [intOf]; omega
    · go_wp2
      go_ret
      exact ⟨rfl, n, rfl⟩

theorem sameTypes_none (xa xb : Option Addr) (ca cb : Nat) (w : World) :
    Calls Try.prog 25 #[.slice xa 0 ca, .slice xb 0 cb] w fun e w' => e = .returned (.bool true) ∧ w' = w := by
  go_enter Try.func25, Try.ntmps25
  go_wp2
  go_loopw [5] (fun z wr => z = .int .i64 0 ∧ wr = w) (fun z _ => 0)
  case atStart => exact ⟨rfl, rfl⟩
  case round =>
    obtain ⟨rfl, rfl⟩ := hrel
    go_wp2
    go_ret
    exact ⟨rfl, rfl⟩

theorem sameTypes_yes {w : World} {va vb : Value} {ts : List Ty} (ha : Ts w va ts) (hb : Ts w vb ts) :
    Calls Try.prog 25 #[va, vb] w fun e w' => e = .returned (.bool true) ∧ ∃ n, w' = w.drewN n := by
  have hl := ha.len
  obtain ⟨xa, ca, rfl, _, _, ga⟩ := ha
  obtain ⟨xb, cb, rfl, _, _, gb⟩ := hb
  by_cases hne : ts = []
  · subst hne
    refine (sameTypes_none xa xb ca cb w).mono ?_
    rintro e w' ⟨rfl, rfl⟩
    exact ⟨rfl, 0, rfl⟩
  · obtain ⟨ba, oa, rfl, _, ha⟩ := ga hne
    obtain ⟨bb, ob, rfl, _, hb⟩ := gb hne
    exact sameTypes_some hl ha hb

theorem same5_yes {w : World} {va vb : Value} {ts : List Ty} (ha : Ts w va ts) (hb : Ts w vb ts) (this : Bool) (k i d : Int) (r : Bool) :
    Calls Try.prog 22 #[.agg #[.bool this, va, .int .i64 k, .int .i64 i, .int .i64 d, .bool r], .agg #[.bool this, vb, .int .i64 k, .int .i64 i, .int .i64 d, .bool r]] w fun e w' => e = .returned (.bool true) ∧ Below w.heap.size w w' := by
  have hb0 : Below w.heap.size w ((w.alloc (.cells #[.bool this, va, .int .i64 k, .int .i64 i, .int .i64 d, .bool r] 39)).alloc (.cells #[.bool this, vb, .int .i64 k, .int .i64 i, .int .i64 d, .bool r] 39)) :=
    ((Below.refl _ _).alloc (Nat.le_refl _) _).alloc (by simp) _
  have HS : Hid (Calls Try.prog 25 #[va, vb] ((w.alloc (.cells #[.bool this, va, .int .i64 k, .int .i64 i, .int .i64 d, .bool r] 39)).alloc (.cells #[.bool this, vb, .int .i64 k, .int .i64 i, .int .i64 d, .bool r] 39)) fun e w' => e = .returned (.bool true) ∧ ∃ n, w' = ((w.alloc (.cells #[.bool this, va, .int .i64 k, .int .i64 i, .int .i64 d, .bool r] 39)).alloc (.cells #[.bool this, vb, .int .i64 k, .int .i64 i, .int .i64 d, .bool r] 39)).drewN n) :=
    sameTypes_yes (ha.later hb0) (hb.later hb0)
  obtain ⟨xa, ca, rfl, _, _, _⟩ := ha
  obtain ⟨xb, cb, rfl, _, _, _⟩ := hb
  go_enter Try.func22, Try.ntmps22
  go_wp2_with fail
  refine Calls.mono HS.out ?_
  rintro e w1 ⟨rfl, n, rfl⟩
  go_wp2
  go_ret
  exact ⟨rfl, Below.drewN hb0 n⟩

end Go.Proofs.Ytcjoidhbhffcgaa
