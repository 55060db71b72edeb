
/- The statements' example holds; what is too long. -/
import Derived.Test.YtfgjlljbpcombaaWrites8
import Derived.Test.YtfgjlljbpcombaaConv
namespace Go.Proofs.Ytfgjlljbpcombaa
set_option linter.unusedVariables false
set_option linter.unusedSimpArgs false
open Go.RowKit
attribute [local go_sem ↓] Go.wp_at_zero Go.wp_at_succ

set_option maxHeartbeats 1000000 in
theorem wakes8_any (w : World) :
    Calls Try.prog 8 #[] w fun e w' => e = .returned (.bool true) ∧ Below w.heap.size w w' := by
  have HE : Hid (writeL [1] [] = [6, 1] ∧ writeE [1] [] = 0) := ⟨by decide, by decide⟩
  have hb0 : Below w.heap.size w (w.alloc (.cells #[.int .u8 1] 5)) := (Below.refl _ _).alloc (Nat.le_refl _) _
  have HW : Hid (Calls Try.prog 11 #[.agg #[.slice (some ⟨w.heap.size, 0, none⟩) 1 1, .slice none 0 0]] (w.alloc (.cells #[.int .u8 1] 5)) fun e w' => ∃ v, e = .returned (.tuple #[v, .int .i64 0]) ∧ Bs w' v [6, 1] ∧ Below w.heap.size w w') := by
    refine (write_any (bs_lit w [1] #[.int .u8 1] 5 1 rfl rfl (by simp [maxLen])) (Ws.nil _)).mono ?_
    rintro e w' ⟨v, rfl, h1, h2⟩
    rw [HE.out.1] at h1
    exact ⟨v, by rw [HE.out.2], h1.bs, hb0.trans (h2.mono (by simp))⟩
  clear hb0 HE
  go_enter Try.func8, Try.ntmps8
  go_wp2_with fail
  refine Calls.mono HW.out ?_
  rintro e w1 ⟨v, rfl, h1, h2⟩
  have hcv : (convert 22 9 v).run Try.prog w1 = .ok (.string ⟨#[6, 1]⟩) w1 := convert_bs h1
  clear h1 HW
  go_wp2
  go_ret
  exact ⟨rfl, h2⟩

/-- Is it longer than a statement takes? -/
def longB (n m : Nat) : Bool := decide (1000 < n) || decide (100 < m)
theorem longB_no {n m : Nat} (h : longB n m = false) : n ≤ 1000 ∧ m ≤ 100 := by
  simp [longB] at h; omega

theorem long8_any {w : World} (xa ya : Option Addr) (n m cx cy : Nat) (hn : n ≤ maxLen) (hm : m ≤ maxLen) :
    Calls Try.prog 9 #[.agg #[.slice xa n cx, .slice ya m cy]] w fun e w' => e = .returned (.bool (longB n m)) ∧ Below w.heap.size w w' := by
  unfold maxLen at hn hm
  have HB : Hid (Below w.heap.size w (w.alloc (.cells #[.slice xa n cx, .slice ya m cy] 25))) := (Below.refl _ _).alloc (Nat.le_refl _) _
  by_cases h1 : 1000 < n
  · have HL : Hid (longB n m = true) := by show _ = _; simp [longB, h1]
    have h1' : (1000 : Int) < (n : Int) := by omega
    go_enter Try.func9, Try.ntmps9
    go_wp2
    go_ret
    exact ⟨by rw [HL.out]; rfl, HB.out⟩
  · have h1' : (n : Int) ≤ (1000 : Int) := by omega
    by_cases h2 : 100 < m
    · have HL : Hid (longB n m = true) := by show _ = _; simp [longB, h2]
      have h2' : (100 : Int) < (m : Int) := by omega
      go_enter Try.func9, Try.ntmps9
      go_wp2
      go_ret
      refine ⟨?_, HB.out⟩
      rw [HL.out]
      simp <;> omega
    · have HL : Hid (longB n m = false) := by show _ = _; simp [longB]; omega
      have h2' : (m : Int) ≤ (100 : Int) := by omega
      go_enter Try.func9, Try.ntmps9
      go_wp2
      go_ret
      refine ⟨?_, HB.out⟩
      rw [HL.out]
      simp <;> omega

/-- A body as a value: what the walks ask. -/
def Bd (w : World) (v : Value) (x : List UInt8 × List Rw) : Prop := ∃ cv lv, v = .agg #[cv, lv] ∧ Bs w cv x.1 ∧ Ws w lv x.2

end Go.Proofs.Ytfgjlljbpcombaa
