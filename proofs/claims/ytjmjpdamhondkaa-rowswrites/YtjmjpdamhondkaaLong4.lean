
/- Long of layer 4's references; tables that came in. -/
import Derived.Test.YtjmjpdamhondkaaLaws4
import Derived.Test.YtjmjpdamhondkaaOpen
import Derived.Lib.SmallJoins
namespace Go.Proofs.Ytjmjpdamhondkaa
set_option linter.unusedVariables false
set_option linter.unusedSimpArgs false
open Go.RowKit Go.Maps

/-- More tables, rows or columns than a statement takes. -/
def longL (l : List (List Int)) : Bool := decide (100 < l.length) || l.any fun r => decide (20 < r.length)
def longT (T : List (List (List Int))) : Bool := decide (20 < T.length) || T.any longL

set_option maxHeartbeats 1000000 in
theorem long4_any {w : World} {v : Value} {T : List (List (List Int))} (en : Int) (hv : In3 w v T) :
    Calls Try.prog 12 #[.agg #[.int .i64 en, v]] w fun e w' => e = .returned (.bool (longT T)) ∧ Below w.heap.size w w' := by
  obtain ⟨a, c, rfl, hc1, hc2⟩ := Ns.shape hv
  unfold maxLen at hc2
  obtain ⟨w1, hw1⟩ : ∃ w1, w1 = w.alloc (Obj.cells #[.int .i64 en, .slice a T.length c] 26) := ⟨_, rfl⟩
  have hb1 : Below w.heap.size w w1 := by rw [hw1]; exact (Below.refl _ _).alloc (Nat.le_refl _) _
  have HB1 : Hid (Below w.heap.size w w1) := hb1
  have HV : Hid (In3 w1 (.slice a T.length c) T) := hv.later hb1
  have hx : w1.heap[w.heap.size]? = some (Obj.cells #[.int .i64 en, .slice a T.length c] 26 (0, 0)) := by rw [hw1]; exact heap_alloc_new w _
  obtain ⟨x0, x1⟩ := box2 hx
  have HW1 : Hid (w1 = w.alloc (Obj.cells #[.int .i64 en, .slice a T.length c] 26)) := hw1
  clear hv hb1 hx hw1
  by_cases h20 : 20 < T.length
  · have HL : Hid (longT T = true) := by show _ = _; simp [longT, h20]
    go_enter Try.func12, Try.ntmps12
    go_wp2_with fail
    rw [← HW1.out]
    go_ret
    exact ⟨ret_bool HL.out.symm, HB1.out⟩
  · have HLT : Hid (longT T = T.any longL) := by show _ = _; simp [longT, h20]
    go_enter Try.func12, Try.ntmps12
    go_wp2_with fail
    rw [← HW1.out]
    go_loopw [3] (fun x wr => ∃ i : Nat, i ≤ T.length ∧ x = .int .i64 i ∧ wr = w1 ∧ (T.take i).any longL = false) (fun x _ => T.length - (intOf x).toNat)
    case atStart => exact ⟨0, by omega, rfl, rfl, by simp⟩
    case round =>
      obtain ⟨i, hi, rfl, rfl, hd⟩ := hrel
      have HD : Hid ((T.take i).any longL = false) := hd
      clear hd
      by_cases hlt : i < T.length
      · obtain ⟨b, off, c', a1, p1, he, hcell, hin, hlm⟩ := HV.out.tab i hlt
        simp only [Value.slice.injEq] at he
        obtain ⟨rfl, -, rfl⟩ := he
        unfold maxLen at hlm
        have HIN : Hid (In2 wr (.slice a1 (T[i]).length p1) T[i]) := hin
        have HYES : Hid (longL T[i] = true → T.any longL = true) := fun h => by
          rw [List.any_eq_true]; exact ⟨_, List.getElem_mem _, h⟩
        have HNO : Hid (longL T[i] = false → (T.take (i + 1)).any longL = false) := fun h => by
          rw [take_tab hlt, List.any_append, HD.out]; simp [h]
        clear hin
        generalize T[i] = l at *
        have hdi : decide ((i : Int) < (T.length : Int)) = true := by rw [decide_eq_true_eq]; omega
        have hii : (i : Int) < (T.length : Int) := by omega
        by_cases h100 : 100 < l.length
        · have HF : Hid (longT T = true) := by
            show _ = _
            rw [HLT.out]; exact HYES.out (by simp [longL, h100])
          go_wp2_with fail
          go_ret
          exact ⟨ret_bool HF.out.symm, HB1.out⟩
        · have HLL : Hid (longL l = l.any fun r => decide (20 < r.length)) := by show _ = _; simp [longL, h100]
          go_wp2_with fail
          go_loopw [4] (fun x wq => ∃ k : Nat, k ≤ l.length ∧ x = .int .i64 k ∧ wq = wr ∧ (l.take k).any (fun r => decide (20 < r.length)) = false) (fun x _ => l.length - (intOf x).toNat)
          case atStart => exact ⟨0, by omega, rfl, rfl, by simp⟩
          case round =>
            obtain ⟨k, hk, rfl, rfl, hr⟩ := hrel
            have HR : Hid ((l.take k).any (fun r => decide (20 < r.length)) = false) := hr
            clear hr
            by_cases hkl : k < l.length
            · obtain ⟨b3, o3, c3, a3, p3, e3, hc3, hi3, hm3⟩ := HIN.out.row k hkl
              simp only [Value.slice.injEq] at e3
              obtain ⟨rfl, -, rfl⟩ := e3
              unfold maxLen at hm3
              clear hi3
              have hdk : decide ((k : Int) < (l.length : Int)) = true := by rw [decide_eq_true_eq]; omega
              have hkk : (k : Int) < (l.length : Int) := by omega
              by_cases hr20 : 20 < (l[k]).length
              · have HF : Hid (longT T = true) := by
                  show _ = _
                  rw [HLT.out]
                  refine HYES.out ?_
                  rw [HLL.out, List.any_eq_true]
                  exact ⟨_, List.getElem_mem _, decide_eq_true hr20⟩
                generalize (l[k]).length = m at *
                go_wp2_with fail
                go_ret
                exact ⟨ret_bool HF.out.symm, HB1.out⟩
              · have HR2 : Hid ((l.take (k + 1)).any (fun r => decide (20 < r.length)) = false) := by
                  show _ = _
                  rw [List.take_succ_eq_append_getElem hkl, List.any_append, HR.out]
                  simp; omega
                generalize (l[k]).length = m at *
                go_wp2_with fail
                go_roundw
                case rel => exact ⟨k + 1, by omega, by go_num, by simp, HR2.out⟩
                case measure => simp [intOf]; omega
            · have hdk : decide ((k : Int) < (l.length : Int)) = false := by rw [decide_eq_false_iff_not]; omega
              have HN2 : Hid ((T.take (i + 1)).any longL = false) := by
                refine HNO.out ?_
                have := HR.out
                rw [List.take_of_length_le (by omega)] at this
                rw [HLL.out]; exact this
              go_wp2_with fail
              go_roundw
              case rel => exact ⟨i + 1, by omega, by go_num, by simp, HN2.out⟩
              case measure => simp [intOf]; omega
      · have hdi : decide ((i : Int) < (T.length : Int)) = false := by rw [decide_eq_false_iff_not]; omega
        have HF : Hid (longT T = false) := by
          show _ = _
          have := HD.out
          rw [List.take_of_length_le (by omega)] at this
          rw [HLT.out]; exact this
        go_wp2_with fail
        go_ret
        exact ⟨ret_bool HF.out.symm, HB1.out⟩

theorem long_no {T : List (List (List Int))} (h : longT T = false) : T.length ≤ 20 ∧ (∀ l ∈ T, l.length ≤ 100) ∧ ∀ l ∈ T, ∀ row ∈ l, row.length ≤ 20 := by
  unfold longT at h
  rw [Bool.or_eq_false_iff, decide_eq_false_iff_not, List.any_eq_false] at h
  obtain ⟨h1, h2⟩ := h
  have key : ∀ l ∈ T, l.length ≤ 100 ∧ ∀ row ∈ l, row.length ≤ 20 := fun l hl => by
    have := h2 l hl
    have h3 : longL l = false := by simpa using this
    unfold longL at h3
    rw [Bool.or_eq_false_iff, decide_eq_false_iff_not, List.any_eq_false] at h3
    refine ⟨by omega, fun row hr => ?_⟩
    have := h3.2 row hr
    simp at this; omega
  exact ⟨by omega, fun l hl => (key l hl).1, fun l hl => (key l hl).2⟩

end Go.Proofs.Ytjmjpdamhondkaa
