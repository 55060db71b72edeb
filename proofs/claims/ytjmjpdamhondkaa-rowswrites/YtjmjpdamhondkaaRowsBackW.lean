
/- RowsBack: the walk of the statement's function. -/
import Derived.Test.YtjmjpdamhondkaaRows
import Derived.Test.YtjmjpdamhondkaaOpen4
import Derived.Test.YtjmjpdamhondkaaLong4
import Derived.Test.YtjmjpdamhondkaaCopied4
import Derived.Test.YtjmjpdamhondkaaRowsPlainW
namespace Go.Proofs.Ytjmjpdamhondkaa
set_option linter.unusedVariables false
set_option linter.unusedSimpArgs false
open Go.RowKit Go.Maps

theorem write_facts {T : Tabs} {b : List UInt8} {k : Nat} (h : writeR T = (b, k)) : (k = 0 → readR b = (T, 0, 0) ∧ b.length ≤ 140737488355328) ∧ (k ≠ 0 → b = []) := by
  refine ⟨fun hk => ?_, fun hk => ?_⟩
  · subst hk
    refine ⟨read_write h, ?_⟩
    unfold writeR at h
    split at h
    · simp at h
    · rename_i h1
      split at h
      · simp at h
      · rename_i h2
        simp only [Prod.mk.injEq, and_true] at h
        have h6 : T.rows.length = 6 := by
          rcases Nat.decEq T.rows.length 6 with e | e
          · exact absurd (.inl e) h1
          · exact e
        have hsh : shaped 0 T.rows = true := by
          cases e : shaped 0 T.rows with
          | false => exact absurd (.inr e) h1
          | true => rfl
        have hft : fitting 0 T.rows = true := by
          cases e : fitting 0 T.rows with
          | false => exact absurd (.inr e) h2
          | true => rfl
        have h3 := tabs_le (T := T.rows) (fun i hi row hr => by
          have := shaped_get T.rows 0 i hi hsh row hr
          rwa [Nat.zero_add] at this) (fun i hi => (fitting_get T.rows 0 i hi hft).1) 6 (by omega)
        rw [List.take_of_length_le (by omega)] at h3
        have h4 := cnt_le (T := T.rows)
        rw [← h]
        simp only [writeB, List.length_append, List.length_cons, List.length_nil, leL_length]
        omega
  · unfold writeR at h
    split at h
    · simp only [Prod.mk.injEq] at h; exact h.1.symm
    · split at h
      · simp only [Prod.mk.injEq] at h; exact h.1.symm
      · simp only [Prod.mk.injEq] at h; omega

set_option maxHeartbeats 1000000 in
theorem rowsBack_walk (v : Value) (T : Tabs) (w : World) (hv : Tv w v T) :
    Calls Try.prog 5 #[v] w fun e w' => e = .returned (.bool true) ∧ Below w.heap.size w w' := by
  obtain ⟨en, T⟩ := T
  obtain ⟨sv, rfl, hin, hsm, hen⟩ := hv
  simp only at hin hsm hen
  have HV : Hid (∀ W, Below w.heap.size w W → In3 W sv T) := fun W hW => hin.later hW
  obtain ⟨a, c, rfl, hc1, hc2⟩ := Ns.shape hin
  unfold maxLen at hc2
  have HSM : Hid (SmallT T) := hsm
  obtain ⟨w0, hw0⟩ : ∃ w0, w0 = w.alloc (Obj.cells #[.int .i64 en, .slice a T.length c] 26) := ⟨_, rfl⟩
  have hb0 : Below w.heap.size w w0 := by rw [hw0]; exact (Below.refl _ _).alloc (Nat.le_refl _) _
  have hx0 : w0.heap[w.heap.size]? = some (Obj.cells #[.int .i64 en, .slice a T.length c] 26 (0, 0)) := by rw [hw0]; exact heap_alloc_new w _
  have HWK : Hid (Calls Try.prog 8 #[] w0 fun e w' => e = .returned (.bool true) ∧ Below w.heap.size w w' ∧ w'.heap[w.heap.size]? = some (Obj.cells #[.int .i64 en, .slice a T.length c] 26 (0, 0))) := by
    refine (wakes4_any w0).mono ?_
    rintro e w1 ⟨rfl, hb1⟩
    exact ⟨rfl, hb0.trans (hb1.mono hb0.size), (hb1.block _ (Array.getElem?_eq_some_iff.1 hx0).1).trans hx0⟩
  subst hw0
  clear hin hsm hb0 hx0
  go_enter Try.func5, Try.ntmps5
  go_wp2_with fail
  refine Calls.mono HWK.out ?_
  rintro e w1 ⟨rfl, hb1, hx1⟩
  have HB1 : Hid (Below w.heap.size w w1) := hb1
  have HX1 : Hid (w1.heap[w.heap.size]? = some (Obj.cells #[.int .i64 en, .slice a T.length c] 26 (0, 0))) := hx1
  have hs1 := (Array.getElem?_eq_some_iff.1 hx1).1
  obtain ⟨x0, x1⟩ := box2 hx1
  clear hb1 hx1 HWK
  go_wp2_with fail
  refine (long4_any en (HV.out w1 HB1.out)).mono ?_
  rintro e w2 ⟨rfl, hb2⟩
  have HB2 : Hid (Below w.heap.size w w2) := HB1.out.trans (hb2.mono HB1.out.size)
  have HX2 : Hid (w2.heap[w.heap.size]? = some (Obj.cells #[.int .i64 en, .slice a T.length c] 26 (0, 0))) := (hb2.block _ hs1).trans HX1.out
  have hs2 := (Array.getElem?_eq_some_iff.1 HX2.out).1
  clear hb2 x0 x1 HX1
  obtain ⟨x0, x1⟩ := box2 HX2.out
  cases hlg : longT T with
  | true =>
    clear hlg
    go_wp2_with fail
    go_ret
    exact ⟨rfl, HB2.out⟩
  | false =>
    obtain ⟨l1, l2, l3⟩ := long_no hlg
    have HL2 : Hid (∀ l ∈ T, l.length ≤ 100) := l2
    have HL3 : Hid (∀ l ∈ T, ∀ row ∈ l, row.length ≤ 20) := l3
    clear hlg l2 l3
    go_wp2_with fail
    refine (copied4_any en (HV.out w2 HB2.out) l1 HL2.out HL3.out).mono ?_
    rintro e w3 ⟨oa, oc, rfl, hin3, hb3⟩
    have HI3 : Hid (In3 w3 (.slice oa T.length oc) T) := hin3
    have HB3 : Hid (Below w.heap.size w w3) := HB2.out.trans (hb3.mono HB2.out.size)
    have HX3 : Hid (w3.heap[w.heap.size]? = some (Obj.cells #[.int .i64 en, .slice a T.length c] 26 (0, 0))) := (hb3.block _ hs2).trans HX2.out
    have hs3 := (Array.getElem?_eq_some_iff.1 HX3.out).1
    clear hin3 hb3 x0 x1 HX2
    obtain ⟨x0, x1⟩ := box2 HX3.out
    obtain ⟨wb, hwb⟩ : ∃ wb, wb = (writeR ⟨en, T⟩).1 := ⟨_, rfl⟩
    obtain ⟨wk, hwk⟩ : ∃ wk, wk = (writeR ⟨en, T⟩).2 := ⟨_, rfl⟩
    have hwr : writeR ⟨en, T⟩ = (wb, wk) := by rw [hwb, hwk]
    clear hwb hwk
    have hle : (wk = 0 → readR wb = (⟨en, T⟩, 0, 0) ∧ wb.length ≤ 140737488355328) ∧ (wk ≠ 0 → wb = []) := write_facts hwr
    have HWR : Hid (writeR ⟨en, T⟩ = (wb, wk)) := hwr
    clear hwr
    go_wp2_with fail
    refine (write_of en HI3.out HSM.out hen HWR.out (wk : Int) rfl).mono ?_
    rintro e w4 ⟨ca, cc, rfl, hbs4, hb4⟩
    have HB4 : Hid (Below w.heap.size w w4) := HB3.out.trans (hb4.mono HB3.out.size)
    have HX4 : Hid (w4.heap[w.heap.size]? = some (Obj.cells #[.int .i64 en, .slice a T.length c] 26 (0, 0))) := (hb4.block _ hs3).trans HX3.out
    have HC4 : Hid (Bs w4 (.slice ca wb.length cc) wb) := hbs4
    have hs4 := (Array.getElem?_eq_some_iff.1 HX4.out).1
    clear hbs4 hb4 x0 x1 HX3
    obtain ⟨hy, hno⟩ := hle
    by_cases hk : wk = 0
    · obtain ⟨hrd, hwl⟩ := hy hk
      subst hk
      have HRD : Hid (readR wb = (⟨en, T⟩, 0, 0)) := hrd
      clear hrd hy hno
      go_wp2_with fail
      refine (read_of HC4.out hwl HRD.out 0 0 rfl rfl).mono ?_
      rintro e w5 ⟨rb, rd, rfl, hin5, hb5⟩
      simp only at hin5
      obtain ⟨w6, hw6⟩ : ∃ w6, w6 = w5.alloc (Obj.cells #[.int .i64 en, .slice rb T.length rd] 26) := ⟨_, rfl⟩
      have hb6 : Below w5.heap.size w5 w6 := by rw [hw6]; exact (Below.refl _ _).alloc (Nat.le_refl _) _
      have HI6 : Hid (In3 w6 (.slice rb T.length rd) T) := hin5.later hb6
      have HB6 : Hid (Below w.heap.size w w6) := HB4.out.trans ((hb5.trans (hb6.mono hb5.size)).mono HB4.out.size)
      have HJ6 : Hid (In3 w6 (.slice a T.length c) T) := HV.out w6 HB6.out
      have hx6 : w6.heap[w.heap.size]? = some (Obj.cells #[.int .i64 en, .slice a T.length c] 26 (0, 0)) := ((hb6.block _ (by have := hb5.size; omega)).trans (hb5.block _ (by omega))).trans HX4.out
      have hy6 : w6.heap[w5.heap.size]? = some (Obj.cells #[.int .i64 en, .slice rb T.length rd] 26 (0, 0)) := by rw [hw6]; exact heap_alloc_new w5 _
      obtain ⟨x0, x1⟩ := box2 hx6
      obtain ⟨y0, y1⟩ := box2 hy6
      have HW6 : Hid (w6 = w5.alloc (Obj.cells #[.int .i64 en, .slice rb T.length rd] 26)) := hw6
      have hs6 := HB6.out.size
      rw [hw6] at x0 x1 y0 y1
      clear hin5 hb5 hb6 hx6 hy6 hw6
      go_wp2_with fail
      rw [← HW6.out]
      refine (refSame4_yes en HI6.out HJ6.out).mono ?_
      rintro e w7 ⟨rfl, hb7⟩
      have HB7 : Hid (Below w.heap.size w w7) := HB6.out.trans (hb7.mono hs6)
      clear hb7
      go_wp2_with fail
      go_ret
      exact ⟨rfl, HB7.out⟩
    · have hwb := hno hk
      subst hwb
      have hk' : ((wk : Int) != 0) = true := by rw [bne_iff_ne]; omega
      clear hy hno hk
      go_wp2_with fail
      go_ret
      exact ⟨rfl, HB4.out⟩

end Go.Proofs.Ytjmjpdamhondkaa
