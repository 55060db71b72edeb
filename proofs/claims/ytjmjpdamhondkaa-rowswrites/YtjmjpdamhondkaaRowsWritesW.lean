
/- RowsWrites: the walk of the statement's function. -/
import Derived.Test.YtjmjpdamhondkaaRows
import Derived.Test.YtjmjpdamhondkaaRefWrite4
namespace Go.Proofs.Ytjmjpdamhondkaa
set_option linter.unusedVariables false
set_option linter.unusedSimpArgs false
open Go.RowKit Go.Maps

set_option maxHeartbeats 1000000 in
theorem rowsWrites_walk (v : Value) (T : Tabs) (w : World) (hv : Tv w v T) :
    Calls Try.prog 4 #[v] w fun e w' => e = .returned (.bool true) ∧ Below w.heap.size w w' := by
  obtain ⟨en, T⟩ := T
  obtain ⟨sv, rfl, hin, hsm, hen⟩ := hv
  simp only at hin hsm hen
  have HV : Hid (∀ W, Below w.heap.size w W → In3 W sv T) := fun W hW => hin.later hW
  obtain ⟨a, c, rfl, hc1, hc2⟩ := Ns.shape hin
  unfold maxLen at hc2
  have HSM : Hid (SmallT T) := hsm
  obtain ⟨w0, hw0⟩ : ∃ w0, w0 = w.alloc (Obj.cells #[.int .i64 en, .slice a T.length c] 26) := ⟨_, rfl⟩
  have hb0 : Below w.heap.size w w0 := by rw [hw0]; exact (Below.refl _ _).alloc (Nat.le_refl _) _
  have hx0 : w0.heap[w.heap.size]? = some (Obj.cells #[.int .i64 en, .slice a T.length c] 26 (0, 0)) := by rw [hw0]; exact heap_alloc_new w _
  have HWK : Hid (Calls Try.prog 8 #[] w0 fun e w' => e = .returned (.bool true) ∧ Below w.heap.size w w' ∧ w'.heap[w.heap.size]? = some (Obj.cells #[.int .i64 en, .slice a T.length c] 26 (0, 0))) := by
    refine (wakes4_any w0).mono ?_
    rintro e w1 ⟨rfl, hb1⟩
    exact ⟨rfl, hb0.trans (hb1.mono hb0.size), (hb1.block _ (Array.getElem?_eq_some_iff.1 hx0).1).trans hx0⟩
  subst hw0
  clear hin hsm hb0 hx0
  go_enter Try.func4, Try.ntmps4
  go_wp2_with fail
  refine Calls.mono HWK.out ?_
  rintro e w1 ⟨rfl, hb1, hx1⟩
  have HB1 : Hid (Below w.heap.size w w1) := hb1
  have HX1 : Hid (w1.heap[w.heap.size]? = some (Obj.cells #[.int .i64 en, .slice a T.length c] 26 (0, 0))) := hx1
  have hs1 := (Array.getElem?_eq_some_iff.1 hx1).1
  obtain ⟨x0, x1⟩ := box2 hx1
  clear hb1 hx1 HWK
  go_wp2_with fail
  refine (long4_any en (HV.out w1 HB1.out)).mono ?_
  rintro e w2 ⟨rfl, hb2⟩
  have HB2 : Hid (Below w.heap.size w w2) := HB1.out.trans (hb2.mono HB1.out.size)
  have HX2 : Hid (w2.heap[w.heap.size]? = some (Obj.cells #[.int .i64 en, .slice a T.length c] 26 (0, 0))) := (hb2.block _ hs1).trans HX1.out
  have hs2 := (Array.getElem?_eq_some_iff.1 HX2.out).1
  clear hb2 x0 x1 HX1
  obtain ⟨x0, x1⟩ := box2 HX2.out
  cases hlg : longT T with
  | true =>
    clear hlg
    go_wp2_with fail
    go_ret
    exact ⟨rfl, HB2.out⟩
  | false =>
    obtain ⟨l1, l2, l3⟩ := long_no hlg
    have HL2 : Hid (∀ l ∈ T, l.length ≤ 100) := l2
    have HL3 : Hid (∀ l ∈ T, ∀ row ∈ l, row.length ≤ 20) := l3
    clear hlg l2 l3
    go_wp2_with fail
    refine (copied4_any en (HV.out w2 HB2.out) l1 HL2.out HL3.out).mono ?_
    rintro e w3 ⟨oa, oc, rfl, hin3, hb3⟩
    obtain ⟨w4, hw4⟩ : ∃ w4, w4 = w3.alloc (Obj.cells #[.int .i64 en, .slice oa T.length oc] 26) := ⟨_, rfl⟩
    have hb4 : Below w3.heap.size w3 w4 := by rw [hw4]; exact (Below.refl _ _).alloc (Nat.le_refl _) _
    have HI4 : Hid (In3 w4 (.slice oa T.length oc) T) := hin3.later hb4
    have HB4 : Hid (Below w.heap.size w w4) := HB2.out.trans ((hb3.trans (hb4.mono hb3.size)).mono HB2.out.size)
    have hs3 := hb3.size
    have HX4 : Hid (w4.heap[w.heap.size]? = some (Obj.cells #[.int .i64 en, .slice a T.length c] 26 (0, 0))) := ((hb4.block _ (by omega)).trans (hb3.block _ hs2)).trans HX2.out
    have HY4 : Hid (w4.heap[w3.heap.size]? = some (Obj.cells #[.int .i64 en, .slice oa T.length oc] 26 (0, 0))) := by rw [hw4]; exact heap_alloc_new w3 _
    obtain ⟨y0, y1⟩ := box2 HY4.out
    have hs4 := (Array.getElem?_eq_some_iff.1 HY4.out).1
    have HW4 : Hid (w4 = w3.alloc (Obj.cells #[.int .i64 en, .slice oa T.length oc] 26)) := hw4
    rw [hw4] at y0 y1
    clear hin3 hb3 hb4 hw4 x0 x1 HX2
    go_wp2_with fail
    rw [← HW4.out]
    refine (write_any en HI4.out HSM.out hen).mono ?_
    rintro e w5 ⟨bv, rfl, hbs5, hb5⟩
    have HB5 : Hid (Below w.heap.size w w5) := HB4.out.trans (hb5.mono HB4.out.size)
    have HI5 : Hid (In3 w5 (.slice oa T.length oc) T) := HI4.out.later hb5
    have HX5 : Hid (w5.heap[w.heap.size]? = some (Obj.cells #[.int .i64 en, .slice a T.length c] 26 (0, 0))) := (hb5.block _ (by omega)).trans HX4.out
    have HY5 : Hid (w5.heap[w3.heap.size]? = some (Obj.cells #[.int .i64 en, .slice oa T.length oc] 26 (0, 0))) := (hb5.block _ hs4).trans HY4.out
    have HC5 : Hid (Bs w5 bv (writeR ⟨en, T⟩).1) := hbs5
    obtain ⟨x0, x1⟩ := box2 HX5.out
    have hs5 := hb5.size
    clear hbs5 hb5 y0 y1
    go_wp2_with fail
    refine (refWrite_any en (HV.out w5 HB5.out) HSM.out hen HL2.out).mono ?_
    rintro e w6 ⟨⟨cv, rfl, hbs6⟩, hb6⟩
    have HB6 : Hid (Below w.heap.size w w6) := HB5.out.trans (hb6.mono HB5.out.size)
    have HI6 : Hid (In3 w6 (.slice oa T.length oc) T) := HI5.out.later hb6
    have HX6 : Hid (w6.heap[w.heap.size]? = some (Obj.cells #[.int .i64 en, .slice a T.length c] 26 (0, 0))) := (hb6.block _ (by omega)).trans HX5.out
    have HY6 : Hid (w6.heap[w3.heap.size]? = some (Obj.cells #[.int .i64 en, .slice oa T.length oc] 26 (0, 0))) := (hb6.block _ (by omega)).trans HY5.out
    have HC6 : Hid (Bs w6 bv (writeR ⟨en, T⟩).1) := HC5.out.later hb6
    have HD6 : Hid (Bs w6 cv (writeR ⟨en, T⟩).1) := hbs6
    have hs6 := hb6.size
    clear hbs6 hb6 x0 x1
    go_wp2_with fail
    refine (same_any HC6.out HD6.out).mono ?_
    rw [decide_eq_true rfl]
    rintro e w7 ⟨rfl, nq, hz⟩
    have hb7 : Below w6.heap.size w6 w7 := by rw [hz]; exact Below.drewN (Below.refl _ _) nq
    have HB7 : Hid (Below w.heap.size w w7) := HB6.out.trans (hb7.mono HB6.out.size)
    have HI7 : Hid (In3 w7 (.slice oa T.length oc) T) := HI6.out.later hb7
    obtain ⟨x0, x1⟩ := box2 ((hb7.block _ (by omega)).trans HX6.out)
    obtain ⟨y0, y1⟩ := box2 ((hb7.block _ (by omega)).trans HY6.out)
    clear hz hb7
    generalize (writeR ⟨en, T⟩).2 = wk at *
    go_wp2_with fail
    refine (refSame4_yes en HI7.out (HV.out w7 HB7.out)).mono ?_
    rintro e w8 ⟨rfl, hb8⟩
    have HB8 : Hid (Below w.heap.size w w8) := HB7.out.trans (hb8.mono HB7.out.size)
    clear hb8
    go_wp2_with fail
    go_ret
    exact ⟨rfl, HB8.out⟩

end Go.Proofs.Ytjmjpdamhondkaa
