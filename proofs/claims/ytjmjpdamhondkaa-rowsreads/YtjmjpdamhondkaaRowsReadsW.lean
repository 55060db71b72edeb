
/- RowsReads: the walk of the statement's function. -/
import Derived.Test.YtjmjpdamhondkaaRows
import Derived.Test.YtjmjpdamhondkaaRefRead4
import Derived.Test.YtjmjpdamhondkaaRefSame4
namespace Go.Proofs.Ytjmjpdamhondkaa
set_option linter.unusedVariables false
set_option linter.unusedSimpArgs false
open Go.RowKit Go.Maps

set_option maxHeartbeats 1000000 in
theorem rowsReads_walk (v : Value) (bs : List UInt8) (w : World) (hv : Bs w v bs) (hz : bs.length ≤ 140737488351232) :
    Calls Try.prog 3 #[v] w fun e w' => e = .returned (.bool true) ∧ Below w.heap.size w w' := by
  have HV : Hid (∀ W, Below w.heap.size w W → Bs W v bs) := fun W hW => hv.later hW
  obtain ⟨a, c, rfl, -⟩ := hv
  by_cases hl : 3000 < bs.length
  · go_enter Try.func3, Try.ntmps3
    go_wp2_with fail
    refine (wakes4_any w).mono ?_
    rintro e w1 ⟨rfl, hb1⟩
    have HB1 : Hid (Below w.heap.size w w1) := hb1
    clear hb1
    go_wp2_with fail
    go_ret
    exact ⟨rfl, HB1.out⟩
  · go_enter Try.func3, Try.ntmps3
    go_wp2_with fail
    refine (wakes4_any w).mono ?_
    rintro e w1 ⟨rfl, hb1⟩
    have HB1 : Hid (Below w.heap.size w w1) := hb1
    have hs1 := hb1.size
    have hb2 : Below w1.heap.size w1 (w1.alloc (Obj.cells #[] 5)) := (Below.refl _ _).alloc (Nat.le_refl _) _
    have HS2 : Hid (Bs (w1.alloc (Obj.cells #[] 5)) (.slice a bs.length c) bs) := HV.out _ (hb1.trans (hb2.mono hs1))
    have HO2 : Hid (Own (w1.alloc (Obj.cells #[] 5)) w1.heap.size 5 (.slice (some ⟨w1.heap.size, 0, none⟩) 0 0) []) := Own.lit w1 w1.heap.size 5 [] #[] 0 (Nat.le_refl _) rfl rfl (by simp [maxLen])
    clear hb1 hb2
    go_wp2_with (at_builtin; go_must (refine wpList_append_bs rfl _ _ _ rfl w1.heap.size 5 Try.underlying22 Try.infoU8 rfl rfl HO2.out HS2.out (by simp; omega) (by simp) ?_))
    intro v3 w3 ho3 hg3
    obtain ⟨hbs3, hb3, -, -⟩ := copied ho3 hg3
    have HBS3 : Hid (Bs w3 v3 bs) := hbs3
    have HB3 : Hid (Below w.heap.size w w3) := HB1.out.trans (hb3.mono hs1)
    clear ho3 hg3 hbs3 hb3 HO2 HS2
    go_wp2_with fail
    refine (read_any HBS3.out (by omega)).mono ?_
    rintro e w4 ⟨⟨sv, rfl, hin4⟩, hb4⟩
    obtain ⟨ra, rc, rfl, -, hrm⟩ := Ns.shape hin4
    obtain ⟨T, hT⟩ : ∃ T, T = (readR bs).1 := ⟨_, rfl⟩
    rw [← hT] at hin4 ⊢
    have HTD : Hid (T = (readR bs).1) := hT
    obtain ⟨w5, hw5⟩ : ∃ w5, w5 = w4.alloc (Obj.cells #[.int .i64 T.entry, .slice ra T.rows.length rc] 26) := ⟨_, rfl⟩
    have hb5 : Below w4.heap.size w4 w5 := by rw [hw5]; exact (Below.refl _ _).alloc (Nat.le_refl _) _
    have HI5 : Hid (In3 w5 (.slice ra T.rows.length rc) T.rows) := hin4.later hb5
    have HB5 : Hid (Below w.heap.size w w5) := HB3.out.trans ((hb4.trans (hb5.mono hb4.size)).mono HB3.out.size)
    have HX5 : Hid (w5.heap[w4.heap.size]? = some (Obj.cells #[.int .i64 T.entry, .slice ra T.rows.length rc] 26 (0, 0))) := by rw [hw5]; exact heap_alloc_new w4 _
    have hs5 := (Array.getElem?_eq_some_iff.1 HX5.out).1
    have HW5 : Hid (w5 = w4.alloc (Obj.cells #[.int .i64 T.entry, .slice ra T.rows.length rc] 26)) := hw5
    clear hin4 hb4 hb5 hw5 hT hrm
    go_wp2_with fail
    rw [← HW5.out]
    refine (refRead_any (HV.out w5 HB5.out) (by omega)).mono ?_
    rintro e w6 ⟨⟨sv6, rfl, hin6⟩, hb6⟩
    rw [← HTD.out] at hin6 ⊢
    obtain ⟨sa, sc, rfl, -, hsm⟩ := Ns.shape hin6
    generalize (readR bs).2.1 = p at *
    generalize (readR bs).2.2 = k at *
    obtain ⟨w7, hw7⟩ : ∃ w7, w7 = w6.alloc (Obj.cells #[.int .i64 T.entry, .slice sa T.rows.length sc, .int .i64 (p : Int), .int .i64 (k : Int)] 31) := ⟨_, rfl⟩
    have hb7 : Below w6.heap.size w6 w7 := by rw [hw7]; exact (Below.refl _ _).alloc (Nat.le_refl _) _
    have HJ7 : Hid (In3 w7 (.slice sa T.rows.length sc) T.rows) := hin6.later hb7
    have hb67 : Below w5.heap.size w5 w7 := hb6.trans (hb7.mono hb6.size)
    have HI7 : Hid (In3 w7 (.slice ra T.rows.length rc) T.rows) := HI5.out.later hb67
    have HB7 : Hid (Below w.heap.size w w7) := HB5.out.trans (hb67.mono HB5.out.size)
    obtain ⟨x0, x1⟩ := box2 ((hb67.block _ hs5).trans HX5.out)
    have HY7 : Hid (w7.heap[w6.heap.size]? = some (Obj.cells #[.int .i64 T.entry, .slice sa T.rows.length sc, .int .i64 (p : Int), .int .i64 (k : Int)] 31 (0, 0))) := by rw [hw7]; exact heap_alloc_new w6 _
    obtain ⟨y0, y1, y2, y3⟩ := box4 HY7.out
    have hs7 := (Array.getElem?_eq_some_iff.1 HY7.out).1
    have HW7 : Hid (w7 = w6.alloc (Obj.cells #[.int .i64 T.entry, .slice sa T.rows.length sc, .int .i64 (p : Int), .int .i64 (k : Int)] 31)) := hw7
    rw [hw7] at x0 x1 y0 y1 y2 y3
    clear hin6 hb6 hb7 hb67 hw7 hsm
    go_wp2_with fail
    rw [← HW7.out]
    refine (refSame4_yes T.entry HI7.out HJ7.out).mono ?_
    rintro e w8 ⟨rfl, hb8⟩
    have HB8 : Hid (Below w.heap.size w w8) := HB7.out.trans (hb8.mono HB7.out.size)
    clear x0 x1 y0 y1 y2 y3
    obtain ⟨y0, y1, y2, y3⟩ := box4 ((hb8.block _ hs7).trans HY7.out)
    clear hb8
    go_wp2_with fail
    go_ret
    exact ⟨rfl, HB8.out⟩

end Go.Proofs.Ytjmjpdamhondkaa
