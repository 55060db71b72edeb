
/- RowsPlain: the walk of the statement's function. -/
import Derived.Test.YtjmjpdamhondkaaRows
import Derived.Test.YtjmjpdamhondkaaRead4
import Derived.Test.YtjmjpdamhondkaaRefSame4
namespace Go.Proofs.Ytjmjpdamhondkaa
set_option linter.unusedVariables false
set_option linter.unusedSimpArgs false
open Go.RowKit Go.Maps

/-- What was read is small. -/
theorem row_small {bs : List UInt8} {t m at0 : Nat} : ∀ {c a : Nat} {l : List Int}, rowTo bs t m at0 c = some (l, a) → ∀ x ∈ l, x < 9223372036854775808
  | 0, a, l, h, x, hx => by simp only [rowTo, Option.some.injEq, Prod.mk.injEq] at h; rw [← h.1] at hx; simp at hx
  | c + 1, a, l, h, x, hx => by
    simp only [rowTo] at h
    cases hp : rowTo bs t m at0 c with
    | none => rw [hp] at h; simp at h
    | some p =>
      rw [hp] at h
      simp only at h
      split at h
      · simp at h
      · simp only [Option.some.injEq, Prod.mk.injEq] at h
        rw [← h.1] at hx
        rcases List.mem_append.1 hx with hx | hx
        · exact row_small (l := p.1) (a := p.2) hp x hx
        · simp at hx
          have h1 := num_lt bs p.2 (widR t c m)
          have h2 := widR_cases t c m
          rcases h2 with e | e <;> rw [e] at hx h1 <;> omega
theorem rows_small {bs : List UInt8} {t m at0 : Nat} : ∀ {c a : Nat} {l : List (List Int)}, rowsTo bs t m at0 c = some (l, a) → ∀ row ∈ l, ∀ x ∈ row, x < 9223372036854775808
  | 0, a, l, h, row, hr => by simp only [rowsTo, Option.some.injEq, Prod.mk.injEq] at h; rw [← h.1] at hr; simp at hr
  | c + 1, a, l, h, row, hr => by
    simp only [rowsTo] at h
    cases hp : rowsTo bs t m at0 c with
    | none => rw [hp] at h; simp at h
    | some p =>
      rw [hp] at h
      simp only at h
      cases hq : rowTo bs t m p.2 (colsR t) with
      | none => rw [hq] at h; simp at h
      | some q =>
        rw [hq] at h
        simp only [Option.some.injEq, Prod.mk.injEq] at h
        rw [← h.1] at hr
        rcases List.mem_append.1 hr with hr | hr
        · exact rows_small (l := p.1) (a := p.2) hp row hr
        · simp at hr; subst hr; exact row_small (l := q.1) (a := q.2) hq
theorem tabs_small {bs : List UInt8} {cs : List Nat} {m at0 : Nat} : ∀ {c a : Nat} {T : List (List (List Int))}, tabsTo bs cs m at0 c = some (T, a) → SmallT T
  | 0, a, T, h, l, hl => by simp only [tabsTo, Option.some.injEq, Prod.mk.injEq] at h; rw [← h.1] at hl; simp at hl
  | c + 1, a, T, h, l, hl => by
    simp only [tabsTo] at h
    cases hp : tabsTo bs cs m at0 c with
    | none => rw [hp] at h; simp at h
    | some p =>
      rw [hp] at h
      simp only at h
      cases hq : rowsTo bs c m p.2 (cs.getD c 0) with
      | none => rw [hq] at h; simp at h
      | some q =>
        rw [hq] at h
        simp only [Option.some.injEq, Prod.mk.injEq] at h
        rw [← h.1] at hl
        rcases List.mem_append.1 hl with hl | hl
        · exact tabs_small (T := p.1) (a := p.2) hp l hl
        · simp at hl; subst hl; exact rows_small (l := q.1) (a := q.2) hq

/-- Bytes are refused, or read. -/
theorem read_cases (bs : List UInt8) : (∃ p k, k ≠ 0 ∧ readR bs = (Tabs.nil, p, k)) ∨ ∃ T, readR bs = (T, 0, 0) ∧ SmallT T.rows ∧ T.entry < 65536 ∧ 2 ≤ bs.length := by
  unfold readR
  split
  · exact .inl ⟨_, 1, by omega, rfl⟩
  · split
    · exact .inl ⟨_, 2, by omega, rfl⟩
    · split
      · exact .inl ⟨_, 1, by omega, rfl⟩
      · split
        · exact .inl ⟨_, 2, by omega, rfl⟩
        · rename_i h2 _
          unfold readB
          cases hc : cntTo bs (byteAt bs 1) 2 6 with
          | none => exact .inl ⟨_, 1, by omega, rfl⟩
          | some p =>
            simp only
            split
            · exact .inl ⟨_, 1, by omega, rfl⟩
            · cases ht : tabsTo bs p.1 (byteAt bs 0) (p.2 + 2) 6 with
              | none => exact .inl ⟨_, 1, by omega, rfl⟩
              | some q =>
                simp only
                split
                · exact .inl ⟨_, 2, by omega, rfl⟩
                · refine .inr ⟨_, rfl, tabs_small (T := q.1) (a := q.2) ht, ?_, by omega⟩
                  have := num_lt bs p.2 2
                  show ((numAt bs p.2 2 : Nat) : Int) < 65536
                  omega

/-- Read, where it is known what it answers. -/
theorem read_of {v : Value} {bs : List UInt8} {w : World} {T : Tabs} {p k : Nat} (hv : Bs w v bs) (hn : bs.length ≤ 140737488355328) (h : readR bs = (T, p, k)) (x y : Int) (hx : x = p) (hy : y = k) :
    Calls Try.prog 9 #[v] w fun e w' => ∃ a c, e = .returned (.tuple #[.agg #[.int .i64 T.entry, .slice a T.rows.length c], .int .i64 x, .int .i64 y]) ∧ In3 w' (.slice a T.rows.length c) T.rows ∧ Below w.heap.size w w' := by
  refine (read_any hv hn).mono ?_
  rintro e w' ⟨⟨sv, he, hin⟩, hb⟩
  rw [h] at he hin
  have hin' := hin
  obtain ⟨a, c, rfl, -⟩ := Ns.shape hin
  subst hx hy
  exact ⟨a, c, he, hin', hb⟩

set_option maxHeartbeats 1000000 in
theorem rowsPlain_walk (v : Value) (bs : List UInt8) (w : World) (hv : Bs w v bs) (hz : bs.length ≤ 140737488351232) :
    Calls Try.prog 6 #[v] w fun e w' => e = .returned (.bool true) ∧ Below w.heap.size w w' := by
  have HV : Hid (∀ W, Below w.heap.size w W → Bs W v bs) := fun W hW => hv.later hW
  obtain ⟨a, c, rfl, -⟩ := hv
  by_cases hl : 3000 < bs.length
  · go_enter Try.func6, Try.ntmps6
    go_wp2_with fail
    refine (wakes4_any w).mono ?_
    rintro e w1 ⟨rfl, hb1⟩
    have HB1 : Hid (Below w.heap.size w w1) := hb1
    clear hb1
    go_wp2_with fail
    go_ret
    exact ⟨rfl, HB1.out⟩
  · rcases read_cases bs with ⟨p, k, hk, hr⟩ | ⟨T, hr, hsm, hen, hl2⟩
    · have HR : Hid (readR bs = (Tabs.nil, p, k)) := hr
      have hk' : ((k : Int) != 0) = true := by rw [bne_iff_ne]; omega
      clear hr hk
      go_enter Try.func6, Try.ntmps6
      go_wp2_with fail
      refine (wakes4_any w).mono ?_
      rintro e w1 ⟨rfl, hb1⟩
      have HB1 : Hid (Below w.heap.size w w1) := hb1
      have hs1 := hb1.size
      clear hb1
      go_wp2_with fail
      refine (read_of (HV.out w1 HB1.out) (by omega) HR.out (p : Int) (k : Int) rfl rfl).mono ?_
      rintro e w2 ⟨ra, rc, rfl, hin, hb2⟩
      have HB2 : Hid (Below w.heap.size w w2) := HB1.out.trans (hb2.mono hs1)
      have hs2 := HB2.out.size
      have e0 : Tabs.nil.rows.length = 0 := rfl
      have e1 : Tabs.nil.entry = 0 := rfl
      rw [e0, e1]
      clear hb2 hin e0 e1
      go_wp2_with fail
      go_ret
      exact ⟨rfl, HB2.out.alloc hs2 _⟩
    · have hp := read_plain hr
      obtain ⟨en, rows⟩ := T
      have HR : Hid (readR bs = (⟨en, rows⟩, 0, 0)) := hr
      have HSM : Hid (SmallT rows) := hsm
      have hen' : en < 9223372036854775808 := by
        have : en < 65536 := hen
        omega
      obtain ⟨wb, hwb⟩ : ∃ wb, wb = (writeR ⟨en, rows⟩).1 := ⟨_, rfl⟩
      obtain ⟨wk, hwk⟩ : ∃ wk, wk = (writeR ⟨en, rows⟩).2 := ⟨_, rfl⟩
      have HWR : Hid (writeR ⟨en, rows⟩ = (wb, wk)) := by show _ = _; rw [hwb, hwk]
      rw [← hwb, ← hwk] at hp
      clear hwb hwk hr hsm hen
      go_enter Try.func6, Try.ntmps6
      go_wp2_with fail
      refine (wakes4_any w).mono ?_
      rintro e w1 ⟨rfl, hb1⟩
      have HB1 : Hid (Below w.heap.size w w1) := hb1
      have hs1 := hb1.size
      clear hb1
      go_wp2_with fail
      refine (read_of (HV.out w1 HB1.out) (by omega) HR.out 0 0 rfl rfl).mono ?_
      rintro e w2 ⟨ra, rc, rfl, hin, hb2⟩
      have HB2 : Hid (Below w.heap.size w w2) := HB1.out.trans (hb2.mono hs1)
      have hs2 := HB2.out.size
      simp only at hin
      obtain ⟨w3, hw3⟩ : ∃ w3, w3 = w2.alloc (Obj.cells #[.int .i64 en, .slice ra rows.length rc] 26) := ⟨_, rfl⟩
      have hb3 : Below w2.heap.size w2 w3 := by rw [hw3]; exact (Below.refl _ _).alloc (Nat.le_refl _) _
      have HI3 : Hid (In3 w3 (.slice ra rows.length rc) rows) := hin.later hb3
      have HB3 : Hid (Below w.heap.size w w3) := HB2.out.trans (hb3.mono hs2)
      have HX3 : Hid (w3.heap[w2.heap.size]? = some (Obj.cells #[.int .i64 en, .slice ra rows.length rc] 26 (0, 0))) := by rw [hw3]; exact heap_alloc_new w2 _
      obtain ⟨x0, x1⟩ := box2 HX3.out
      have hs3 : w2.heap.size < w3.heap.size := (Array.getElem?_eq_some_iff.1 HX3.out).1
      have HW3 : Hid (w3 = w2.alloc (Obj.cells #[.int .i64 en, .slice ra rows.length rc] 26)) := hw3
      have hll : rows.length ≤ maxLen := by
        obtain ⟨_, _, e, h1, h2⟩ := Ns.shape hin
        omega
      unfold maxLen at hll
      clear hin hb2 hb3 hw3
      rcases hp with ⟨hp1, hp2, hp3⟩ | ⟨hp1, hp2⟩
      · subst hp1
        have HP2 : Hid (readR wb = (⟨en, rows⟩, 0, 0)) := hp2
        clear hp2
        go_wp2_with fail
        rw [← HW3.out]
        refine (write_of en HI3.out HSM.out hen' HWR.out 0 rfl).mono ?_
        rintro e w4 ⟨ca, cc, rfl, hbs4, hb4⟩
        have HB4 : Hid (Below w.heap.size w w4) := HB3.out.trans (hb4.mono HB3.out.size)
        have HI4 : Hid (In3 w4 (.slice ra rows.length rc) rows) := HI3.out.later hb4
        have HX4 : Hid (w4.heap[w2.heap.size]? = some (Obj.cells #[.int .i64 en, .slice ra rows.length rc] 26 (0, 0))) := (hb4.block _ hs3).trans HX3.out
        have HC4 : Hid (Bs w4 (.slice ca wb.length cc) wb) := hbs4
        have hs4 := HB4.out.size
        have hs34 := hb4.size
        clear hb4 hbs4 x0 x1
        go_wp2_with fail
        refine (read_of HC4.out (by omega) HP2.out 0 0 rfl rfl).mono ?_
        rintro e w5 ⟨rb, rd, rfl, hin5, hb5⟩
        simp only at hin5
        obtain ⟨w6, hw6⟩ : ∃ w6, w6 = w5.alloc (Obj.cells #[.int .i64 en, .slice rb rows.length rd] 26) := ⟨_, rfl⟩
        have hb6 : Below w5.heap.size w5 w6 := by rw [hw6]; exact (Below.refl _ _).alloc (Nat.le_refl _) _
        have HI6 : Hid (In3 w6 (.slice rb rows.length rd) rows) := hin5.later hb6
        have HJ6 : Hid (In3 w6 (.slice ra rows.length rc) rows) := (HI4.out.later hb5).later hb6
        have HB6 : Hid (Below w.heap.size w w6) := HB4.out.trans ((hb5.trans (hb6.mono hb5.size)).mono hs4)
        have hx6 : w6.heap[w2.heap.size]? = some (Obj.cells #[.int .i64 en, .slice ra rows.length rc] 26 (0, 0)) := ((hb6.block _ (by have := hb5.size; omega)).trans (hb5.block _ (by omega))).trans HX4.out
        have hy6 : w6.heap[w5.heap.size]? = some (Obj.cells #[.int .i64 en, .slice rb rows.length rd] 26 (0, 0)) := by rw [hw6]; exact heap_alloc_new w5 _
        obtain ⟨x0, x1⟩ := box2 hx6
        obtain ⟨y0, y1⟩ := box2 hy6
        have HW6 : Hid (w6 = w5.alloc (Obj.cells #[.int .i64 en, .slice rb rows.length rd] 26)) := hw6
        have hs6 := HB6.out.size
        rw [hw6] at x0 x1 y0 y1
        clear hin5 hb5 hb6 hx6 hy6 hw6
        go_wp2_with fail
        rw [← HW6.out]
        refine (refSame4_yes en HI6.out HJ6.out).mono ?_
        rintro e w7 ⟨rfl, hb7⟩
        have HB7 : Hid (Below w.heap.size w w7) := HB6.out.trans (hb7.mono hs6)
        clear hb7
        go_wp2_with fail
        go_ret
        exact ⟨rfl, HB7.out⟩
      · subst hp1
        go_wp2_with fail
        rw [← HW3.out]
        refine (write_of en HI3.out HSM.out hen' HWR.out 3 rfl).mono ?_
        rintro e w4 ⟨ca, cc, rfl, hbs4, hb4⟩
        have HB4 : Hid (Below w.heap.size w w4) := HB3.out.trans (hb4.mono HB3.out.size)
        obtain ⟨a', c', he, hq1, hq2, hq3⟩ := HV.out w4 HB4.out
        simp only [Value.slice.injEq] at he
        obtain ⟨rfl, -, rfl⟩ := he
        obtain ⟨b, off, rfl, hbl, hcell⟩ := hq3 (by intro e; subst e; simp at hl2)
        have h0 := hcell 0 (by omega)
        have hby : byteAt bs 0 = (bs[0]'(by omega)).toNat := by simp [byteAt, List.getElem?_eq_getElem (show 0 < bs.length by omega)]
        rw [← hby] at h0
        rw [Nat.add_zero] at h0
        clear hq3 hcell hby hb4 hbs4 x0 x1
        generalize byteAt bs 0 = m at *
        go_wp2_with fail
        go_ret
        exact ⟨rfl, HB4.out⟩

end Go.Proofs.Ytjmjpdamhondkaa
