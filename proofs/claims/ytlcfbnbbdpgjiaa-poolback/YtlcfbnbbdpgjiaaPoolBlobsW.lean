
/- PoolBlobs: the walk of the statement's function. -/
import Derived.Test.YtlcfbnbbdpgjiaaRows
import Derived.Test.YtlcfbnbbdpgjiaaRefBlobs
import Derived.Test.YtlcfbnbbdpgjiaaOpen2
namespace Go.Proofs.Ytlcfbnbbdpgjiaa
set_option linter.unusedVariables false
set_option linter.unusedSimpArgs false
open Go.RowKit Go.Maps

theorem refBlobs_none (a : Option Addr) (cap : Nat) (w : World) :
    Calls Try.prog 20 #[.slice a 0 cap] w fun e w' => ∃ bv av, e = .returned (.agg #[bv, av, .int .i64 0]) ∧ Bs w' bv [0] ∧ Is w' av [] ∧ Below w.heap.size w w' := by
  have HR1 : Hid (Rf w (((w.alloc (Obj.cells #[.slice none 0 0, .slice none 0 0, .int .i64 0] 33)).alloc (Obj.cells #[.slice none 0 0, .slice none 0 0, .int .i64 0] 33)).alloc (Obj.cells #[.int .u8 0] 5)) w.heap.size w.heap.size (w.heap.size + 1) (.slice none 0 0) (.slice none 0 0) (.slice none 0 0) (.slice none 0 0) [] []) := (rf_start w).later ((Below.refl _ _).alloc (Nat.le_refl _) _)
  go_enter Try.func20, Try.ntmps20
  go_wp2_with (at_builtin; go_must (refine wpList_append_at rfl _ _ _ _ rfl w.heap.size 5 (.int .u8 0) 1 Try.underlying27 Try.infoU8 rfl rfl rfl HR1.out.ownB (one_src0 Try.underlying27 _ _ _ _ (by simp) rfl) (by simp [u8s, maxLen]) (by simp [u8s]) HR1.out.top ?_))
  intro v1 w1 ho1 hg1 _ _
  have HR2 : Hid (Rf w w1 w.heap.size w.heap.size (w.heap.size + 1) (.slice none 0 0) (.slice none 0 0) v1 (.slice none 0 0) [0] []) := HR1.out.appB (ys := [0]) hg1 ho1
  obtain ⟨⟨a1, c1, e1, hc1⟩, -⟩ := HR2.out.shapes
  have e1' : v1 = .slice a1 1 c1 := e1
  clear e1
  subst e1'
  have HR3 : Hid (Rf w (w1.setCell ⟨w.heap.size + 1, 0, none⟩ (.slice a1 1 c1)) w.heap.size w.heap.size (w.heap.size + 1) (.slice a1 1 c1) (.slice none 0 0) (.slice a1 1 c1) (.slice none 0 0) [0] []) := HR2.out.setB
  obtain ⟨d0, d1, d2, d3, d4⟩ := HR2.out.cells
  obtain ⟨e0, e1, e2, e3, e4⟩ := HR3.out.cells
  obtain ⟨f0, f1, f2, f3, f4, f5⟩ := HR3.out.rcells
  have HF : Hid (∀ W, W = (((w1.setCell ⟨w.heap.size + 1, 0, none⟩ (.slice a1 1 c1)).setCell ⟨w.heap.size, 0, none⟩ (.slice a1 1 c1)).setCell ⟨w.heap.size, 1, none⟩ (.slice none 0 0)).setCell ⟨w.heap.size, 2, none⟩ (.int .i64 0) → Below w.heap.size w W ∧ Bs W (.slice a1 1 c1) [0] ∧ Is W (.slice none 0 0) [] ∧ W.cell? ⟨w.heap.size, 0, none⟩ = some (.slice a1 1 c1) ∧ W.cell? ⟨w.heap.size, 1, none⟩ = some (.slice none 0 0) ∧ W.cell? ⟨w.heap.size, 2, none⟩ = some (.int .i64 0)) := fun W hW => HR3.out.finish _ _ _ W hW
  clear ho1 hg1
  go_wp2_with fail
  refine wp_loop_rounds 1 ?_; rw [rounds_succ]
  go_wp2_with fail
  obtain ⟨q1, q2, q3, q4, q5, q6⟩ := HF.out _ rfl
  exact bodyPost_ret (v := .agg #[.slice a1 1 c1, .slice none 0 0, .int .i64 0]) (by simp [results, Try.results20, go_sem, q4, q5, q6]) rfl ⟨_, _, rfl, q2, q3, q1⟩

theorem refBlobs_yes {v : Value} {ls : List (List UInt8)} {w : World} (h : Bss w v ls) (hn : ls.length ≤ 60) (hz : ∀ l ∈ ls, l.length ≤ 300) :
    Calls Try.prog 20 #[v] w fun e w' => ∃ bv av, e = .returned (.agg #[bv, av, .int .i64 0]) ∧ Bs w' bv (pall encB ls).B ∧ Is w' av (ints (pall encB ls).ats) ∧ Below w.heap.size w w' := by
  obtain ⟨vs, hvl, ⟨a, cap, rfl, h1, h2, h3⟩, hb⟩ := h
  by_cases h0 : ls = []
  · subst h0
    rw [show vs.length = 0 from hvl]
    exact refBlobs_none a cap w
  · obtain ⟨b, off, rfl, hbl, hc⟩ := h3 (by intro e; subst e; simp at hvl; exact h0 (List.eq_nil_of_length_eq_zero hvl.symm))
    rw [hvl]
    exact refBlobs_ok b off cap ls vs hvl w hbl hn hz hc hb

theorem Bss.later {w w' : World} {v : Value} {ls : List (List UInt8)} (h : Bss w v ls) (hb : Below w.heap.size w w') : Bss w' v ls := by
  obtain ⟨vs, h1, h2, h3⟩ := h
  exact ⟨vs, h1, h2.later hb, fun i a b => (h3 i a b).later hb⟩
theorem Bss.shape {w : World} {v : Value} {ls : List (List UInt8)} (h : Bss w v ls) : ∃ a c, v = .slice a ls.length c := by
  obtain ⟨vs, h1, ⟨a, c, e, _⟩, h3⟩ := h
  exact ⟨a, c, by rw [e, h1]⟩

theorem longs_no {ls : List (List UInt8)} (h : longB ls = false) : ls.length ≤ 60 ∧ ∀ l ∈ ls, l.length ≤ 300 := by
  simp only [longB, Bool.or_eq_false_iff, decide_eq_false_iff_not] at h
  refine ⟨by omega, fun s hs => ?_⟩
  have := List.any_eq_false.1 h.2 s hs
  simp only [decide_eq_true_eq] at this
  omega

set_option maxHeartbeats 1000000 in
theorem poolBlobs_walk (v : Value) (ls : List (List UInt8)) (w : World) (hv : Bss w v ls) :
    Calls Try.prog 5 #[v] w fun e w' => e = .returned (.bool true) ∧ Below w.heap.size w w' := by
  have HV : Hid (Bss w v ls) := hv
  obtain ⟨a, cap, rfl⟩ := hv.shape
  clear hv
  cases hl : longB ls with
  | true =>
    go_enter Try.func5, Try.ntmps5
    go_wp2_with fail
    refine (wakes2_any _).mono ?_
    rintro e w1 ⟨rfl, hb1⟩
    have HB1 : Hid (Below w.heap.size w w1) := hb1
    clear hb1
    go_wp2_with fail
    refine (long_any (HV.out.later HB1.out)).mono ?_
    rintro e wz ⟨rfl, hzz⟩
    subst wz
    rw [hl]
    go_wp2_with fail
    go_ret
    exact ⟨rfl, HB1.out⟩
  | false =>
    obtain ⟨hn60, hz300⟩ := longs_no hl
    have HZ : Hid (∀ l ∈ ls, l.length ≤ 300) := hz300
    clear hz300
    go_enter Try.func5, Try.ntmps5
    go_wp2_with fail
    refine (wakes2_any _).mono ?_
    rintro e w1 ⟨rfl, hb1⟩
    have HB1 : Hid (Below w.heap.size w w1) := hb1
    have hs1 := hb1.size
    clear hb1
    go_wp2_with fail
    refine (long_any (HV.out.later HB1.out)).mono ?_
    rintro e wz ⟨rfl, hzz⟩
    subst wz
    rw [hl]
    go_wp2_with fail
    refine (blobs_yes (HV.out.later HB1.out) hn60 HZ.out).mono ?_
    rintro e w5 ⟨bv, av, rfl, hb5, hi5, hl5⟩
    have HB5 : Hid (Below w.heap.size w w5) := HB1.out.trans (hl5.mono hs1)
    have HBV5 : Hid (Bs w5 bv (pall encB ls).B) := hb5
    have HAV5 : Hid (Is w5 av (ints (pall encB ls).ats)) := hi5
    have hs5 := HB5.out.size
    clear hb5 hi5 hl5
    go_wp2_with fail
    refine (refBlobs_yes (HV.out.later HB5.out) hn60 HZ.out).mono ?_
    rintro e w6 ⟨bv6, av6, rfl, hb6, hi6, hl6⟩
    have HB6 : Hid (Below w.heap.size w w6) := HB5.out.trans (hl6.mono hs5)
    have HBV6 : Hid (Bs w6 bv6 (pall encB ls).B) := hb6
    have HAV6 : Hid (Is w6 av6 (ints (pall encB ls).ats)) := hi6
    have HBV7 : Hid (Bs w6 bv (pall encB ls).B) := HBV5.out.later hl6
    have HAV7 : Hid (Is w6 av (ints (pall encB ls).ats)) := HAV5.out.later hl6
    have hs6 := HB6.out.size
    clear hl6
    obtain ⟨x1, x2, rfl, -⟩ := hb6
    obtain ⟨x3, x4, rfl, -⟩ := hi6
    generalize (pall encB ls).B = qB at *
    generalize ints (pall encB ls).ats = qA at *
    generalize (i64s qA).length = nA at *
    go_wp2_with fail
    refine (same_any (HBV7.out.later ((Below.refl _ _).alloc (Nat.le_refl _) _)) (HBV6.out.later ((Below.refl _ _).alloc (Nat.le_refl _) _))).mono ?_
    rintro e w8 ⟨rfl, n8, rfl⟩
    have ht : decide (qB = qB) = true := by simp
    rw [ht]
    go_wp2_with fail
    refine (sameI_any ((HAV7.out.later ((Below.refl _ _).alloc (Nat.le_refl _) _)).drewN n8) ((HAV6.out.later ((Below.refl _ _).alloc (Nat.le_refl _) _)).drewN n8)).mono ?_
    rintro e w9 ⟨rfl, n9, rfl⟩
    have ht : decide (qA = qA) = true := by simp
    rw [ht]
    go_wp2_with fail
    go_ret
    exact ⟨rfl, Below.drewN (HB6.out.alloc hs6 _) _⟩

end Go.Proofs.Ytlcfbnbbdpgjiaa
