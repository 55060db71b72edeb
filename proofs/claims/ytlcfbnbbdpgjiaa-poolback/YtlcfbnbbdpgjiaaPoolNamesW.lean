
/- PoolNames: the walk of the statement's function. -/
import Derived.Test.YtlcfbnbbdpgjiaaRows
import Derived.Test.YtlcfbnbbdpgjiaaRefNames
import Derived.Test.YtlcfbnbbdpgjiaaOpen2
namespace Go.Proofs.Ytlcfbnbbdpgjiaa
set_option linter.unusedVariables false
set_option linter.unusedSimpArgs false
open Go.RowKit Go.Maps

theorem Try.infoStr : (Try.prog.info? 9).map (fun i => (i.zero, i.size, i.bytes)) = some (some (.string .empty), 1, 16) := by kernel_rfl

theorem refNames_none (a : Option Addr) (cap : Nat) (w : World) :
    Calls Try.prog 12 #[.slice a 0 cap] w fun e w' => ∃ bv av, e = .returned (.agg #[bv, av, .int .i64 0]) ∧ Bs w' bv [0] ∧ Is w' av [] ∧ Below w.heap.size w w' := by
  have HR1 : Hid (Rf w (((w.alloc (Obj.cells #[.slice none 0 0, .slice none 0 0, .int .i64 0] 33)).alloc (Obj.cells #[.slice none 0 0, .slice none 0 0, .int .i64 0] 33)).alloc (Obj.cells #[.int .u8 0] 5)) w.heap.size w.heap.size (w.heap.size + 1) (.slice none 0 0) (.slice none 0 0) (.slice none 0 0) (.slice none 0 0) [] []) := (rf_start w).later ((Below.refl _ _).alloc (Nat.le_refl _) _)
  go_enter Try.func12, Try.ntmps12
  go_wp2_with fail
  refine wp_loop_rounds 1 ?_; rw [rounds_succ]
  go_wp2_with (at_builtin; go_must (refine wpList_append_at rfl _ _ _ _ rfl w.heap.size 5 (.int .u8 0) 1 Try.underlying27 Try.infoU8 rfl rfl rfl HR1.out.ownB (one_src0 Try.underlying27 _ _ _ _ (by simp) rfl) (by simp [u8s, maxLen]) (by simp [u8s]) HR1.out.top ?_))
  intro v1 w1 ho1 hg1 _ _
  have HR2 : Hid (Rf w w1 w.heap.size w.heap.size (w.heap.size + 1) (.slice none 0 0) (.slice none 0 0) v1 (.slice none 0 0) [0] []) := HR1.out.appB (ys := [0]) hg1 ho1
  obtain ⟨⟨a1, c1, e1, hc1⟩, -⟩ := HR2.out.shapes
  have e1' : v1 = .slice a1 1 c1 := e1
  clear e1
  subst e1'
  have HR3 : Hid (Rf w (w1.setCell ⟨w.heap.size + 1, 0, none⟩ (.slice a1 1 c1)) w.heap.size w.heap.size (w.heap.size + 1) (.slice a1 1 c1) (.slice none 0 0) (.slice a1 1 c1) (.slice none 0 0) [0] []) := HR2.out.setB
  obtain ⟨d0, d1, d2, d3, d4⟩ := HR2.out.cells
  obtain ⟨e0, e1, e2, e3, e4⟩ := HR3.out.cells
  obtain ⟨f0, f1, f2, f3, f4, f5⟩ := HR3.out.rcells
  have HF : Hid (∀ W, W = (((w1.setCell ⟨w.heap.size + 1, 0, none⟩ (.slice a1 1 c1)).setCell ⟨w.heap.size, 0, none⟩ (.slice a1 1 c1)).setCell ⟨w.heap.size, 1, none⟩ (.slice none 0 0)).setCell ⟨w.heap.size, 2, none⟩ (.int .i64 0) → Below w.heap.size w W ∧ Bs W (.slice a1 1 c1) [0] ∧ Is W (.slice none 0 0) [] ∧ W.cell? ⟨w.heap.size, 0, none⟩ = some (.slice a1 1 c1) ∧ W.cell? ⟨w.heap.size, 1, none⟩ = some (.slice none 0 0) ∧ W.cell? ⟨w.heap.size, 2, none⟩ = some (.int .i64 0)) := fun W hW => HR3.out.finish _ _ _ W hW
  clear ho1 hg1
  go_wp2_with fail
  refine wp_loop_rounds 1 ?_; rw [rounds_succ]
  go_wp2_with fail
  obtain ⟨q1, q2, q3, q4, q5, q6⟩ := HF.out _ rfl
  exact bodyPost_ret (v := .agg #[.slice a1 1 c1, .slice none 0 0, .int .i64 0]) (by simp [results, Try.results12, go_sem, q4, q5, q6]) rfl ⟨_, _, rfl, q2, q3, q1⟩

theorem refNames_yes {v : Value} {ss : List ByteArray} {w : World} (h : Ss w v ss) (hn : ss.length ≤ 60) (hall : (tls ss).all fineB = true) :
    Calls Try.prog 12 #[v] w fun e w' => ∃ bv av, e = .returned (.agg #[bv, av, .int .i64 0]) ∧ Bs w' bv (pall encN (tls ss)).B ∧ Is w' av (ints (pall encN (tls ss)).ats) ∧ Below w.heap.size w w' := by
  obtain ⟨a, cap, rfl, h1, h2, h3⟩ := h
  rw [strs_length]
  by_cases h0 : ss = []
  · subst h0
    exact refNames_none a cap w
  · obtain ⟨b, off, rfl, hb, hc⟩ := h3 (by simpa [strs] using h0)
    exact refNames_ok b off cap ss w hb hn (fun i h => by rw [hc i (by rw [strs_length]; exact h)]; simp [strs]) hall

theorem refNames_no {v : Value} {ss : List ByteArray} {w : World} (h : Ss w v ss) (hn : ss.length ≤ 60) (hz : ∀ s ∈ ss, s.size ≤ 300) (hall : (tls ss).all fineB = false) :
    Calls Try.prog 12 #[v] w fun e w' => e = .returned (.agg #[.slice none 0 0, .slice none 0 0, .int .i64 18]) ∧ Below w.heap.size w w' := by
  obtain ⟨a, cap, rfl, h1, h2, h3⟩ := h
  rw [strs_length]
  by_cases h0 : ss = []
  · subst h0; simp [tls] at hall
  · obtain ⟨b, off, rfl, hb, hc⟩ := h3 (by simpa [strs] using h0)
    exact refNames_bad b off cap ss w hb hn (fun i h => hz _ (List.getElem_mem _)) (fun i h => by rw [hc i (by rw [strs_length]; exact h)]; simp [strs]) hall

theorem long_no {ss : List ByteArray} (h : longB (tls ss) = false) : ss.length ≤ 60 ∧ ∀ s ∈ ss, s.size ≤ 300 := by
  simp only [longB, Bool.or_eq_false_iff, decide_eq_false_iff_not, tls_length] at h
  refine ⟨by omega, fun s hs => ?_⟩
  have := List.any_eq_false.1 h.2 s.data.toList (by simp only [tls, List.mem_map]; exact ⟨s, hs, rfl⟩)
  simp only [decide_eq_true_eq, toList_len] at this
  omega

set_option maxHeartbeats 1000000 in
theorem poolNames_long (v : Value) (ss : List ByteArray) (w : World) (hv : Ss w v ss) (hz : ss.length ≤ 8796093021952) (hm : ∀ s ∈ ss, s.size ≤ maxLen) (hl : longB (tls ss) = true) :
    Calls Try.prog 3 #[v] w fun e w' => e = .returned (.bool true) ∧ Below w.heap.size w w' := by
  have HV : Hid (Ss w v ss) := hv
  obtain ⟨a, cap, ev, -⟩ := hv
  rw [strs_length] at ev
  subst ev
  have HM : Hid (∀ s ∈ ss, s.size ≤ maxLen) := hm
  clear hm
  go_enter Try.func3, Try.ntmps3
  go_wp2_with fail
  refine (wakes2_any _).mono ?_
  rintro e w1 ⟨rfl, hb1⟩
  have HB1 : Hid (Below w.heap.size w w1) := hb1
  have hs1 := hb1.size
  clear hb1
  go_wp2_with fail
  refine (texts_any (HV.out.later HB1.out) hz HM.out).mono ?_
  rintro e w2 ⟨v2, rfl, hb2, hl2⟩
  have HB2 : Hid (Below w.heap.size w w2) := HB1.out.trans (hl2.mono hs1)
  have HBS : Hid (Bss w2 v2 (tls ss)) := hb2
  clear hb2 hl2
  go_wp2_with fail
  refine (long_any HBS.out).mono ?_
  rintro e wz ⟨rfl, hzz⟩
  subst wz
  rw [hl]
  go_wp2_with fail
  go_ret
  exact ⟨rfl, HB2.out⟩

set_option maxHeartbeats 1000000 in
theorem poolNames_short (v : Value) (ss : List ByteArray) (w : World) (hv : Ss w v ss) (hz : ss.length ≤ 8796093021952) (hm : ∀ s ∈ ss, s.size ≤ maxLen) (hl : longB (tls ss) = false) :
    Calls Try.prog 3 #[v] w fun e w' => e = .returned (.bool true) ∧ Below w.heap.size w w' := by
  have HV : Hid (Ss w v ss) := hv
  obtain ⟨a, cap, ev, -⟩ := hv
  rw [strs_length] at ev
  subst ev
  have HM : Hid (∀ s ∈ ss, s.size ≤ maxLen) := hm
  obtain ⟨hn60, hs300⟩ := long_no hl
  have HZ : Hid (∀ s ∈ ss, s.size ≤ 300) := hs300
  clear hm hs300
  cases hall : (tls ss).all fineB with
  | true =>
    go_enter Try.func3, Try.ntmps3
    go_wp2_with fail
    refine (wakes2_any _).mono ?_
    rintro e w1 ⟨rfl, hb1⟩
    have HB1 : Hid (Below w.heap.size w w1) := hb1
    have hs1 := hb1.size
    clear hb1
    go_wp2_with fail
    refine (texts_any (HV.out.later HB1.out) hz HM.out).mono ?_
    rintro e w2 ⟨v2, rfl, hb2, hl2⟩
    have HB2 : Hid (Below w.heap.size w w2) := HB1.out.trans (hl2.mono hs1)
    have HBS : Hid (Bss w2 v2 (tls ss)) := hb2
    have hs2 := HB2.out.size
    clear hb2 hl2
    go_wp2_with fail
    refine (long_any HBS.out).mono ?_
    rintro e wz ⟨rfl, hzz⟩
    subst wz
    rw [hl]
    have HSR : Hid (Ss (w2.alloc (Obj.cells #[] 9)) (.slice a ss.length cap) ss) := HV.out.later (HB2.out.alloc hs2 _)
    have HSL : Hid ((strs ss).length = ss.length) := strs_length ss
    go_wp2_with (at_builtin; go_must (refine wpList_append_at rfl _ _ _ _ rfl w2.heap.size 9 (.string .empty) 16 Try.underlying22 Try.infoStr rfl rfl rfl (OwnV.lit w2 _ _ [] _ _ (Nat.le_refl _) rfl rfl (by simp [maxLen])) (HSR.out.src Try.underlying22 (strs_one ss)) (by rw [HSL.out]; simp [maxLen]; omega) (by rw [HSL.out]; simp; omega) (by simp) ?_))
    intro v4 w4 ho4 hg4 _ _
    have HV4 : Hid (Ss w4 v4 ss) := by show Sl _ _ _; have := ho4.sl; simpa using this
    have HB4 : Hid (Below w.heap.size w w4) := (HB2.out.alloc hs2 _).trans ⟨hg4.os, hg4.tape, hg4.output, hg4.size, fun k hk => hg4.block k (by simp; omega) (by simp [Value.ownBlock, Act.eval]; omega)⟩
    have hs4 := HB4.out.size
    clear ho4 hg4
    go_wp2_with fail
    refine (names_yes HV4.out hz hall (names_fit ss hall hn60)).mono ?_
    rintro e w5 ⟨bv, av, rfl, hb5, hi5, hl5⟩
    have HB5 : Hid (Below w.heap.size w w5) := HB4.out.trans (hl5.mono hs4)
    have HBV5 : Hid (Bs w5 bv (pall encN (tls ss)).B) := hb5
    have HAV5 : Hid (Is w5 av (ints (pall encN (tls ss)).ats)) := hi5
    have hs5 := HB5.out.size
    clear hb5 hi5 hl5
    go_wp2_with fail
    refine (refNames_yes (HV.out.later HB5.out) hn60 hall).mono ?_
    rintro e w6 ⟨bv6, av6, rfl, hb6, hi6, hl6⟩
    have HB6 : Hid (Below w.heap.size w w6) := HB5.out.trans (hl6.mono hs5)
    have HBV6 : Hid (Bs w6 bv6 (pall encN (tls ss)).B) := hb6
    have HAV6 : Hid (Is w6 av6 (ints (pall encN (tls ss)).ats)) := hi6
    have HBV7 : Hid (Bs w6 bv (pall encN (tls ss)).B) := HBV5.out.later hl6
    have HAV7 : Hid (Is w6 av (ints (pall encN (tls ss)).ats)) := HAV5.out.later hl6
    have hs6 := HB6.out.size
    clear hl6
    obtain ⟨x1, x2, rfl, -⟩ := hb6
    obtain ⟨x3, x4, rfl, -⟩ := hi6
    generalize (pall encN (tls ss)).B = qB at *
    generalize ints (pall encN (tls ss)).ats = qA at *
    generalize (i64s qA).length = nA at *
    go_wp2_with fail
    refine (same_any (HBV7.out.later ((Below.refl _ _).alloc (Nat.le_refl _) _)) (HBV6.out.later ((Below.refl _ _).alloc (Nat.le_refl _) _))).mono ?_
    rintro e w8 ⟨rfl, n8, rfl⟩
    have ht : decide (qB = qB) = true := by simp
    rw [ht]
    go_wp2_with fail
    refine (sameI_any ((HAV7.out.later ((Below.refl _ _).alloc (Nat.le_refl _) _)).drewN n8) ((HAV6.out.later ((Below.refl _ _).alloc (Nat.le_refl _) _)).drewN n8)).mono ?_
    rintro e w9 ⟨rfl, n9, rfl⟩
    have ht : decide (qA = qA) = true := by simp
    rw [ht]
    go_wp2_with fail
    go_ret
    exact ⟨rfl, Below.drewN (HB6.out.alloc hs6 _) _⟩
  | false =>
    go_enter Try.func3, Try.ntmps3
    go_wp2_with fail
    refine (wakes2_any _).mono ?_
    rintro e w1 ⟨rfl, hb1⟩
    have HB1 : Hid (Below w.heap.size w w1) := hb1
    have hs1 := hb1.size
    clear hb1
    go_wp2_with fail
    refine (texts_any (HV.out.later HB1.out) hz HM.out).mono ?_
    rintro e w2 ⟨v2, rfl, hb2, hl2⟩
    have HB2 : Hid (Below w.heap.size w w2) := HB1.out.trans (hl2.mono hs1)
    have HBS : Hid (Bss w2 v2 (tls ss)) := hb2
    have hs2 := HB2.out.size
    clear hb2 hl2
    go_wp2_with fail
    refine (long_any HBS.out).mono ?_
    rintro e wz ⟨rfl, hzz⟩
    subst wz
    rw [hl]
    have HSR : Hid (Ss (w2.alloc (Obj.cells #[] 9)) (.slice a ss.length cap) ss) := HV.out.later (HB2.out.alloc hs2 _)
    have HSL : Hid ((strs ss).length = ss.length) := strs_length ss
    go_wp2_with (at_builtin; go_must (refine wpList_append_at rfl _ _ _ _ rfl w2.heap.size 9 (.string .empty) 16 Try.underlying22 Try.infoStr rfl rfl rfl (OwnV.lit w2 _ _ [] _ _ (Nat.le_refl _) rfl rfl (by simp [maxLen])) (HSR.out.src Try.underlying22 (strs_one ss)) (by rw [HSL.out]; simp [maxLen]; omega) (by rw [HSL.out]; simp; omega) (by simp) ?_))
    intro v4 w4 ho4 hg4 _ _
    have HV4 : Hid (Ss w4 v4 ss) := by show Sl _ _ _; have := ho4.sl; simpa using this
    have HB4 : Hid (Below w.heap.size w w4) := (HB2.out.alloc hs2 _).trans ⟨hg4.os, hg4.tape, hg4.output, hg4.size, fun k hk => hg4.block k (by simp; omega) (by simp [Value.ownBlock, Act.eval]; omega)⟩
    have hs4 := HB4.out.size
    clear ho4 hg4
    go_wp2_with fail
    refine (names_no HV4.out hz hall).mono ?_
    rintro e wz ⟨rfl, hzz⟩
    subst wz
    go_wp2_with fail
    refine (refNames_no (HV.out.later HB4.out) hn60 HZ.out hall).mono ?_
    rintro e w6 ⟨rfl, hl6⟩
    have HB6 : Hid (Below w.heap.size w w6) := HB4.out.trans (hl6.mono hs4)
    have hs6 := HB6.out.size
    clear hl6
    go_wp2_with fail
    refine (same_any (Bs.nil _) (Bs.nil _)).mono ?_
    rintro e w8 ⟨rfl, n8, rfl⟩
    have ht : decide (([] : List UInt8) = []) = true := by simp
    rw [ht]
    go_wp2_with fail
    refine (sameI_any (xs := []) (ys := []) (Sl.nil _) (Sl.nil _)).mono ?_
    rintro e w9 ⟨rfl, n9, rfl⟩
    have ht : decide (([] : List Int) = []) = true := by simp
    rw [ht]
    go_wp2_with fail
    go_ret
    exact ⟨rfl, Below.drewN (HB6.out.alloc hs6 _) _⟩

theorem poolNames_walk (v : Value) (ss : List ByteArray) (w : World) (hv : Ss w v ss) (hz : ss.length ≤ 8796093021952) (hm : ∀ s ∈ ss, s.size ≤ maxLen) :
    Calls Try.prog 3 #[v] w fun e w' => e = .returned (.bool true) ∧ Below w.heap.size w w' := by
  cases hl : longB (tls ss) with
  | true => exact poolNames_long v ss w hv hz hm hl
  | false => exact poolNames_short v ss w hv hz hm hl

end Go.Proofs.Ytlcfbnbbdpgjiaa
