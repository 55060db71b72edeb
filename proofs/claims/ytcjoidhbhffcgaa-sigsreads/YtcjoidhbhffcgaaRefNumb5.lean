
/- number of the references. -/
import Derived.Test.YtcjoidhbhffcgaaAt5
namespace Go.Proofs.Ytcjoidhbhffcgaa
set_option linter.unusedVariables false
set_option linter.unusedSimpArgs false
open Go.RowKit

set_option maxHeartbeats 1000000 in
set_option maxRecDepth 100000 in
theorem number_any {v : Value} {bs : List UInt8} {w : World} (hv : Bs w v bs) (a c j : Nat) (ha : a ≤ bs.length) (hl : bs.length ≤ 281474976710656) (hc : c = 17 ∨ c = 18 ∨ c = 19) (r : Bool) :
    Calls Try.prog 58 #[v, .int .i64 (a : Int), .agg #[.int .i64 0, .int .i64 0, .int .i64 (j : Int), .bool r], .int .i64 (c : Int)] w fun e w' => e = .returned (gotv (numR bs r j c a)) ∧ Below w.heap.size w w' := by
  have hb0 : Below w.heap.size w ((w.alloc (.cells #[.int .i64 0, .int .i64 0, .int .i64 (j : Int), .bool r] 23)).alloc (.cells #[.int .i64 0, .int .i64 0, .int .i64 0, .bool false, .int .i64 0, .int .i64 0] 68)) :=
    ((Below.refl _ _).alloc (Nat.le_refl _) _).alloc (by simp) _
  have HC : Hid (Calls Try.prog 43 #[v, .int .i64 (a : Int)] ((w.alloc (.cells #[.int .i64 0, .int .i64 0, .int .i64 (j : Int), .bool r] 23)).alloc (.cells #[.int .i64 0, .int .i64 0, .int .i64 0, .bool false, .int .i64 0, .int .i64 0] 68)) fun e w' =>
      e = .returned (.agg #[.int .i64 ((unp bs a).1 : Int), .int .i64 ((unp bs a).2.1 : Int), .int .i64 ((unp bs a).2.2 : Int)]) ∧ Below w.heap.size w w' ∧ At w' w.heap.size #[.int .i64 0, .int .i64 0, .int .i64 (j : Int), .bool r] 23 ∧ At w' (w.heap.size + 1) #[.int .i64 0, .int .i64 0, .int .i64 0, .bool false, .int .i64 0, .int .i64 0] 68) := by
    refine (unpack_any (hv.later hb0) a ha).mono ?_
    rintro e w' ⟨rfl, k⟩
    refine ⟨rfl, hb0.trans (k.mono (by simp; omega)), ((At.made w _ _).next _).later k, ?_⟩
    have := (At.made (w.alloc (.cells #[.int .i64 0, .int .i64 0, .int .i64 (j : Int), .bool r] 23)) #[.int .i64 0, .int .i64 0, .int .i64 0, .bool false, .int .i64 0, .int .i64 0] 68).later k
    simpa using this
  clear hv hb0
  have hnum : ∀ u : Nat × Nat × Nat, unp bs a = u → Hid (numR bs r j c a = if u.2.2 ≠ 0 then badR u.2.2 else if c = 19 then (if 7 < u.1 then badR 5 else ((7, (u.1 : Int), (j : Int), r), a + u.2.1, 0))
      else if codedE (u.1 : Int) ≠ 0 ∨ codedT (u.1 : Int) ≠ 0 ∨ 32 < codedR (u.1 : Int) then badR 5 else ((if c = 17 then 6 else 5, codedR (u.1 : Int) - 1, (j : Int), r), a + u.2.1, 0)) := by
    rintro u rfl; rfl
  have hok : (unp bs a).2.2 = 0 → a + (unp bs a).2.1 ≤ bs.length := fun h => (unp_ok bs a h).1
  obtain ⟨u, hu⟩ : ∃ u, unp bs a = u := ⟨_, rfl⟩
  have HN := hnum u hu
  rw [hu] at HC hok
  clear hnum hu
  obtain ⟨n, ln, er⟩ := u
  simp only at HN hok HC
  go_enter Try.func58, Try.ntmps58
  go_wp2_with fail
  refine Calls.mono HC.out ?_
  rintro e w1 ⟨rfl, k1, k2, k3⟩
  have HL : Hid (w.heap.size + 1 < w1.heap.size) := k3.lt
  by_cases he : er = 0
  · subst he
    have hP := At.made w1 #[.int .i64 (n : Int), .int .i64 (ln : Int), .int .i64 0] 74
    have hT := k2.next (.cells #[.int .i64 (n : Int), .int .i64 (ln : Int), .int .i64 0] 74)
    have hG := k3.next (.cells #[.int .i64 (n : Int), .int .i64 (ln : Int), .int .i64 0] 74)
    have hB := k1.alloc k1.size (.cells #[.int .i64 (n : Int), .int .i64 (ln : Int), .int .i64 0] 74)
    clear k1 k2 k3 HC
    have pc := hP.cell
    have tc := hT.cell
    have gc := hG.cell
    have gm := hG.melt
    have tm := hT.melt
    have hle := hok rfl
    by_cases h19 : c = 19
    · subst h19
      have hT1 : At ((w1.alloc (.cells #[.int .i64 (n : Int), .int .i64 (ln : Int), .int .i64 0] 74)).setCell ⟨w.heap.size, 0, none⟩ (.int .i64 7)) w.heap.size #[.int .i64 7, .int .i64 0, .int .i64 (j : Int), .bool r] 23 := by simpa using hT.set 0 (.int .i64 7)
      have hP1 := hP.other (o := 0) (show w1.heap.size ≠ w.heap.size by have := HL.out; omega) (.int .i64 7)
      have hG1 := hG.other (o := 0) (show w.heap.size + 1 ≠ w.heap.size by omega) (.int .i64 7)
      have hB1 := hB.setCell (p := ⟨w.heap.size, 0, none⟩) (Nat.le_refl _) (.int .i64 7)
      have hT2 := hT1.set 1 (.int .i64 (n : Int))
      have hP2 := hP1.other (o := 1) (show w1.heap.size ≠ w.heap.size by have := HL.out; omega) (.int .i64 (n : Int))
      have hG2 := hG1.other (o := 1) (show w.heap.size + 1 ≠ w.heap.size by omega) (.int .i64 (n : Int))
      have hB2 := hB1.setCell (p := ⟨w.heap.size, 1, none⟩) (Nat.le_refl _) (.int .i64 (n : Int))
      have pc1 := hP1.cell
      have pc2 := hP2.cell
      have tc1 := hT1.cell
      have tc2 := hT2.cell
      have tm1 := hT1.melt
      have gc2 := hG2.cell
      have gm2 := hG2.melt
      clear hT hP hG hB hT1 hP1 hG1 hB1 hP2 hT2
      by_cases h7 : 7 < n
      · have HG : Hid (numR bs r j 19 a = badR 5) := by show _ = _; rw [HN.out, if_neg (by simp), if_pos rfl, if_pos h7]
        have HF := (hG2.set6 (.int .i64 0) (.int .i64 0) (.int .i64 0) (.bool false) (.int .i64 0) (.int .i64 5)).cell
        have HB := below_set6 hB2 (show w.heap.size ≤ w.heap.size + 1 by omega) (.int .i64 0) (.int .i64 0) (.int .i64 0) (.bool false) (.int .i64 0) (.int .i64 5)
        clear hok HN
        go_wp2
        exact bodyPost_ret (v := .agg #[.int .i64 0, .int .i64 0, .int .i64 0, .bool false, .int .i64 0, .int .i64 5]) (by simp [results, Try.results58, go_sem, HF]) rfl (by rw [HG.out]; exact ⟨rfl, HB⟩)
      · have HG : Hid (numR bs r j 19 a = ((7, (n : Int), (j : Int), r), a + ln, 0)) := by show _ = _; rw [HN.out, if_neg (by simp), if_pos rfl, if_neg h7]
        have HF := (hG2.set6 (.int .i64 7) (.int .i64 (n : Int)) (.int .i64 (j : Int)) (.bool r) (.int .i64 ((a : Int) + (ln : Int))) (.int .i64 0)).cell
        have HB := below_set6 hB2 (show w.heap.size ≤ w.heap.size + 1 by omega) (.int .i64 7) (.int .i64 (n : Int)) (.int .i64 (j : Int)) (.bool r) (.int .i64 ((a : Int) + (ln : Int))) (.int .i64 0)
        clear hok HN
        go_wp2
        exact bodyPost_ret (v := .agg #[.int .i64 7, .int .i64 (n : Int), .int .i64 (j : Int), .bool r, .int .i64 ((a : Int) + (ln : Int)), .int .i64 0]) (by simp [results, Try.results58, go_sem, HF]) rfl (by rw [HG.out]; exact ⟨rfl, HB⟩)
    · have h19' : ((c : Int) == 19) = false := by rw [beq_eq_false_iff_ne]; omega
      have q4 : 0 ≤ codedR (n : Int) := by unfold codedR; repeat' split; all_goals omega
      have HCo : Hid (∀ w, Calls Try.prog 67 #[.int .i64 (n : Int)] w fun e w' => e = .returned (.agg #[.int .i64 (codedT (n : Int)), .int .i64 (codedR (n : Int)), .int .i64 (codedE (n : Int))]) ∧ Below w.heap.size w w') := fun w => refCoded_any (n : Int) w
      have HN2 : Hid (numR bs r j c a = if codedE (n : Int) ≠ 0 ∨ codedT (n : Int) ≠ 0 ∨ 32 < codedR (n : Int) then badR 5 else ((if c = 17 then 6 else 5, codedR (n : Int) - 1, (j : Int), r), a + ln, 0)) := by show _ = _; rw [HN.out, if_neg (by simp), if_neg h19]
      clear HN hok
      generalize codedE (n : Int) = cE at *
      generalize codedT (n : Int) = cT at *
      generalize codedR (n : Int) = cR at *
      by_cases hh : cE ≠ 0 ∨ cT ≠ 0 ∨ 32 < cR
      · have HG : Hid (numR bs r j c a = badR 5) := by show _ = _; rw [HN2.out, if_pos hh]
        have hcs : (cE != 0) = true ∨ (cE = 0 ∧ (cT != 0) = true) ∨ (cE = 0 ∧ cT = 0 ∧ 32 < cR) := by
          rw [bne_iff_ne, bne_iff_ne]; omega
        clear hh HN2
        rcases hcs with g1 | ⟨rfl, g1⟩ | ⟨rfl, rfl, g1⟩
        · go_wp2_with fail
          refine (HCo.out _).mono ?_
          rintro e w3 ⟨rfl, hb3⟩
          have HL3 : Hid (w.heap.size + 1 < w3.heap.size) := by show _ < _; have h1 := hb3.size; have h2 := HL.out; simp at h1; omega
          have HX := At.made w3 #[.int .i64 cT, .int .i64 cR, .int .i64 cE] 104
          have hG3 := (hG.later hb3).next (.cells #[.int .i64 cT, .int .i64 cR, .int .i64 cE] 104)
          have hB3 := (hB.trans (hb3.mono hB.size)).alloc (by have := HL3.out; omega) (.cells #[.int .i64 cT, .int .i64 cR, .int .i64 cE] 104)
          clear hT hP hG hB pc tc gc gm tm hb3
          have xc := HX.cell
          have gc3 := hG3.cell
          have gm3 := hG3.melt
          have HF := (hG3.set6 (.int .i64 0) (.int .i64 0) (.int .i64 0) (.bool false) (.int .i64 0) (.int .i64 5)).cell
          have HB := below_set6 hB3 (show w.heap.size ≤ w.heap.size + 1 by omega) (.int .i64 0) (.int .i64 0) (.int .i64 0) (.bool false) (.int .i64 0) (.int .i64 5)
          clear HX hG3 hB3
          go_wp2
          exact bodyPost_ret (v := .agg #[.int .i64 0, .int .i64 0, .int .i64 0, .bool false, .int .i64 0, .int .i64 5]) (by simp [results, Try.results58, go_sem, HF]) rfl (by rw [HG.out]; exact ⟨rfl, HB⟩)
        · go_wp2_with fail
          refine (HCo.out _).mono ?_
          rintro e w3 ⟨rfl, hb3⟩
          have HL3 : Hid (w.heap.size + 1 < w3.heap.size) := by show _ < _; have h1 := hb3.size; have h2 := HL.out; simp at h1; omega
          have HX := At.made w3 #[.int .i64 cT, .int .i64 cR, .int .i64 0] 104
          have hG3 := (hG.later hb3).next (.cells #[.int .i64 cT, .int .i64 cR, .int .i64 0] 104)
          have hB3 := (hB.trans (hb3.mono hB.size)).alloc (by have := HL3.out; omega) (.cells #[.int .i64 cT, .int .i64 cR, .int .i64 0] 104)
          clear hT hP hG hB pc tc gc gm tm hb3
          have xc := HX.cell
          have gc3 := hG3.cell
          have gm3 := hG3.melt
          have HF := (hG3.set6 (.int .i64 0) (.int .i64 0) (.int .i64 0) (.bool false) (.int .i64 0) (.int .i64 5)).cell
          have HB := below_set6 hB3 (show w.heap.size ≤ w.heap.size + 1 by omega) (.int .i64 0) (.int .i64 0) (.int .i64 0) (.bool false) (.int .i64 0) (.int .i64 5)
          clear HX hG3 hB3
          go_wp2
          exact bodyPost_ret (v := .agg #[.int .i64 0, .int .i64 0, .int .i64 0, .bool false, .int .i64 0, .int .i64 5]) (by simp [results, Try.results58, go_sem, HF]) rfl (by rw [HG.out]; exact ⟨rfl, HB⟩)
        · go_wp2_with fail
          refine (HCo.out _).mono ?_
          rintro e w3 ⟨rfl, hb3⟩
          have HL3 : Hid (w.heap.size + 1 < w3.heap.size) := by show _ < _; have h1 := hb3.size; have h2 := HL.out; simp at h1; omega
          have HX := At.made w3 #[.int .i64 0, .int .i64 cR, .int .i64 0] 104
          have hG3 := (hG.later hb3).next (.cells #[.int .i64 0, .int .i64 cR, .int .i64 0] 104)
          have hB3 := (hB.trans (hb3.mono hB.size)).alloc (by have := HL3.out; omega) (.cells #[.int .i64 0, .int .i64 cR, .int .i64 0] 104)
          clear hT hP hG hB pc tc gc gm tm hb3
          have xc := HX.cell
          have gc3 := hG3.cell
          have gm3 := hG3.melt
          have HF := (hG3.set6 (.int .i64 0) (.int .i64 0) (.int .i64 0) (.bool false) (.int .i64 0) (.int .i64 5)).cell
          have HB := below_set6 hB3 (show w.heap.size ≤ w.heap.size + 1 by omega) (.int .i64 0) (.int .i64 0) (.int .i64 0) (.bool false) (.int .i64 0) (.int .i64 5)
          clear HX hG3 hB3
          go_wp2
          exact bodyPost_ret (v := .agg #[.int .i64 0, .int .i64 0, .int .i64 0, .bool false, .int .i64 0, .int .i64 5]) (by simp [results, Try.results58, go_sem, HF]) rfl (by rw [HG.out]; exact ⟨rfl, HB⟩)
      · obtain ⟨rfl, rfl, q3⟩ : cE = 0 ∧ cT = 0 ∧ cR ≤ 32 := by omega
        have HN3 : Hid (numR bs r j c a = ((if c = 17 then 6 else 5, cR - 1, (j : Int), r), a + ln, 0)) := by show _ = _; rw [HN2.out, if_neg hh]
        clear HN2 hh
        go_wp2_with fail
        refine (HCo.out _).mono ?_
        rintro e w3 ⟨rfl, hb3⟩
        have HL3 : Hid (w.heap.size + 1 < w3.heap.size) := by show _ < _; have h1 := hb3.size; have h2 := HL.out; simp at h1; omega
        have HX := At.made w3 #[.int .i64 0, .int .i64 cR, .int .i64 0] 104
        have hT3 := (hT.later hb3).next (.cells #[.int .i64 0, .int .i64 cR, .int .i64 0] 104)
        have hG3 := (hG.later hb3).next (.cells #[.int .i64 0, .int .i64 cR, .int .i64 0] 104)
        have hB3 := (hB.trans (hb3.mono hB.size)).alloc (by have := HL3.out; omega) (.cells #[.int .i64 0, .int .i64 cR, .int .i64 0] 104)
        clear hT hP hG hB pc tc gc gm tm hb3
        have xc := HX.cell
        have tc3 := hT3.cell
        have tm3 := hT3.melt
        have hT4 := hT3.set 0 (.int .i64 5)
        have hX4 := HX.other (o := 0) (show w3.heap.size ≠ w.heap.size by have := HL3.out; omega) (.int .i64 5)
        have hG4 := hG3.other (o := 0) (show w.heap.size + 1 ≠ w.heap.size by omega) (.int .i64 5)
        have hB4 := hB3.setCell (p := ⟨w.heap.size, 0, none⟩) (Nat.le_refl _) (.int .i64 5)
        by_cases h17 : c = 17
        · subst h17
          have hT5 := hT4.set 0 (.int .i64 6)
          have hX5 := hX4.other (o := 0) (show w3.heap.size ≠ w.heap.size by have := HL3.out; omega) (.int .i64 6)
          have hG5 := hG4.other (o := 0) (show w.heap.size + 1 ≠ w.heap.size by omega) (.int .i64 6)
          have hB5 := hB4.setCell (p := ⟨w.heap.size, 0, none⟩) (Nat.le_refl _) (.int .i64 6)
          have hT6 := hT5.set 1 (.int .i64 (cR - 1))
          have hG6 := hG5.other (o := 1) (show w.heap.size + 1 ≠ w.heap.size by omega) (.int .i64 (cR - 1))
          have hB6 := hB5.setCell (p := ⟨w.heap.size, 1, none⟩) (Nat.le_refl _) (.int .i64 (cR - 1))
          have tc4 := hT4.cell
          have tm4 := hT4.melt
          have tc5 := hT5.cell
          have tm5 := hT5.melt
          have xc5 := hX5.cell
          have tc6 := hT6.cell
          have gc6 := hG6.cell
          have gm6 := hG6.melt
          have HF := (hG6.set6 (.int .i64 6) (.int .i64 (cR - 1)) (.int .i64 (j : Int)) (.bool r) (.int .i64 ((a : Int) + (ln : Int))) (.int .i64 0)).cell
          have HB := below_set6 hB6 (show w.heap.size ≤ w.heap.size + 1 by omega) (.int .i64 6) (.int .i64 (cR - 1)) (.int .i64 (j : Int)) (.bool r) (.int .i64 ((a : Int) + (ln : Int))) (.int .i64 0)
          clear hT3 HX hG3 hB3 hT4 hX4 hG4 hB4 hT5 hX5 hG5 hB5 hT6 hG6 hB6
          go_wp2
          exact bodyPost_ret (v := .agg #[.int .i64 6, .int .i64 (cR - 1), .int .i64 (j : Int), .bool r, .int .i64 ((a : Int) + (ln : Int)), .int .i64 0]) (by simp [results, Try.results58, go_sem, HF]) rfl (by rw [HN3.out]; exact ⟨rfl, HB⟩)
        · have h17' : ((c : Int) == 17) = false := by rw [beq_eq_false_iff_ne]; omega
          have HN4 : Hid (numR bs r j c a = ((5, cR - 1, (j : Int), r), a + ln, 0)) := by show _ = _; rw [HN3.out, if_neg h17]
          have hT6 := hT4.set 1 (.int .i64 (cR - 1))
          have hG6 := hG4.other (o := 1) (show w.heap.size + 1 ≠ w.heap.size by omega) (.int .i64 (cR - 1))
          have hB6 := hB4.setCell (p := ⟨w.heap.size, 1, none⟩) (Nat.le_refl _) (.int .i64 (cR - 1))
          have tc4 := hT4.cell
          have tm4 := hT4.melt
          have xc4 := hX4.cell
          have tc6 := hT6.cell
          have gc6 := hG6.cell
          have gm6 := hG6.melt
          have HF := (hG6.set6 (.int .i64 5) (.int .i64 (cR - 1)) (.int .i64 (j : Int)) (.bool r) (.int .i64 ((a : Int) + (ln : Int))) (.int .i64 0)).cell
          have HB := below_set6 hB6 (show w.heap.size ≤ w.heap.size + 1 by omega) (.int .i64 5) (.int .i64 (cR - 1)) (.int .i64 (j : Int)) (.bool r) (.int .i64 ((a : Int) + (ln : Int))) (.int .i64 0)
          clear hT3 HX hG3 hB3 hT4 hX4 hG4 hB4 hT6 hG6 hB6
          go_wp2
          exact bodyPost_ret (v := .agg #[.int .i64 5, .int .i64 (cR - 1), .int .i64 (j : Int), .bool r, .int .i64 ((a : Int) + (ln : Int)), .int .i64 0]) (by simp [results, Try.results58, go_sem, HF]) rfl (by rw [HN4.out]; exact ⟨rfl, HB⟩)
  · have hP := At.made w1 #[.int .i64 (n : Int), .int .i64 (ln : Int), .int .i64 (er : Int)] 74
    have hT := k2.next (.cells #[.int .i64 (n : Int), .int .i64 (ln : Int), .int .i64 (er : Int)] 74)
    have hG := k3.next (.cells #[.int .i64 (n : Int), .int .i64 (ln : Int), .int .i64 (er : Int)] 74)
    have hB := k1.alloc k1.size (.cells #[.int .i64 (n : Int), .int .i64 (ln : Int), .int .i64 (er : Int)] 74)
    clear k1 k2 k3 HC
    have pc := hP.cell
    have tc := hT.cell
    have gc := hG.cell
    have gm := hG.melt
    have tm := hT.melt
    have HG : Hid (numR bs r j c a = badR er) := by show _ = _; rw [HN.out, if_pos he]
    have he2 : ((er : Int) != 0) = true := by rw [bne_iff_ne]; omega
    have HF := (hG.set6 (.int .i64 0) (.int .i64 0) (.int .i64 0) (.bool false) (.int .i64 0) (.int .i64 (er : Int))).cell
    have HB := below_set6 hB (show w.heap.size ≤ w.heap.size + 1 by omega) (.int .i64 0) (.int .i64 0) (.int .i64 0) (.bool false) (.int .i64 0) (.int .i64 (er : Int))
    clear he hok HN
    go_wp2
    exact bodyPost_ret (v := .agg #[.int .i64 0, .int .i64 0, .int .i64 0, .bool false, .int .i64 0, .int .i64 (er : Int)]) (by simp [results, Try.results58, go_sem, HF]) rfl (by rw [HG.out]; exact ⟨rfl, HB⟩)

end Go.Proofs.Ytcjoidhbhffcgaa
