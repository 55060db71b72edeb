
/- Get of the references: a type at a place. -/
import Derived.Test.YtcjoidhbhffcgaaRefNumb5
import Derived.Test.YtcjoidhbhffcgaaReadType5
namespace Go.Proofs.Ytcjoidhbhffcgaa
set_option linter.unusedVariables false
set_option linter.unusedSimpArgs false
open Go.RowKit

/-- What is still to be read. -/
def stR (bs : List UInt8) (r : Bool) (j a : Nat) : Ty × Nat × Nat := if r = false ∧ j = 0 then getT bs a else getD bs r (3 - j) a

theorem st_end (bs : List UInt8) (r : Bool) (j a : Nat) (h : ¬ a < bs.length) : stR bs r j a = badR 1 := by
  unfold stR
  split
  · unfold getT; rw [dif_neg h]
  · exact getD_end bs r _ a h
theorem st_ref (bs : List UInt8) (a : Nat) (h : a < bs.length) (h16 : bs[a].toNat = 16) : stR bs false 0 a = stR bs true 0 (a + 1) := by
  unfold stR
  rw [if_pos ⟨rfl, rfl⟩, if_neg (by simp)]
  unfold getT
  rw [dif_pos h, if_pos h16]
theorem st_get (bs : List UInt8) (r : Bool) (j a : Nat) (h : a < bs.length) (h16 : bs[a].toNat ≠ 16 ∨ r = true ∨ j ≠ 0) : stR bs r j a = getD bs r (3 - j) a := by
  unfold stR
  split
  · rename_i hh
    obtain ⟨rfl, rfl⟩ := hh
    have : bs[a].toNat ≠ 16 := by rcases h16 with h | h | h <;> simp_all
    unfold getT
    rw [dif_pos h, if_neg this]
  · rfl
theorem st_more (bs : List UInt8) (r : Bool) (j a : Nat) : stR bs r (j + 1) a = getD bs r (3 - (j + 1)) a := by
  unfold stR; rw [if_neg (by simp)]

set_option maxHeartbeats 4000000 in
set_option maxRecDepth 100000 in
theorem refGet_some {b off cap : Nat} {bs : List UInt8} {w : World} (hv : Bs w (.slice (some ⟨b, off, none⟩) bs.length cap) bs) (hcell : ∀ i (h : i < bs.length), w.cell? ⟨b, off + i, none⟩ = some (.int .u8 (bs[i].toNat : Int))) (hb : b < w.heap.size)
    (a : Nat) (ha : a ≤ bs.length) (hl : bs.length ≤ 281474976710656) :
    Calls Try.prog 37 #[.slice (some ⟨b, off, none⟩) bs.length cap, .int .i64 (a : Int)] w fun e w' => e = .returned (gotv (getT bs a)) ∧ Below w.heap.size w w' := by
  have hcap : bs.length ≤ cap ∧ cap ≤ maxLen := by
    obtain ⟨x, y, e, h1, h2, _⟩ := hv
    cases e
    exact ⟨h1, h2⟩
  have HC : Hid (∀ i (h : i < bs.length), w.cell? ⟨b, off + i, none⟩ = some (.int .u8 (bs[i].toNat : Int))) := hcell
  have HV : Hid (Bs w (.slice (some ⟨b, off, none⟩) bs.length cap) bs) := hv
  clear hcell hv
  have hb0 : Below w.heap.size w ((w.alloc (.cells #[.int .i64 0, .int .i64 0, .int .i64 0, .bool false, .int .i64 0, .int .i64 0] 68)).alloc (.cells #[.int .i64 0, .int .i64 0, .int .i64 0, .bool false] 23)) :=
    ((Below.refl _ _).alloc (Nat.le_refl _) _).alloc (by simp) _
  have hG0 := (At.made w #[.int .i64 0, .int .i64 0, .int .i64 0, .bool false, .int .i64 0, .int .i64 0] 68).next (.cells #[.int .i64 0, .int .i64 0, .int .i64 0, .bool false] 23)
  have hT0 : At ((w.alloc (.cells #[.int .i64 0, .int .i64 0, .int .i64 0, .bool false, .int .i64 0, .int .i64 0] 68)).alloc (.cells #[.int .i64 0, .int .i64 0, .int .i64 0, .bool false] 23)) (w.heap.size + 1) #[.int .i64 0, .int .i64 0, .int .i64 0, .bool false] 23 := by
    have := At.made (w.alloc (.cells #[.int .i64 0, .int .i64 0, .int .i64 0, .bool false, .int .i64 0, .int .i64 0] 68)) #[.int .i64 0, .int .i64 0, .int .i64 0, .bool false] 23
    simpa using this
  go_enter Try.func37, Try.ntmps37
  go_wp2
  go_loopw [1, 6] (fun x _ wr => ∃ (r : Bool) (j a' : Nat), j ≤ 3 ∧ a' ≤ bs.length ∧ x = .int .i64 (a' : Int) ∧ At wr w.heap.size #[.int .i64 0, .int .i64 0, .int .i64 0, .bool false, .int .i64 0, .int .i64 0] 68 ∧ At wr (w.heap.size + 1) #[.int .i64 0, .int .i64 0, .int .i64 (j : Int), .bool r] 23 ∧ Below w.heap.size w wr ∧ Hid (getT bs a = stR bs r j a')) (fun x _ _ => bs.length - (intOf x).toNat)
  case atStart => exact ⟨false, 0, a, by omega, ha, rfl, hG0, hT0, hb0, by show _ = _; simp [stR]⟩
  case round =>
    obtain ⟨r, j, a', hj, ha', rfl, hG, hT, hB, hS⟩ := hrel
    clear hG0 hT0 hb0
    have tc := hT.cell
    have tm := hT.melt
    have gc := hG.cell
    have gm := hG.melt
    by_cases hlt : a' < bs.length
    · have hcl : wr.cell? ⟨b, off + a', none⟩ = some (.int .u8 (bs[a'].toNat : Int)) := by
        rw [hB.cell (p := ⟨b, off + a', none⟩) hb]; exact HC.out a' hlt
      have hc := bs[a'].toNat_lt
      have HX : Hid (∀ c : Nat, bs[a'].toNat = c → (c = 16 → r = false → j = 0 → getT bs a = stR bs true 0 (a' + 1)) ∧ (c = 29 → j = 3 → getT bs a = badR 6) ∧ (c = 29 → j < 3 → getT bs a = stR bs r (j + 1) (a' + 1)) ∧ (c ≠ 29 → (c ≠ 16 ∨ r = true ∨ j ≠ 0) → getT bs a = tailR bs r j c (a' + 1))) := by
        rintro c rfl
        refine ⟨fun h1 h2 h3 => ?_, fun h1 h2 => ?_, fun h1 h2 => ?_, fun h1 h2 => ?_⟩
        · subst h2 h3; rw [hS.out]; exact st_ref bs a' hlt h1
        · subst h2; rw [hS.out, st_get bs r 3 a' hlt (by right; right; omega)]; exact getD_deep bs r a' hlt h1
        · rw [hS.out, st_get bs r j a' hlt (by left; omega), st_more]; exact getD_go bs r j a' h2 hlt h1
        · rw [hS.out, st_get bs r j a' hlt h2]; exact getD_tail bs r j a' hj hlt h1
      obtain ⟨c, hcc⟩ : ∃ c, bs[a'].toNat = c := ⟨_, rfl⟩
      have HY := HX.out c hcc
      rw [hcc] at hcl hc
      clear HX hcc hS
      obtain ⟨y1, y2, y3, y4⟩ := HY
      by_cases h16 : c = 16
      · subst h16
        cases r with
        | false =>
          by_cases hj0 : j = 0
          · subst hj0
            have HS : Hid (getT bs a = stR bs true 0 (a' + 1)) := y1 rfl rfl rfl
            have hG1 := hG.other (g' := w.heap.size + 1) (o := 3) (by omega) (.bool true)
            have hT1 := hT.set 3 (.bool true)
            have hB1 := hB.setCell (p := ⟨w.heap.size + 1, 3, none⟩) (show w.heap.size ≤ w.heap.size + 1 by omega) (.bool true)
            clear y1 y2 y3 y4 hG hT hB
            go_wp2
            go_roundw
            case rel => exact ⟨true, 0, a' + 1, by omega, by omega, by go_num, hG1, by simpa using hT1, hB1, HS⟩
            case measure => simp [intOf]; omega
          · have HS : Hid (getT bs a = badR 2) := by show _ = _; rw [y4 (by omega) (.inr (.inr hj0))]; simp [tailR]
            have hj0' : ((j : Int) == 0) = false := by rw [beq_eq_false_iff_ne]; omega
            have HF := (hG.set6 (.int .i64 0) (.int .i64 0) (.int .i64 0) (.bool false) (.int .i64 0) (.int .i64 2)).cell
            have HB := below_set6 hB (Nat.le_refl _) (.int .i64 0) (.int .i64 0) (.int .i64 0) (.bool false) (.int .i64 0) (.int .i64 2)
            clear y1 y2 y3 y4 hG hT hB
            go_wp2
            exact bodyPost_ret (v := .agg #[.int .i64 0, .int .i64 0, .int .i64 0, .bool false, .int .i64 0, .int .i64 2]) (by simp [results, Try.results37, go_sem, HF]) rfl (by rw [HS.out]; exact ⟨rfl, HB⟩)
        | true =>
          have HS : Hid (getT bs a = badR 2) := by show _ = _; rw [y4 (by omega) (.inr (.inl rfl))]; simp [tailR]
          have HF := (hG.set6 (.int .i64 0) (.int .i64 0) (.int .i64 0) (.bool false) (.int .i64 0) (.int .i64 2)).cell
          have HB := below_set6 hB (Nat.le_refl _) (.int .i64 0) (.int .i64 0) (.int .i64 0) (.bool false) (.int .i64 0) (.int .i64 2)
          clear y1 y2 y3 y4 hG hT hB
          go_wp2
          exact bodyPost_ret (v := .agg #[.int .i64 0, .int .i64 0, .int .i64 0, .bool false, .int .i64 0, .int .i64 2]) (by simp [results, Try.results37, go_sem, HF]) rfl (by rw [HS.out]; exact ⟨rfl, HB⟩)
      · have h16' : ((c : Int) == 16) = false := by rw [beq_eq_false_iff_ne]; omega
        by_cases h29 : c = 29
        · subst h29
          have hG1 := hG.other (g' := w.heap.size + 1) (o := 2) (by omega) (.int .i64 ((j : Int) + 1))
          have hT1 := hT.set 2 (.int .i64 ((j : Int) + 1))
          have hB1 := hB.setCell (p := ⟨w.heap.size + 1, 2, none⟩) (show w.heap.size ≤ w.heap.size + 1 by omega) (.int .i64 ((j : Int) + 1))
          have tc1 := hT1.cell
          have gc1 := hG1.cell
          have gm1 := hG1.melt
          by_cases hj3 : j = 3
          · have HS : Hid (getT bs a = badR 6) := y2 rfl hj3
            have hj4 : 3 < (j : Int) + 1 := by omega
            clear hj3
            have HF := (hG1.set6 (.int .i64 0) (.int .i64 0) (.int .i64 0) (.bool false) (.int .i64 0) (.int .i64 6)).cell
            have HB := below_set6 hB1 (Nat.le_refl _) (.int .i64 0) (.int .i64 0) (.int .i64 0) (.bool false) (.int .i64 0) (.int .i64 6)
            clear y1 y2 y3 y4 hG hT hB hG1 hT1 hB1
            go_wp2
            exact bodyPost_ret (v := .agg #[.int .i64 0, .int .i64 0, .int .i64 0, .bool false, .int .i64 0, .int .i64 6]) (by simp [results, Try.results37, go_sem, HF]) rfl (by rw [HS.out]; exact ⟨rfl, HB⟩)
          · have HS : Hid (getT bs a = stR bs r (j + 1) (a' + 1)) := y3 rfl (by omega)
            clear y1 y2 y3 y4 hG hT hB
            go_wp2
            go_roundw
            case rel => exact ⟨r, j + 1, a' + 1, by omega, by omega, by go_num, hG1, by simpa using hT1, hB1, HS⟩
            case measure => simp [intOf]; omega
        · have h29' : ((c : Int) == 29) = false := by rw [beq_eq_false_iff_ne]; omega
          have HS : Hid (getT bs a = tailR bs r j c (a' + 1)) := y4 h29 (.inl h16)
          clear y1 y2 y3 y4
          by_cases c1 : c = 1
          · subst c1
            have hG1 := hG.other (g' := w.heap.size + 1) (o := 0) (by omega) (.int .i64 1)
            have hT1 := hT.set 0 (.int .i64 1)
            have hB1 := hB.setCell (p := ⟨w.heap.size + 1, 0, none⟩) (show w.heap.size ≤ w.heap.size + 1 by omega) (.int .i64 1)
            have tc1 := hT1.cell
            have gc1 := hG1.cell
            have gm1 := hG1.melt
            cases r with
            | true =>
              have HS2 : Hid (getT bs a = badR 2) := by show _ = _; rw [HS.out]; simp [tailR]
              have HF := (hG1.set6 (.int .i64 0) (.int .i64 0) (.int .i64 0) (.bool false) (.int .i64 0) (.int .i64 2)).cell
              have HB := below_set6 hB1 (Nat.le_refl _) (.int .i64 0) (.int .i64 0) (.int .i64 0) (.bool false) (.int .i64 0) (.int .i64 2)
              clear hG hT hB hG1 hT1 hB1
              go_wp2
              exact bodyPost_ret (v := .agg #[.int .i64 0, .int .i64 0, .int .i64 0, .bool false, .int .i64 0, .int .i64 2]) (by simp [results, Try.results37, go_sem, HF]) rfl (by rw [HS2.out]; exact ⟨rfl, HB⟩)
            | false =>
              by_cases hj0 : j = 0
              · subst hj0
                have HS2 : Hid (getT bs a = ((1, 0, 0, false), a' + 1, 0)) := by show _ = _; rw [HS.out]; simp [tailR]
                have HF := (hG1.set6 (.int .i64 1) (.int .i64 0) (.int .i64 0) (.bool false) (.int .i64 ((a' : Int) + 1)) (.int .i64 0)).cell
                have HB := below_set6 hB1 (Nat.le_refl _) (.int .i64 1) (.int .i64 0) (.int .i64 0) (.bool false) (.int .i64 ((a' : Int) + 1)) (.int .i64 0)
                clear hG hT hB hG1 hT1 hB1
                go_wp2
                exact bodyPost_ret (v := .agg #[.int .i64 1, .int .i64 0, .int .i64 0, .bool false, .int .i64 ((a' : Int) + 1), .int .i64 0]) (by simp [results, Try.results37, go_sem, HF]) rfl (by rw [HS2.out]; exact ⟨rfl, HB⟩)
              · have HS2 : Hid (getT bs a = badR 2) := by show _ = _; rw [HS.out]; unfold tailR; rw [if_pos rfl, if_pos (by omega)]
                have hj0' : 0 < (j : Int) := by omega
                have HF := (hG1.set6 (.int .i64 0) (.int .i64 0) (.int .i64 0) (.bool false) (.int .i64 0) (.int .i64 2)).cell
                have HB := below_set6 hB1 (Nat.le_refl _) (.int .i64 0) (.int .i64 0) (.int .i64 0) (.bool false) (.int .i64 0) (.int .i64 2)
                clear hG hT hB hG1 hT1 hB1
                go_wp2
                exact bodyPost_ret (v := .agg #[.int .i64 0, .int .i64 0, .int .i64 0, .bool false, .int .i64 0, .int .i64 2]) (by simp [results, Try.results37, go_sem, HF]) rfl (by rw [HS2.out]; exact ⟨rfl, HB⟩)
          have c1' : ((c : Int) == 1) = false := by rw [beq_eq_false_iff_ne]; omega
          by_cases c8 : c = 8
          · subst c8
            have HS2 : Hid (getT bs a = ((2, 0, (j : Int), r), a' + 1, 0)) := by show _ = _; rw [HS.out]; simp [tailR]
            have hG1 := hG.other (g' := w.heap.size + 1) (o := 0) (by omega) (.int .i64 2)
            have hT1 := hT.set 0 (.int .i64 2)
            have hB1 := hB.setCell (p := ⟨w.heap.size + 1, 0, none⟩) (show w.heap.size ≤ w.heap.size + 1 by omega) (.int .i64 2)
            have tc1 := hT1.cell
            have gc1 := hG1.cell
            have gm1 := hG1.melt
            have HF := (hG1.set6 (.int .i64 2) (.int .i64 0) (.int .i64 (j : Int)) (.bool r) (.int .i64 ((a' : Int) + 1)) (.int .i64 0)).cell
            have HB := below_set6 hB1 (Nat.le_refl _) (.int .i64 2) (.int .i64 0) (.int .i64 (j : Int)) (.bool r) (.int .i64 ((a' : Int) + 1)) (.int .i64 0)
            clear hG hT hB hG1 hT1 hB1
            go_wp2
            exact bodyPost_ret (v := .agg #[.int .i64 2, .int .i64 0, .int .i64 (j : Int), .bool r, .int .i64 ((a' : Int) + 1), .int .i64 0]) (by simp [results, Try.results37, go_sem, HF]) rfl (by rw [HS2.out]; exact ⟨rfl, HB⟩)
          have c8' : ((c : Int) == 8) = false := by rw [beq_eq_false_iff_ne]; omega
          by_cases c10 : c = 10
          · subst c10
            have HS2 : Hid (getT bs a = ((3, 0, (j : Int), r), a' + 1, 0)) := by show _ = _; rw [HS.out]; simp [tailR]
            have hG1 := hG.other (g' := w.heap.size + 1) (o := 0) (by omega) (.int .i64 3)
            have hT1 := hT.set 0 (.int .i64 3)
            have hB1 := hB.setCell (p := ⟨w.heap.size + 1, 0, none⟩) (show w.heap.size ≤ w.heap.size + 1 by omega) (.int .i64 3)
            have tc1 := hT1.cell
            have gc1 := hG1.cell
            have gm1 := hG1.melt
            have HF := (hG1.set6 (.int .i64 3) (.int .i64 0) (.int .i64 (j : Int)) (.bool r) (.int .i64 ((a' : Int) + 1)) (.int .i64 0)).cell
            have HB := below_set6 hB1 (Nat.le_refl _) (.int .i64 3) (.int .i64 0) (.int .i64 (j : Int)) (.bool r) (.int .i64 ((a' : Int) + 1)) (.int .i64 0)
            clear hG hT hB hG1 hT1 hB1
            go_wp2
            exact bodyPost_ret (v := .agg #[.int .i64 3, .int .i64 0, .int .i64 (j : Int), .bool r, .int .i64 ((a' : Int) + 1), .int .i64 0]) (by simp [results, Try.results37, go_sem, HF]) rfl (by rw [HS2.out]; exact ⟨rfl, HB⟩)
          have c10' : ((c : Int) == 10) = false := by rw [beq_eq_false_iff_ne]; omega
          by_cases c28 : c = 28
          · subst c28
            have HS2 : Hid (getT bs a = ((4, 0, (j : Int), r), a' + 1, 0)) := by show _ = _; rw [HS.out]; simp [tailR]
            have hG1 := hG.other (g' := w.heap.size + 1) (o := 0) (by omega) (.int .i64 4)
            have hT1 := hT.set 0 (.int .i64 4)
            have hB1 := hB.setCell (p := ⟨w.heap.size + 1, 0, none⟩) (show w.heap.size ≤ w.heap.size + 1 by omega) (.int .i64 4)
            have tc1 := hT1.cell
            have gc1 := hG1.cell
            have gm1 := hG1.melt
            have HF := (hG1.set6 (.int .i64 4) (.int .i64 0) (.int .i64 (j : Int)) (.bool r) (.int .i64 ((a' : Int) + 1)) (.int .i64 0)).cell
            have HB := below_set6 hB1 (Nat.le_refl _) (.int .i64 4) (.int .i64 0) (.int .i64 (j : Int)) (.bool r) (.int .i64 ((a' : Int) + 1)) (.int .i64 0)
            clear hG hT hB hG1 hT1 hB1
            go_wp2
            exact bodyPost_ret (v := .agg #[.int .i64 4, .int .i64 0, .int .i64 (j : Int), .bool r, .int .i64 ((a' : Int) + 1), .int .i64 0]) (by simp [results, Try.results37, go_sem, HF]) rfl (by rw [HS2.out]; exact ⟨rfl, HB⟩)
          have c28' : ((c : Int) == 28) = false := by rw [beq_eq_false_iff_ne]; omega
          by_cases cn : c = 17 ∨ c = 18 ∨ c = 19
          · have HS2 : Hid (getT bs a = numR bs r j c (a' + 1)) := by show _ = _; rw [HS.out]; unfold tailR; rw [if_neg c1, if_neg c8, if_neg c10, if_neg c28, if_pos cn]
            have HNm : Hid (Calls Try.prog 58 #[.slice (some ⟨b, off, none⟩) bs.length cap, .int .i64 ((a' : Int) + 1), .agg #[.int .i64 0, .int .i64 0, .int .i64 (j : Int), .bool r], .int .i64 (c : Int)] wr fun e w' => e = .returned (gotv (numR bs r j c (a' + 1))) ∧ Below w.heap.size w w' ∧ At w' w.heap.size #[.int .i64 0, .int .i64 0, .int .i64 0, .bool false, .int .i64 0, .int .i64 0] 68) := by
              have := number_any (HV.out.below hB fun k hk => by cases hk; exact hb) (a' + 1) c j (by omega) hl cn r
              simp only [Int.natCast_add, Int.cast_ofNat_Int] at this
              refine Calls.mono this ?_
              rintro e w' ⟨rfl, hw⟩
              exact ⟨rfl, hB.trans (hw.mono hB.size), hG.later hw⟩
            obtain ⟨g, hg⟩ : ∃ g, numR bs r j c (a' + 1) = g := ⟨_, rfl⟩
            rw [hg] at HNm HS2
            clear hG hT hB hg HS
            have hcase : ((c : Int) == 17) = true ∨ (((c : Int) == 17) = false ∧ ((c : Int) == 18) = true) ∨ (((c : Int) == 17) = false ∧ ((c : Int) == 18) = false ∧ ((c : Int) == 19) = true) := by
              simp only [beq_iff_eq, beq_eq_false_iff_ne]; omega
            rcases hcase with e1 | ⟨e1, e2⟩ | ⟨e1, e2, e3⟩
            all_goals
              go_wp2_with fail
              refine Calls.mono HNm.out ?_
              rintro e w2 ⟨rfl, k1, k2⟩
              unfold gotv
              have gc2 := k2.cell
              have gm2 := k2.melt
              have HF := (k2.set6 (.int .i64 g.1.1) (.int .i64 g.1.2.1) (.int .i64 g.1.2.2.1) (.bool g.1.2.2.2) (.int .i64 (g.2.1 : Int)) (.int .i64 (g.2.2 : Int))).cell
              have HB := below_set6 k1 (Nat.le_refl _) (.int .i64 g.1.1) (.int .i64 g.1.2.1) (.int .i64 g.1.2.2.1) (.bool g.1.2.2.2) (.int .i64 (g.2.1 : Int)) (.int .i64 (g.2.2 : Int))
              clear k1 k2
              go_wp2
              exact bodyPost_ret (v := .agg #[.int .i64 g.1.1, .int .i64 g.1.2.1, .int .i64 g.1.2.2.1, .bool g.1.2.2.2, .int .i64 (g.2.1 : Int), .int .i64 (g.2.2 : Int)]) (by simp [results, Try.results37, go_sem, HF]) rfl (by rw [HS2.out]; exact ⟨rfl, HB⟩)
          · have HS2 : Hid (getT bs a = badR 2) := by show _ = _; rw [HS.out]; unfold tailR; rw [if_neg c1, if_neg c8, if_neg c10, if_neg c28, if_neg cn]
            have c17' : ((c : Int) == 17) = false := by rw [beq_eq_false_iff_ne]; omega
            have c18' : ((c : Int) == 18) = false := by rw [beq_eq_false_iff_ne]; omega
            have c19' : ((c : Int) == 19) = false := by rw [beq_eq_false_iff_ne]; omega
            have HF := (hG.set6 (.int .i64 0) (.int .i64 0) (.int .i64 0) (.bool false) (.int .i64 0) (.int .i64 2)).cell
            have HB := below_set6 hB (Nat.le_refl _) (.int .i64 0) (.int .i64 0) (.int .i64 0) (.bool false) (.int .i64 0) (.int .i64 2)
            clear hG hT hB
            go_wp2
            exact bodyPost_ret (v := .agg #[.int .i64 0, .int .i64 0, .int .i64 0, .bool false, .int .i64 0, .int .i64 2]) (by simp [results, Try.results37, go_sem, HF]) rfl (by rw [HS2.out]; exact ⟨rfl, HB⟩)
    · have HS : Hid (getT bs a = badR 1) := by show _ = _; rw [hS.out]; exact st_end bs r j a' hlt
      have HF := (hG.set6 (.int .i64 0) (.int .i64 0) (.int .i64 0) (.bool false) (.int .i64 0) (.int .i64 1)).cell
      have HB := below_set6 hB (Nat.le_refl _) (.int .i64 0) (.int .i64 0) (.int .i64 0) (.bool false) (.int .i64 0) (.int .i64 1)
      clear hS hG hT hB
      go_wp2
      exact bodyPost_ret (v := .agg #[.int .i64 0, .int .i64 0, .int .i64 0, .bool false, .int .i64 0, .int .i64 1]) (by simp [results, Try.results37, go_sem, HF]) rfl (by rw [HS.out]; exact ⟨rfl, HB⟩)

theorem refGet_none (x : Option Addr) (cap : Nat) (w : World) :
    Calls Try.prog 37 #[.slice x 0 cap, .int .i64 0] w fun e w' => e = .returned (gotv (badR 1)) ∧ Below w.heap.size w w' := by
  have hb0 : Below w.heap.size w ((w.alloc (.cells #[.int .i64 0, .int .i64 0, .int .i64 0, .bool false, .int .i64 0, .int .i64 0] 68)).alloc (.cells #[.int .i64 0, .int .i64 0, .int .i64 0, .bool false] 23)) :=
    ((Below.refl _ _).alloc (Nat.le_refl _) _).alloc (by simp) _
  have hG0 := (At.made w #[.int .i64 0, .int .i64 0, .int .i64 0, .bool false, .int .i64 0, .int .i64 0] 68).next (.cells #[.int .i64 0, .int .i64 0, .int .i64 0, .bool false] 23)
  go_enter Try.func37, Try.ntmps37
  go_wp2
  go_loopw [1, 6] (fun x _ wr => x = .int .i64 0 ∧ At wr w.heap.size #[.int .i64 0, .int .i64 0, .int .i64 0, .bool false, .int .i64 0, .int .i64 0] 68 ∧ Below w.heap.size w wr) (fun x _ _ => 0)
  case atStart => exact ⟨rfl, hG0, hb0⟩
  case round =>
    obtain ⟨rfl, hG, hB⟩ := hrel
    clear hb0 hG0
    have gc := hG.cell
    have gm := hG.melt
    have HF := (hG.set6 (.int .i64 0) (.int .i64 0) (.int .i64 0) (.bool false) (.int .i64 0) (.int .i64 1)).cell
    have HB := below_set6 hB (Nat.le_refl _) (.int .i64 0) (.int .i64 0) (.int .i64 0) (.bool false) (.int .i64 0) (.int .i64 1)
    clear hG hB
    go_wp2
    exact bodyPost_ret (v := .agg #[.int .i64 0, .int .i64 0, .int .i64 0, .bool false, .int .i64 0, .int .i64 1]) (by simp [results, Try.results37, go_sem, HF]) rfl ⟨rfl, HB⟩

theorem refGet_any {v : Value} {bs : List UInt8} {w : World} (hv : Bs w v bs) (a : Nat) (ha : a ≤ bs.length) (hl : bs.length ≤ 281474976710656) :
    Calls Try.prog 37 #[v, .int .i64 (a : Int)] w fun e w' => e = .returned (gotv (getT bs a)) ∧ Below w.heap.size w w' := by
  obtain ⟨x, cap, rfl, h1, h2, h3⟩ := id hv
  by_cases hb : bs = []
  · subst hb
    have : a = 0 := by simpa using ha
    subst this
    exact refGet_none x cap w
  · obtain ⟨b, off, rfl, hb1, hb2⟩ := h3 hb
    exact refGet_some hv hb2 hb1 a ha hl

end Go.Proofs.Ytcjoidhbhffcgaa
