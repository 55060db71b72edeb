
/- Write of the program. -/
import Derived.Test.YtfgjlljbpcombaaWrite8
namespace Go.Proofs.Ytfgjlljbpcombaa
set_option linter.unusedVariables false
set_option linter.unusedSimpArgs false
open Go.RowKit
attribute [local go_sem ↓] Go.wp_at_zero Go.wp_at_succ

theorem drew8 {w W : World} {B : Nat} (h : Below B w.drew W) : Below B w W := (Below.drewN (Below.refl B w) 1).trans h
theorem grown8 {w w' : World} {B : Nat} {row : Option Nat} (hg : w.grownBy w' row) (hB : B ≤ w.heap.size) (hr : ∀ k, row = some k → B ≤ k) : Below B w w' :=
  ⟨hg.os, hg.tape, hg.output, hg.size, fun k hk => hg.block k (by omega) (fun e => by have := hr k e.symm; omega)⟩
theorem Own.low {w : World} {b b' : Nat} {e : TypeId} {v : Value} {xs : List UInt8} (h : Own w b e v xs) (hb : b' ≤ b) : Own w b' e v xs := by
  obtain ⟨h1, h2⟩ := h
  refine ⟨h1, ?_⟩
  rcases h2 with h2 | ⟨g, cap, cur, hv, hg, r⟩
  · exact Or.inl h2
  · exact Or.inr ⟨g, cap, cur, hv, by omega, r⟩

theorem putClauses_any {w w0 : World} {base : Nat} {v lv : Value} {xs : List UInt8} {l : List Rw} (hv : Own w base 5 v xs) (hbase : base ≤ w.heap.size) (hx : xs.length ≤ 100000) (hl6 : l.length ≤ 6) (hall : l.all fitR = true)
    (hl : Ws w0 lv l) (hB : Below w0.heap.size w0 w) (h0 : w0.heap.size ≤ base) :
    Calls Try.prog 21 #[v, lv] w fun e w' => ∃ v', e = .returned v' ∧ Own w' base 5 v' (xs ++ tabW xs.length l) ∧ Below base w w' := by
  by_cases hne : l = []
  · subst hne
    obtain ⟨ya, cy, rfl, _⟩ := hl
    refine (putClauses_none v ya cy).mono ?_
    rintro e w' ⟨rfl, rfl⟩
    exact ⟨v, rfl, by simpa [tabW] using hv, Below.refl _ _⟩
  · obtain ⟨b, off, cap, rfl, _, _, hb, hc⟩ := hl.parts hne
    exact putClauses_some hv hbase hx (List.length_pos_iff.2 hne) hl6 (by omega) hall fun i hi => (hc i hi).below hB hb

set_option maxHeartbeats 800000 in
set_option maxRecDepth 100000 in
theorem write_any {w : World} {cv lv : Value} {c : List UInt8} {l : List Rw} (hc : Bs w cv c) (hl : Ws w lv l) :
    Calls Try.prog 11 #[.agg #[cv, lv]] w fun e w' => ∃ v, e = .returned (.tuple #[v, .int .i64 (writeE c l)]) ∧ Own w' w.heap.size 5 v (writeL c l) ∧ Below w.heap.size w w' := by
  have hcl := hc.len
  have hll := hl.len
  have HCB : Hid (∀ W, Below w.heap.size w W → Bs W cv c) := fun W h => hc.later h
  have HLB : Hid (∀ W, Below w.heap.size w W → Ws W lv l) := fun W h => hl.later h
  have HL : Hid (Ws w lv l) := hl
  obtain ⟨ya, cy, rfl, _, _⟩ := hl.shape
  obtain ⟨xa, cx, rfl, _, _, _⟩ := hc
  unfold maxLen at hcl hll
  obtain ⟨base, hbase⟩ : ∃ b, b = w.heap.size + 1 := ⟨_, rfl⟩
  have hb0 : Below w.heap.size w (w.alloc (.cells #[.slice xa c.length cx, .slice ya l.length cy] 25)) := (Below.refl _ _).alloc (Nat.le_refl _) _
  have hbx : At (w.alloc (.cells #[.slice xa c.length cx, .slice ya l.length cy] 25)) w.heap.size #[.slice xa c.length cx, .slice ya l.length cy] 25 := At.made _ _ _
  have HR : Hid (Calls Try.prog 17 #[.agg #[.slice xa c.length cx, .slice ya l.length cy]] (w.alloc (.cells #[.slice xa c.length cx, .slice ya l.length cy] 25)) fun e w' => e = .returned (.bool (rightB c l)) ∧ Below w.heap.size w w' ∧ At w' w.heap.size #[.slice xa c.length cx, .slice ya l.length cy] 25 ∧ base ≤ w'.heap.size) := by
    refine (isRight_any (by unfold maxLen; omega) (HLB.out _ hb0)).mono ?_
    rintro e w' ⟨rfl, h⟩
    exact ⟨rfl, hb0.trans (h.mono (by simp)), hbx.later h, by have := h.size; simp at this; omega⟩
  clear hl hb0 hbx
  go_enter Try.func11, Try.ntmps11
  go_wp2_with fail
  refine Calls.mono HR.out ?_
  rintro e w1 ⟨rfl, h1, hA1, hs1⟩
  clear HR
  cases hr : rightB c l with
  | false =>
    have HE : Hid (writeE c l = 17 ∧ writeL c l = []) := ⟨by simp [writeE, hr], by simp [writeL, hr]⟩
    have HB1 : Hid (Below w.heap.size w w1) := h1
    clear h1 hA1 hs1 hbase HCB HLB HL
    go_wp2
    go_ret2
    exact ⟨_, by rw [HE.out.1]; rfl, by rw [HE.out.2]; exact Own.nil _ _ _, HB1.out⟩
  | true =>
    have HE : Hid (writeE c l = 0 ∧ writeL c l = wrL c l) := ⟨by simp [writeE, hr], by simp [writeL, hr]⟩
    obtain ⟨⟨hc1, hc2⟩, hl6, hfit⟩ := (rightB_iff c l).1 hr
    have HFit : Hid (l.all fitR = true) := hfit
    clear hfit
    have hc0 := hA1.cell
    have HS : Hid (Calls Try.prog 18 #[.agg #[.slice xa c.length cx, .slice ya l.length cy]] w1 fun e w' => e = .returned (.bool (smallB c l)) ∧ Below w.heap.size w w' ∧ At w' w.heap.size #[.slice xa c.length cx, .slice ya l.length cy] 25 ∧ base ≤ w'.heap.size) := by
      refine (isSmall_any xa ya c.length l.length cx cy (by unfold maxLen; omega) (by unfold maxLen; omega)).mono ?_
      rintro e w' ⟨rfl, h⟩
      exact ⟨rfl, h1.trans (h.mono (by omega)), hA1.later h, by have := h.size; omega⟩
    clear h1 hA1 hs1 hr
    go_wp2_with fail
    refine Calls.mono HS.out ?_
    rintro e w2 ⟨rfl, h2, hA2, hs2⟩
    clear HS hc0
    have hc2c := hA2.cell
    have HB2 : Hid (Below w.heap.size w w2) := h2
    have HA2 : Hid (At w2 w.heap.size #[.slice xa c.length cx, .slice ya l.length cy] 25) := hA2
    have HLow : Hid (∀ W, Below base w2 W → Below w.heap.size w W) := fun W h => HB2.out.trans (h.mono (by omega))
    have HCB2 : Hid (∀ W, Below base w2 W → Bs W (.slice xa c.length cx) c) := fun W h => HCB.out W (HLow.out W h)
    have HS2 : Hid (base ≤ w2.heap.size) := hs2
    have HBs : Hid (base = w.heap.size + 1) := hbase
    have HLt : Hid (w.heap.size < base) := by show _ < _; omega
    clear h2 hA2 hs2 hbase
    cases hsm : smallB c l with
    | true =>
      have HW : Hid (wrL c l = leL (4 * c.length + 2) 1 ++ c) := by show _ = _; simp [wrL, hsm]
      obtain ⟨hs64, -⟩ := (smallB_iff c l).1 hsm
      have hpe : (((4 * c.length + 2 : Nat) : Int)) = 4 * (c.length : Int) + 2 := by omega
      have hP : ∀ W, Below base w2 W → Calls Try.prog 19 #[.slice none 0 0, .int .i64 (4 * (c.length : Int) + 2), .int .i64 1] W fun e w' => ∃ v', e = .returned v' ∧ Own w' base 5 v' (leL (4 * c.length + 2) 1) ∧ Below base W w' := by
        intro W hW
        have := put8_any (Own.nil W base 5) (Nat.le_trans HS2.out hW.size) (by simp) (4 * c.length + 2) 1 (by omega) (by omega)
        rw [hpe] at this
        simpa using this
      have HP : Hid (∀ W, Below base w2 W → Calls Try.prog 19 #[.slice none 0 0, .int .i64 (4 * (c.length : Int) + 2), .int .i64 1] W fun e w' => ∃ v', e = .returned v' ∧ Own w' base 5 v' (leL (4 * c.length + 2) 1) ∧ Below base W w') := hP
      have HK : Hid (∀ W, Below base w2 W → W.cell? ⟨w.heap.size, 0, none⟩ = some (.slice xa c.length cx)) := fun W hW => (HA2.out.below hW HLt.out).cell 0
      have hll1 := leL_length (4 * c.length + 2) 1
      have hw1 : IntKind.i64.wrap (4 * (c.length : Int)) = 4 * (c.length : Int) := by simp [IntKind.wrap, IntKind.signed, IntKind.bits]; omega
      have hw2 : IntKind.i64.wrap (4 * (c.length : Int) + 2) = 4 * (c.length : Int) + 2 := by simp [IntKind.wrap, IntKind.signed, IntKind.bits]; omega
      clear hP hpe
      go_wp2_with fail
      go_region_held3 (fun w' => w'.cell? ⟨w.heap.size, 0, none⟩ = some (.slice xa c.length cx))
        (first | (exact HK.out _ (Below.drewN (Below.refl _ _) 1)) | (exact HK.out _ (drew8 hb3)) | (exact HK.out _ ((drew8 hb3).trans (grown8 hg4 (Nat.le_trans HS2.out (drew8 hb3).size) (fun k hk => (ho3.block k hk).1)))))
        (first | (go_at_call 19; refine (HP.out _ (Below.drewN (Below.refl _ _) 1)).mono ?_; rintro e w3 ⟨v3, rfl, ho3, hb3⟩) | (refine step_append_at rfl (.tmp 16) (.tmp 18) 22 22 rfl base 5 (.int .u8 0) 1 Try.underlying22 Try.infoU8 rfl (by simp [Act.eval, Act.put]) (by simp [Act.eval, Act.put]) ho3.v ((HCB2.out _ (drew8 hb3)).src Try.underlying22) (by rw [u8s_length, hll1]; unfold maxLen; omega) (by rw [u8s_length, hll1]; omega) (Nat.le_trans HS2.out (drew8 hb3).size) ?_; intro v4 w4 ho4 hg4))
      rename_i hheld
      clear hheld
      have hO4 : Own w4 base 5 v4 (leL (4 * c.length + 2) 1 ++ c) := OwnV.own (by rw [u8s_append]; exact ho4)
      have hB4 : Below w.heap.size w w4 := HLow.out _ ((drew8 hb3).trans (grown8 hg4 (Nat.le_trans HS2.out (drew8 hb3).size) (fun k hk => (ho3.block k hk).1)))
      go_wp2
      go_ret2
      exact ⟨_, by rw [HE.out.1]; rfl, by rw [HE.out.2, HW.out]; exact hO4.low (Nat.le_of_lt HLt.out), hB4⟩
    | false =>
      have HW : Hid (wrL c l = headW c l ++ tabW (headW c l).length l) := by show _ = _; simp [wrL, hsm]
      obtain ⟨mk, hmk⟩ : ∃ m, m = mkN8 l := ⟨_, rfl⟩
      have hmk2 : mk = 3 ∨ mk = 11 := by rw [hmk]; unfold mkN8; split <;> simp
      have HHd : Hid (headW c l = leL mk 1 ++ List.replicate 3 0 ++ leL c.length 4 ++ c) := by show _ = _; rw [hmk]; rfl
      have HHl : Hid ((headW c l).length = c.length + 8) := headW_length c l
      have hP1 : ∀ W, Below base w2 W → Calls Try.prog 19 #[.slice none 0 0, .int .i64 (mk : Int), .int .i64 1] W fun e w' => ∃ v', e = .returned v' ∧ Own w' base 5 v' (leL mk 1) ∧ Below base w2 w' := by
        intro W hW
        refine (put8_any (Own.nil W base 5) (Nat.le_trans HS2.out hW.size) (by simp) mk 1 (by omega) (by omega)).mono ?_
        rintro e w' ⟨v', rfl, h1, h2⟩
        exact ⟨v', rfl, by simpa using h1, hW.trans h2⟩
      have HP1 : Hid (∀ W, Below base w2 W → Calls Try.prog 19 #[.slice none 0 0, .int .i64 (mk : Int), .int .i64 1] W fun e w' => ∃ v', e = .returned v' ∧ Own w' base 5 v' (leL mk 1) ∧ Below base w2 w') := hP1
      clear hP1
      have hl1 := leL_length mk 1
      obtain ⟨P1, hP1e⟩ : ∃ P, P = leL mk 1 := ⟨_, rfl⟩
      rw [← hP1e] at HP1 HHd hl1
      clear hP1e
      have HMk : Hid (mk = if l.length = 0 then 3 else 11) := by show _ = _; rw [hmk]; rfl
      clear hmk
      have HTail : Hid (∀ (v1 : Value) (W1 : World), Own W1 base 5 v1 P1 → Below base w2 W1 → Calls Try.prog 20 #[v1, .int .i64 3] W1 fun e w' => ∃ v', e = .returned v' ∧ Own w' base 5 v' (P1 ++ List.replicate 3 0) ∧ Below base w2 w') := by
        intro v1 W1 ho hb
        refine (putZeros_any ho (Nat.le_trans HS2.out hb.size) (by omega) 3 (by omega)).mono ?_
        rintro e w' ⟨v', rfl, h1, h2⟩
        exact ⟨v', rfl, h1, hb.trans h2⟩
      have hl2 : (P1 ++ List.replicate 3 (0 : UInt8)).length = 4 := by simp; omega
      obtain ⟨P2, hP2e⟩ : ∃ P, P = P1 ++ List.replicate 3 (0 : UInt8) := ⟨_, rfl⟩
      rw [← hP2e] at HTail HHd hl2
      clear hP2e hl1
      have HPut : Hid (∀ (v2 : Value) (W2 W : World), Own W2 base 5 v2 P2 → Below base w2 W2 → Below W2.heap.size W2 W → Calls Try.prog 19 #[v2, .int .i64 (c.length : Int), .int .i64 4] W fun e w' => ∃ v', e = .returned v' ∧ Own w' base 5 v' (P2 ++ leL c.length 4) ∧ Below base w2 w') := by
        intro v2 W2 W ho hb hW
        refine (put8_any (ho.later hW) (Nat.le_trans HS2.out (Nat.le_trans hb.size hW.size)) (by omega) c.length 4 (by omega) (by omega)).mono ?_
        rintro e w' ⟨v', rfl, h1, h2⟩
        exact ⟨v', rfl, h1, hb.trans ((hW.mono (Nat.le_trans HS2.out hb.size)).trans h2)⟩
      have hl3 : (P2 ++ leL c.length 4).length = 8 := by simp [leL_length]; omega
      obtain ⟨P3, hP3e⟩ : ∃ P, P = P2 ++ leL c.length 4 := ⟨_, rfl⟩
      rw [← hP3e] at HPut HHd hl3
      clear hP3e hl2
      have HK : Hid (∀ W, Below base w2 W → W.cell? ⟨w.heap.size, 0, none⟩ = some (.slice xa c.length cx) ∧ W.cell? ⟨w.heap.size, 1, none⟩ = some (.slice ya l.length cy)) := fun W hW => ⟨(HA2.out.below hW HLt.out).cell 0, (HA2.out.below hW HLt.out).cell 1⟩
      have HPC : Hid (∀ (v4 : Value) (W4 : World), Own W4 base 5 v4 (P3 ++ c) → Below base w2 W4 → Calls Try.prog 21 #[v4, .slice ya l.length cy] W4 fun e w' => ∃ v', e = .returned v' ∧ Own w' base 5 v' (wrL c l) ∧ Below base w2 w') := by
        intro v4 W4 ho hb
        rw [← HHd.out] at ho
        have hh := HHl.out
        refine (putClauses_any ho (Nat.le_trans HS2.out hb.size) (by omega) hl6 HFit.out HL.out (HLow.out _ hb) (Nat.le_of_lt HLt.out)).mono ?_
        rintro e w' ⟨v', rfl, h1, h2⟩
        exact ⟨v', rfl, by rw [HW.out]; exact h1, hb.trans h2⟩
      clear HL HLB HFit HHd HHl HW hsm
      have hi : ∀ (n : Nat), IntKind.i64.wrap ((c.length : Int)) = (c.length : Int) := fun n => by simp [IntKind.wrap, IntKind.signed, IntKind.bits]; omega
      have HLN : Hid (∀ n, l.length = n → n ≤ 6) := fun n h => by omega
      clear hll
      generalize l.length = n at *
      by_cases hl0 : n = 0
      · have hm3 : mk = 3 := by rw [HMk.out, if_pos hl0]
        rw [hm3] at HP1
        clear HMk hmk2 HLN
        subst hl0
        go_wp2_with fail
        refine Calls.mono (HP1.out _ (Below.refl _ _)) ?_
        rintro e w3 ⟨v3, rfl, ho3, hb3⟩
        have HT3 : Hid (Calls Try.prog 20 #[v3, .int .i64 3] w3 fun e w' => ∃ v', e = .returned v' ∧ Own w' base 5 v' P2 ∧ Below base w2 w') := HTail.out v3 w3 ho3 hb3
        clear ho3 hb3 HP1 HTail hc2c
        go_wp2_with fail
        refine Calls.mono HT3.out ?_
        rintro e w4 ⟨v4, rfl, ho4, hb4⟩
        have HP4 : Hid (∀ W, Below w4.heap.size w4 W → Calls Try.prog 19 #[v4, .int .i64 (c.length : Int), .int .i64 4] W fun e w' => ∃ v', e = .returned v' ∧ Own w' base 5 v' P3 ∧ Below base w2 w') := fun W hW => HPut.out v4 w4 W ho4 hb4 hW
        have HB4 : Hid (∀ W, Below w4.heap.size w4 W → Below base w2 W) := fun W hW => hb4.trans (hW.mono (Nat.le_trans HS2.out hb4.size))
        clear ho4 hb4 HT3 HPut
        go_wp2_with fail
        go_region_held3 (fun w' => w'.cell? ⟨w.heap.size, 0, none⟩ = some (.slice xa c.length cx) ∧ w'.cell? ⟨w.heap.size, 1, none⟩ = some (.slice ya 0 cy))
          (first | (exact HK.out _ (HB4.out _ (Below.drewN (Below.refl _ _) 1))) | (exact HK.out _ hb5) | (exact HK.out _ (hb5.trans (grown8 hg6 (Nat.le_trans HS2.out hb5.size) (fun k hk => (ho5.block k hk).1)))))
          (first | (go_at_call 19; refine (HP4.out _ (Below.drewN (Below.refl _ _) 1)).mono ?_; rintro e w5 ⟨v5, rfl, ho5, hb5⟩) | (refine step_append_at rfl (.tmp 31) (.tmp 33) 22 22 rfl base 5 (.int .u8 0) 1 Try.underlying22 Try.infoU8 rfl (by simp [Act.eval, Act.put]) (by simp [Act.eval, Act.put]) ho5.v ((HCB2.out _ hb5).src Try.underlying22) (by rw [u8s_length, hl3]; unfold maxLen; omega) (by rw [u8s_length, hl3]; omega) (Nat.le_trans HS2.out hb5.size) ?_; intro v6 w6 ho6 hg6))
        rename_i hheld
        clear hheld
        have hO6 : Own w6 base 5 v6 (P3 ++ c) := OwnV.own (by rw [u8s_append]; exact ho6)
        have hB6 : Below base w2 w6 := hb5.trans (grown8 hg6 (Nat.le_trans HS2.out hb5.size) (fun k hk => (ho5.block k hk).1))
        have HPC6 : Hid (Calls Try.prog 21 #[v6, .slice ya 0 cy] w6 fun e w' => ∃ v', e = .returned v' ∧ Own w' base 5 v' (wrL c l) ∧ Below base w2 w') := HPC.out v6 w6 hO6 hB6
        obtain ⟨hk0, hk1⟩ := HK.out _ hB6
        clear hO6 hB6 HPC ho6 hg6 hb5 ho5 HP4
        go_wp2_with fail
        refine Calls.mono HPC6.out ?_
        rintro e w7 ⟨v7, rfl, ho7, hb7⟩
        clear hk0 hk1
        go_wp2
        go_ret2
        exact ⟨_, by rw [HE.out.1]; rfl, by rw [HE.out.2]; exact ho7.low (Nat.le_of_lt HLt.out), HLow.out _ hb7⟩
      · have hm3 : mk = 11 := by rw [HMk.out, if_neg hl0]
        rw [hm3] at HP1
        clear HMk hmk2 HLN
        have hl0' : (0 : Int) < (n : Int) := by omega
        clear hl0
        go_wp2_with fail
        refine Calls.mono (HP1.out _ (Below.refl _ _)) ?_
        rintro e w3 ⟨v3, rfl, ho3, hb3⟩
        have HT3 : Hid (Calls Try.prog 20 #[v3, .int .i64 3] w3 fun e w' => ∃ v', e = .returned v' ∧ Own w' base 5 v' P2 ∧ Below base w2 w') := HTail.out v3 w3 ho3 hb3
        clear ho3 hb3 HP1 HTail hc2c
        go_wp2_with fail
        refine Calls.mono HT3.out ?_
        rintro e w4 ⟨v4, rfl, ho4, hb4⟩
        have HP4 : Hid (∀ W, Below w4.heap.size w4 W → Calls Try.prog 19 #[v4, .int .i64 (c.length : Int), .int .i64 4] W fun e w' => ∃ v', e = .returned v' ∧ Own w' base 5 v' P3 ∧ Below base w2 w') := fun W hW => HPut.out v4 w4 W ho4 hb4 hW
        have HB4 : Hid (∀ W, Below w4.heap.size w4 W → Below base w2 W) := fun W hW => hb4.trans (hW.mono (Nat.le_trans HS2.out hb4.size))
        clear ho4 hb4 HT3 HPut
        go_wp2_with fail
        go_region_held3 (fun w' => w'.cell? ⟨w.heap.size, 0, none⟩ = some (.slice xa c.length cx) ∧ w'.cell? ⟨w.heap.size, 1, none⟩ = some (.slice ya n cy))
          (first | (exact HK.out _ (HB4.out _ (Below.drewN (Below.refl _ _) 1))) | (exact HK.out _ hb5) | (exact HK.out _ (hb5.trans (grown8 hg6 (Nat.le_trans HS2.out hb5.size) (fun k hk => (ho5.block k hk).1)))))
          (first | (go_at_call 19; refine (HP4.out _ (Below.drewN (Below.refl _ _) 1)).mono ?_; rintro e w5 ⟨v5, rfl, ho5, hb5⟩) | (refine step_append_at rfl (.tmp 31) (.tmp 33) 22 22 rfl base 5 (.int .u8 0) 1 Try.underlying22 Try.infoU8 rfl (by simp [Act.eval, Act.put]) (by simp [Act.eval, Act.put]) ho5.v ((HCB2.out _ hb5).src Try.underlying22) (by rw [u8s_length, hl3]; unfold maxLen; omega) (by rw [u8s_length, hl3]; omega) (Nat.le_trans HS2.out hb5.size) ?_; intro v6 w6 ho6 hg6))
        rename_i hheld
        clear hheld
        have hO6 : Own w6 base 5 v6 (P3 ++ c) := OwnV.own (by rw [u8s_append]; exact ho6)
        have hB6 : Below base w2 w6 := hb5.trans (grown8 hg6 (Nat.le_trans HS2.out hb5.size) (fun k hk => (ho5.block k hk).1))
        have HPC6 : Hid (Calls Try.prog 21 #[v6, .slice ya n cy] w6 fun e w' => ∃ v', e = .returned v' ∧ Own w' base 5 v' (wrL c l) ∧ Below base w2 w') := HPC.out v6 w6 hO6 hB6
        obtain ⟨hk0, hk1⟩ := HK.out _ hB6
        clear hO6 hB6 HPC ho6 hg6 hb5 ho5 HP4
        go_wp2_with fail
        refine Calls.mono HPC6.out ?_
        rintro e w7 ⟨v7, rfl, ho7, hb7⟩
        clear hk0 hk1
        go_wp2
        go_ret2
        exact ⟨_, by rw [HE.out.1]; rfl, by rw [HE.out.2]; exact ho7.low (Nat.le_of_lt HLt.out), HLow.out _ hb7⟩

end Go.Proofs.Ytfgjlljbpcombaa
