
/- The reader of bodies: body, not the small way. -/
import Derived.Test.YtfgjlljbpcombaaBody8
namespace Go.Proofs.Ytfgjlljbpcombaa
set_option linter.unusedVariables false
set_option linter.unusedSimpArgs false
open Go.RowKit
attribute [local go_sem ↓] Go.wp_at_zero Go.wp_at_succ

set_option maxHeartbeats 1000000 in
set_option maxRecDepth 100000 in
theorem body_3 {w : World} {rr rb : Nat} {bs : List UInt8} (h : Rx w rr rb bs (0, 0)) (at_ : Nat) (hf : boF bs = 3) :
    Calls Try.prog 26 #[.pointer (some ⟨rr, 0, none⟩), .int .i64 (at_ : Int)] w fun e w' => GotB w w' rr rb bs (decide (at_ % 4 = 0)) e := by
  have hrr := h.box.lt
  have hlt := h.lt
  obtain ⟨wa, hwa⟩ : ∃ W, W = w.alloc (.cells #[.slice none 0 0, .slice none 0 0] 25) := ⟨_, rfl⟩
  have hb0 : Below w.heap.size w wa := by rw [hwa]; exact (Below.refl _ _).alloc (Nat.le_refl _) _
  have hA0 : At wa w.heap.size #[.slice none 0 0, .slice none 0 0] 25 := by rw [hwa]; exact At.made _ _ _
  have hsa : w.heap.size + 1 ≤ wa.heap.size := by rw [hwa]; simp
  have hf2 : boF bs % 4 ≠ 2 := by omega
  have HV : Hid (rdC bs (decide (at_ % 4 = 0)) = boC bs (decide (at_ % 4 = 0)) ∧ rdK bs (decide (at_ % 4 = 0)) = boK bs (decide (at_ % 4 = 0)) ∧ rdS bs (decide (at_ % 4 = 0)) = waS (bo6 bs (decide (at_ % 4 = 0))) (!smallB (boC bs (decide (at_ % 4 = 0))) (boK bs (decide (at_ % 4 = 0))))) := ⟨by simp [rdC, hf2], by simp [rdK, hf2], by simp [rdS, hf2]⟩
  have HV6 : Hid (bo6 bs (decide (at_ % 4 = 0)) = bo5 bs (decide (at_ % 4 = 0)) ∧ boK bs (decide (at_ % 4 = 0)) = []) := by
    have hf11 : ¬ boF bs = 11 := by omega
    exact ⟨by simp [bo6, hf11], by simp [boK, hf11]⟩
  have HV2 : Hid (bo2 bs (decide (at_ % 4 = 0)) = waS (waS (bo1 bs) true) (decide (at_ % 4 = 0))) := by
    show _ = _
    unfold bo2
    rw [show (decide (boF bs = 3) || decide (boF bs = 11)) = true by simp; omega]
  have hnl : boN bs (decide (at_ % 4 = 0)) < 4294967296 := nuV_lt _ _ _ (by omega)
  obtain ⟨g, hg⟩ : ∃ g, g = w.heap.size := ⟨_, rfl⟩
  have HN : Hid (Calls Try.prog 37 #[.pointer (some ⟨rr, 0, none⟩), .int .i64 1] wa fun e w' => e = .returned (.int .i64 3) ∧ Rx w' rr rb bs (bo1 bs) ∧ Onp [rr, rb, g] w w' ∧ At w' g #[.slice none 0 0, .slice none 0 0] 25 ∧ g < w'.heap.size) := by
    refine (number8_any (h.later hb0) 1 (by omega)).mono ?_
    rintro e w' ⟨rfl, g1, g2⟩
    refine ⟨by have h0 : nuV bs (0, 0) 1 = boF bs := rfl; rw [h0, hf]; rfl, g1, (Onp.of_below hb0).trans (g2.onp (by simp) (by simp)), ?_, by have := g2.size; omega⟩
    rw [hg]
    exact hA0.onl g2 (by omega) (by omega)
  have HGE : Hid (rr < g ∧ rb < g ∧ g = w.heap.size) := ⟨by omega, by omega, hg⟩
  have HW1 : Hid (∀ W, Rx W rr rb bs (bo1 bs) → Calls Try.prog 39 #[.pointer (some ⟨rr, 0, none⟩), .bool true] W fun e w' => e = .returned (.tuple #[]) ∧ Rx w' rr rb bs (waS (bo1 bs) true) ∧ Onl rr rb W w') := fun W hW => want_any hW _
  have hd : (((at_ : Int) % 4) == 0) = (decide (at_ % 4 = 0)) := by
    by_cases h : at_ % 4 = 0
    · rw [decide_eq_true h, beq_iff_eq]; omega
    · rw [decide_eq_false h, beq_eq_false_iff_ne]; omega
  have HW2 : Hid (∀ W, Rx W rr rb bs (waS (bo1 bs) true) → Calls Try.prog 39 #[.pointer (some ⟨rr, 0, none⟩), .bool ((at_ : Int) % 4 == 0)] W fun e w' => e = .returned (.tuple #[]) ∧ Rx w' rr rb bs (bo2 bs (decide (at_ % 4 = 0))) ∧ Onl rr rb W w') := fun W hW => by
    rw [HV2.out, hd]
    exact want_any hW _
  have HZ : Hid (∀ W, Rx W rr rb bs (bo2 bs (decide (at_ % 4 = 0))) → Calls Try.prog 40 #[.pointer (some ⟨rr, 0, none⟩), .int .i64 3] W fun e w' => e = .returned (.tuple #[]) ∧ Rx w' rr rb bs (bo3 bs (decide (at_ % 4 = 0))) ∧ Onl rr rb W w') := fun W hW => zeros_any hW 3 (by omega)
  have HNL : Hid (∀ W, Rx W rr rb bs (bo3 bs (decide (at_ % 4 = 0))) → Calls Try.prog 37 #[.pointer (some ⟨rr, 0, none⟩), .int .i64 4] W fun e w' => e = .returned (.int .i64 (boN bs (decide (at_ % 4 = 0)) : Int)) ∧ Rx w' rr rb bs (bo4 bs (decide (at_ % 4 = 0))) ∧ Onl rr rb W w') := fun W hW => number8_any hW 4 (by omega)
  have HC : Hid (∀ W, Rx W rr rb bs (bo4 bs (decide (at_ % 4 = 0))) → Calls Try.prog 38 #[.pointer (some ⟨rr, 0, none⟩), .int .i64 (boN bs (decide (at_ % 4 = 0)) : Int)] W fun e w' => GotC W w' rr rb bs (bo4 bs (decide (at_ % 4 = 0))) (boN bs (decide (at_ % 4 = 0))) e) := fun W hW => code8_any hW _ hnl
  have HCc : Hid (coL bs (bo4 bs (decide (at_ % 4 = 0))) (boN bs (decide (at_ % 4 = 0))) = boC bs (decide (at_ % 4 = 0)) ∧ coS bs (bo4 bs (decide (at_ % 4 = 0))) (boN bs (decide (at_ % 4 = 0))) = bo5 bs (decide (at_ % 4 = 0))) := ⟨rfl, rfl⟩
  clear h hb0 hA0 hsa hrr hlt hd hf2 HV2
  generalize boN bs (decide (at_ % 4 = 0)) = bn at *
  clear hf
  go_enter Try.func26, Try.ntmps26
  go_wp2_with fail
  rw [← hwa, ← hg]
  clear hwa
  refine Calls.mono HN.out ?_
  rintro e w1 ⟨rfl, h1, h2, h3, h4⟩
  have HO1 : Hid (Onp [rr, rb, g] w w1) := h2
  have HA1 : Hid (At w1 g #[.slice none 0 0, .slice none 0 0] 25) := h3
  have HS1 : Hid (g < w1.heap.size) := h4
  have HX1 : Hid (Rx w1 rr rb bs (bo1 bs)) := h1
  clear HN h1 h2 h3 h4 hg
  go_wp2_with fail
  refine Calls.mono (HW1.out _ HX1.out) ?_
  rintro e w2 ⟨rfl, h2, h2o⟩
  have HX2 : Hid (Rx w2 rr rb bs (waS (bo1 bs) true)) := h2
  have HO2 : Hid (Onl rr rb w1 w2) := h2o
  clear h2 h2o HX1 HW1
  go_wp2_with fail
  refine Calls.mono (HW2.out _ HX2.out) ?_
  rintro e w3 ⟨rfl, h3, h3o⟩
  have HX3 : Hid (Rx w3 rr rb bs (bo2 bs (decide (at_ % 4 = 0)))) := h3
  have HO3 : Hid (Onl rr rb w1 w3) := HO2.out.trans h3o
  clear h3 h3o HX2 HW2 HO2
  go_wp2_with fail
  refine Calls.mono (HZ.out _ HX3.out) ?_
  rintro e w4 ⟨rfl, h4, h4o⟩
  have HX4 : Hid (Rx w4 rr rb bs (bo3 bs (decide (at_ % 4 = 0)))) := h4
  have HO4 : Hid (Onl rr rb w1 w4) := HO3.out.trans h4o
  clear h4 h4o HX3 HZ HO3
  go_wp2_with fail
  refine Calls.mono (HNL.out _ HX4.out) ?_
  rintro e w5 ⟨rfl, h5, h5o⟩
  have HX5 : Hid (Rx w5 rr rb bs (bo4 bs (decide (at_ % 4 = 0)))) := h5
  have HO5 : Hid (Onl rr rb w1 w5) := HO4.out.trans h5o
  clear h5 h5o HX4 HNL HO4
  go_wp2_with fail
  refine Calls.mono (HC.out _ HX5.out) ?_
  rintro e w6 ⟨⟨cv, rfl, hc1, hc2⟩, hx, ho⟩
  rw [HCc.out.1] at hc1
  rw [HCc.out.2] at hx
  obtain ⟨ca, cc, rfl, hl1, hl2⟩ := hc1.shape
  obtain ⟨e1, e2, e3⟩ := HGE.out
  have hO6 : Onl rr rb w1 w6 := HO5.out.trans ho
  have hs16 := hO6.size
  have hs15 := HO5.out.size
  have hs1 := HS1.out
  have hA6 := HA1.out.onl hO6 (by omega) (by omega)
  obtain ⟨cl, hcl⟩ : ∃ n, n = (boC bs (decide (at_ % 4 = 0))).length := ⟨_, rfl⟩
  rw [← hcl] at hc1 hc2 hl1 ⊢
  have HSM : Hid (∀ (m : Nat) (l : List Rw), m = l.length → smallB (boC bs (decide (at_ % 4 = 0))) l = (decide (cl < 64) && decide (m = 0))) := by
    rintro m l rfl
    rw [hcl]; rfl
  obtain ⟨g6, hg6⟩ : ∃ k, k = w6.heap.size := ⟨_, rfl⟩
  obtain ⟨wb, hwb⟩ : ∃ W, W = w6.alloc (.cells #[.slice ca cl cc, .slice none 0 0] 25) := ⟨_, rfl⟩
  have hb6 : Below w6.heap.size w6 wb := by rw [hwb]; exact (Below.refl _ _).alloc (Nat.le_refl _) _
  have hszb : g6 < wb.heap.size := by rw [hwb, hg6]; simp
  have HBc : Hid (Bs wb (.slice ca cl cc) (boC bs (decide (at_ % 4 = 0)))) := hc1.later hb6
  have HXb : Hid (Rx wb rr rb bs (bo5 bs (decide (at_ % 4 = 0)))) := hx.later hb6
  have hAb : At wb g6 #[.slice ca cl cc, .slice none 0 0] 25 := by rw [hwb, hg6]; exact At.made _ _ _
  have HAb : Hid (At wb g6 #[.slice ca cl cc, .slice none 0 0] 25) := hAb
  have HAg : Hid (At wb g #[.slice none 0 0, .slice none 0 0] 25) := hA6.later hb6
  have HOb : Hid (Onp [rr, rb, g, g6] w wb) := by
    have hq1 : Onp [rr, rb, g, g6] w w1 := ⟨HO1.out.os, HO1.out.tape, HO1.out.output, HO1.out.size, fun k hk hn => HO1.out.block k hk (by simp at hn ⊢; omega)⟩
    exact (hq1.trans (hO6.onp (by simp) (by simp))).trans (Onp.of_below hb6)
  have HK6 : Hid (boC bs (decide (at_ % 4 = 0)) ≠ [] → ∀ k, (Value.slice ca cl cc).ownBlock = some k → k ∉ [rr, rb, g, g6]) := by
    intro hne k hk
    have q1 := hc1.blk hne k hk
    have q2 := hc2 k hk
    simp
    omega
  have HN6 : Hid (rr < g6 ∧ rb < g6 ∧ g < g6 ∧ g6 < wb.heap.size ∧ w.heap.size ≤ g6 ∧ cl ≤ maxLen) := by
    refine ⟨?_, ?_, ?_, ?_, ?_, ?_⟩ <;> omega
  clear hc1 hc2 hx ho hO6 hs16 hs15 hs1 hA6 hcl hb6 hszb hAb hl1 hl2 HO1 HA1 HS1 HO5 HX5 HC e1 e2 e3
  have hSM := HSM.out 0 _ (show 0 = (boK bs (decide (at_ % 4 = 0))).length by rw [HV6.out.2]; rfl)
  have HX8 : Hid (Rx wb rr rb bs (bo6 bs (decide (at_ % 4 = 0)))) := by show Rx _ _ _ _ _; rw [HV6.out.1]; exact HXb.out
  have HAg8 : Hid (At wb g #[.slice none 0 0, .slice none 0 0] 25) := HAg.out
  have HA8 : Hid (At wb g6 #[.slice ca cl cc, .slice none 0 0] 25) := HAb.out
  have HBc8 : Hid (Bs wb (.slice ca cl cc) (boC bs (decide (at_ % 4 = 0)))) := HBc.out
  have HK8 : Hid (Ws wb (.slice none 0 0) (boK bs (decide (at_ % 4 = 0)))) := by show Ws _ _ _; rw [HV6.out.2]; exact Ws.nil _
  have HKL : Hid (∀ k, (Value.slice none 0 0).ownBlock = some k → k ∉ [rr, rb, g, g6]) := by intro k hk; simp [Value.ownBlock] at hk
  have HO8 : Hid (Onp [rr, rb, g, g6] w wb) := HOb.out
  have tc8 := HAb.out.cell
  have HKM : Hid (0 ≤ maxLen ∧ cl ≤ maxLen) := ⟨Nat.zero_le _, HN6.out.2.2.2.2.2⟩
  obtain ⟨w8, hw8e⟩ : ∃ W, W = wb := ⟨_, rfl⟩
  rw [← hw8e] at HX8 HAg8 HA8 HBc8 HK8 HO8 tc8
  rw [← hw8e] at hwb
  clear HBc HXb HAb HAg HOb hw8e

  have HS : Hid (Calls Try.prog 18 #[.agg #[.slice ca cl cc, .slice none 0 0]] w8 fun e w' => e = .returned (.bool (smallB (boC bs (decide (at_ % 4 = 0))) (boK bs (decide (at_ % 4 = 0))))) ∧ Below w8.heap.size w8 w') := by
    rw [hSM]
    exact isSmall_any _ _ _ _ _ _ HKM.out.2 HKM.out.1
  clear hSM
  go_wp2_with fail
  rw [← hwb, ← hg6]
  clear hwb hg6
  refine Calls.mono HS.out ?_
  rintro e w9 ⟨rfl, h9⟩
  have HX9 : Hid (Rx w9 rr rb bs (bo6 bs (decide (at_ % 4 = 0)))) := HX8.out.later h9
  have HW9 : Hid (Calls Try.prog 39 #[.pointer (some ⟨rr, 0, none⟩), .bool (!smallB (boC bs (decide (at_ % 4 = 0))) (boK bs (decide (at_ % 4 = 0))))] w9 fun e w' => e = .returned (.tuple #[]) ∧ Rx w' rr rb bs (rdS bs (decide (at_ % 4 = 0))) ∧ Onl rr rb w9 w') := by
    rw [HV.out.2.2]
    exact want_any HX9.out _
  clear HX9 HS HX8 tc8
  go_wp2_with fail
  refine Calls.mono HW9.out ?_
  rintro e w10 ⟨rfl, hx10, ho10⟩
  obtain ⟨n1, n2, n3, n4, n5, n6⟩ := HN6.out
  obtain ⟨e1, e2, e3⟩ := HGE.out
  have hA10 := (HA8.out.later h9).onl ho10 (by omega) (by omega)
  have hG10 := (HAg8.out.later h9).onl ho10 (by omega) (by omega)
  have tc10 := hA10.cell
  have tg10 := hG10.cell
  have tm10 := hG10.melt
  have hon : Onp [rr, rb, g, g6] w8 ((w10.setCell ⟨g, 0, none⟩ (.slice ca cl cc)).setCell ⟨g, 1, none⟩ (.slice none 0 0)) := (((Onp.of_below h9).trans (ho10.onp (by simp) (by simp))).setCell (by simp) _ _).setCell (by simp) _ _
  have HB : Hid (Bs ((w10.setCell ⟨g, 0, none⟩ (.slice ca cl cc)).setCell ⟨g, 1, none⟩ (.slice none 0 0)) (.slice ca cl cc) (rdC bs (decide (at_ % 4 = 0)))) := by
    show Bs _ _ _
    rw [HV.out.1]
    exact HBc8.out.onp hon HK6.out
  have HKf : Hid (Ws ((w10.setCell ⟨g, 0, none⟩ (.slice ca cl cc)).setCell ⟨g, 1, none⟩ (.slice none 0 0)) (.slice none 0 0) (rdK bs (decide (at_ % 4 = 0)))) := by
    show Ws _ _ _
    rw [HV.out.2.1]
    exact HK8.out.onp hon HKL.out
  have HX : Hid (Rx ((w10.setCell ⟨g, 0, none⟩ (.slice ca cl cc)).setCell ⟨g, 1, none⟩ (.slice none 0 0)) rr rb bs (rdS bs (decide (at_ % 4 = 0)))) := hx10.below (((Below.refl g w10).setCell (by simp) _).setCell (by simp) _) e1
  have HO : Hid (Onl rr rb w ((w10.setCell ⟨g, 0, none⟩ (.slice ca cl cc)).setCell ⟨g, 1, none⟩ (.slice none 0 0))) := by
    refine (HO8.out.trans hon).onl fun k hk hlt => ?_
    simp at hk
    omega
  have hA3 := (((hG10.set 0 (.slice ca cl cc)).set 1 (.slice none 0 0))).cell
  have HFF : Hid (∀ o, ((w10.setCell ⟨g, 0, none⟩ (.slice ca cl cc)).setCell ⟨g, 1, none⟩ (.slice none 0 0)).cell? ⟨g, o, none⟩ = (#[.slice ca cl cc, .slice none 0 0] : Array Value)[o]?) := fun o => by rw [hA3]; rfl
  clear hx10 ho10 hA10 hG10 hon hA3 h9 n1 n2 n3 n4 n5 n6 e1 e2 e3 HW9
  go_wp2
  have HF := HFF.out
  exact bodyPost_ret (v := .agg #[.slice ca cl cc, .slice none 0 0]) (by simp [results, Try.results26, go_sem, HF]) rfl ⟨⟨_, _, rfl, HB.out, HKf.out⟩, HX.out, HO.out⟩

set_option maxHeartbeats 1000000 in
set_option maxRecDepth 100000 in
theorem body_11 {w : World} {rr rb : Nat} {bs : List UInt8} (h : Rx w rr rb bs (0, 0)) (at_ : Nat) (hf : boF bs = 11) :
    Calls Try.prog 26 #[.pointer (some ⟨rr, 0, none⟩), .int .i64 (at_ : Int)] w fun e w' => GotB w w' rr rb bs (decide (at_ % 4 = 0)) e := by
  have hrr := h.box.lt
  have hlt := h.lt
  obtain ⟨wa, hwa⟩ : ∃ W, W = w.alloc (.cells #[.slice none 0 0, .slice none 0 0] 25) := ⟨_, rfl⟩
  have hb0 : Below w.heap.size w wa := by rw [hwa]; exact (Below.refl _ _).alloc (Nat.le_refl _) _
  have hA0 : At wa w.heap.size #[.slice none 0 0, .slice none 0 0] 25 := by rw [hwa]; exact At.made _ _ _
  have hsa : w.heap.size + 1 ≤ wa.heap.size := by rw [hwa]; simp
  have hf2 : boF bs % 4 ≠ 2 := by omega
  have HV : Hid (rdC bs (decide (at_ % 4 = 0)) = boC bs (decide (at_ % 4 = 0)) ∧ rdK bs (decide (at_ % 4 = 0)) = boK bs (decide (at_ % 4 = 0)) ∧ rdS bs (decide (at_ % 4 = 0)) = waS (bo6 bs (decide (at_ % 4 = 0))) (!smallB (boC bs (decide (at_ % 4 = 0))) (boK bs (decide (at_ % 4 = 0))))) := ⟨by simp [rdC, hf2], by simp [rdK, hf2], by simp [rdS, hf2]⟩
  have HV6 : Hid (bo6 bs (decide (at_ % 4 = 0)) = csS bs (bo5 bs (decide (at_ % 4 = 0))) ∧ boK bs (decide (at_ % 4 = 0)) = csL bs (bo5 bs (decide (at_ % 4 = 0)))) := ⟨by simp [bo6, hf], by simp [boK, hf]⟩
  have HV2 : Hid (bo2 bs (decide (at_ % 4 = 0)) = waS (waS (bo1 bs) true) (decide (at_ % 4 = 0))) := by
    show _ = _
    unfold bo2
    rw [show (decide (boF bs = 3) || decide (boF bs = 11)) = true by simp; omega]
  have hnl : boN bs (decide (at_ % 4 = 0)) < 4294967296 := nuV_lt _ _ _ (by omega)
  obtain ⟨g, hg⟩ : ∃ g, g = w.heap.size := ⟨_, rfl⟩
  have HN : Hid (Calls Try.prog 37 #[.pointer (some ⟨rr, 0, none⟩), .int .i64 1] wa fun e w' => e = .returned (.int .i64 11) ∧ Rx w' rr rb bs (bo1 bs) ∧ Onp [rr, rb, g] w w' ∧ At w' g #[.slice none 0 0, .slice none 0 0] 25 ∧ g < w'.heap.size) := by
    refine (number8_any (h.later hb0) 1 (by omega)).mono ?_
    rintro e w' ⟨rfl, g1, g2⟩
    refine ⟨by have h0 : nuV bs (0, 0) 1 = boF bs := rfl; rw [h0, hf]; rfl, g1, (Onp.of_below hb0).trans (g2.onp (by simp) (by simp)), ?_, by have := g2.size; omega⟩
    rw [hg]
    exact hA0.onl g2 (by omega) (by omega)
  have HGE : Hid (rr < g ∧ rb < g ∧ g = w.heap.size) := ⟨by omega, by omega, hg⟩
  have HW1 : Hid (∀ W, Rx W rr rb bs (bo1 bs) → Calls Try.prog 39 #[.pointer (some ⟨rr, 0, none⟩), .bool true] W fun e w' => e = .returned (.tuple #[]) ∧ Rx w' rr rb bs (waS (bo1 bs) true) ∧ Onl rr rb W w') := fun W hW => want_any hW _
  have hd : (((at_ : Int) % 4) == 0) = (decide (at_ % 4 = 0)) := by
    by_cases h : at_ % 4 = 0
    · rw [decide_eq_true h, beq_iff_eq]; omega
    · rw [decide_eq_false h, beq_eq_false_iff_ne]; omega
  have HW2 : Hid (∀ W, Rx W rr rb bs (waS (bo1 bs) true) → Calls Try.prog 39 #[.pointer (some ⟨rr, 0, none⟩), .bool ((at_ : Int) % 4 == 0)] W fun e w' => e = .returned (.tuple #[]) ∧ Rx w' rr rb bs (bo2 bs (decide (at_ % 4 = 0))) ∧ Onl rr rb W w') := fun W hW => by
    rw [HV2.out, hd]
    exact want_any hW _
  have HZ : Hid (∀ W, Rx W rr rb bs (bo2 bs (decide (at_ % 4 = 0))) → Calls Try.prog 40 #[.pointer (some ⟨rr, 0, none⟩), .int .i64 3] W fun e w' => e = .returned (.tuple #[]) ∧ Rx w' rr rb bs (bo3 bs (decide (at_ % 4 = 0))) ∧ Onl rr rb W w') := fun W hW => zeros_any hW 3 (by omega)
  have HNL : Hid (∀ W, Rx W rr rb bs (bo3 bs (decide (at_ % 4 = 0))) → Calls Try.prog 37 #[.pointer (some ⟨rr, 0, none⟩), .int .i64 4] W fun e w' => e = .returned (.int .i64 (boN bs (decide (at_ % 4 = 0)) : Int)) ∧ Rx w' rr rb bs (bo4 bs (decide (at_ % 4 = 0))) ∧ Onl rr rb W w') := fun W hW => number8_any hW 4 (by omega)
  have HC : Hid (∀ W, Rx W rr rb bs (bo4 bs (decide (at_ % 4 = 0))) → Calls Try.prog 38 #[.pointer (some ⟨rr, 0, none⟩), .int .i64 (boN bs (decide (at_ % 4 = 0)) : Int)] W fun e w' => GotC W w' rr rb bs (bo4 bs (decide (at_ % 4 = 0))) (boN bs (decide (at_ % 4 = 0))) e) := fun W hW => code8_any hW _ hnl
  have HCc : Hid (coL bs (bo4 bs (decide (at_ % 4 = 0))) (boN bs (decide (at_ % 4 = 0))) = boC bs (decide (at_ % 4 = 0)) ∧ coS bs (bo4 bs (decide (at_ % 4 = 0))) (boN bs (decide (at_ % 4 = 0))) = bo5 bs (decide (at_ % 4 = 0))) := ⟨rfl, rfl⟩
  clear h hb0 hA0 hsa hrr hlt hd hf2 HV2
  generalize boN bs (decide (at_ % 4 = 0)) = bn at *
  clear hf
  go_enter Try.func26, Try.ntmps26
  go_wp2_with fail
  rw [← hwa, ← hg]
  clear hwa
  refine Calls.mono HN.out ?_
  rintro e w1 ⟨rfl, h1, h2, h3, h4⟩
  have HO1 : Hid (Onp [rr, rb, g] w w1) := h2
  have HA1 : Hid (At w1 g #[.slice none 0 0, .slice none 0 0] 25) := h3
  have HS1 : Hid (g < w1.heap.size) := h4
  have HX1 : Hid (Rx w1 rr rb bs (bo1 bs)) := h1
  clear HN h1 h2 h3 h4 hg
  go_wp2_with fail
  refine Calls.mono (HW1.out _ HX1.out) ?_
  rintro e w2 ⟨rfl, h2, h2o⟩
  have HX2 : Hid (Rx w2 rr rb bs (waS (bo1 bs) true)) := h2
  have HO2 : Hid (Onl rr rb w1 w2) := h2o
  clear h2 h2o HX1 HW1
  go_wp2_with fail
  refine Calls.mono (HW2.out _ HX2.out) ?_
  rintro e w3 ⟨rfl, h3, h3o⟩
  have HX3 : Hid (Rx w3 rr rb bs (bo2 bs (decide (at_ % 4 = 0)))) := h3
  have HO3 : Hid (Onl rr rb w1 w3) := HO2.out.trans h3o
  clear h3 h3o HX2 HW2 HO2
  go_wp2_with fail
  refine Calls.mono (HZ.out _ HX3.out) ?_
  rintro e w4 ⟨rfl, h4, h4o⟩
  have HX4 : Hid (Rx w4 rr rb bs (bo3 bs (decide (at_ % 4 = 0)))) := h4
  have HO4 : Hid (Onl rr rb w1 w4) := HO3.out.trans h4o
  clear h4 h4o HX3 HZ HO3
  go_wp2_with fail
  refine Calls.mono (HNL.out _ HX4.out) ?_
  rintro e w5 ⟨rfl, h5, h5o⟩
  have HX5 : Hid (Rx w5 rr rb bs (bo4 bs (decide (at_ % 4 = 0)))) := h5
  have HO5 : Hid (Onl rr rb w1 w5) := HO4.out.trans h5o
  clear h5 h5o HX4 HNL HO4
  go_wp2_with fail
  refine Calls.mono (HC.out _ HX5.out) ?_
  rintro e w6 ⟨⟨cv, rfl, hc1, hc2⟩, hx, ho⟩
  rw [HCc.out.1] at hc1
  rw [HCc.out.2] at hx
  obtain ⟨ca, cc, rfl, hl1, hl2⟩ := hc1.shape
  obtain ⟨e1, e2, e3⟩ := HGE.out
  have hO6 : Onl rr rb w1 w6 := HO5.out.trans ho
  have hs16 := hO6.size
  have hs15 := HO5.out.size
  have hs1 := HS1.out
  have hA6 := HA1.out.onl hO6 (by omega) (by omega)
  obtain ⟨cl, hcl⟩ : ∃ n, n = (boC bs (decide (at_ % 4 = 0))).length := ⟨_, rfl⟩
  rw [← hcl] at hc1 hc2 hl1 ⊢
  have HSM : Hid (∀ (m : Nat) (l : List Rw), m = l.length → smallB (boC bs (decide (at_ % 4 = 0))) l = (decide (cl < 64) && decide (m = 0))) := by
    rintro m l rfl
    rw [hcl]; rfl
  obtain ⟨g6, hg6⟩ : ∃ k, k = w6.heap.size := ⟨_, rfl⟩
  obtain ⟨wb, hwb⟩ : ∃ W, W = w6.alloc (.cells #[.slice ca cl cc, .slice none 0 0] 25) := ⟨_, rfl⟩
  have hb6 : Below w6.heap.size w6 wb := by rw [hwb]; exact (Below.refl _ _).alloc (Nat.le_refl _) _
  have hszb : g6 < wb.heap.size := by rw [hwb, hg6]; simp
  have HBc : Hid (Bs wb (.slice ca cl cc) (boC bs (decide (at_ % 4 = 0)))) := hc1.later hb6
  have HXb : Hid (Rx wb rr rb bs (bo5 bs (decide (at_ % 4 = 0)))) := hx.later hb6
  have hAb : At wb g6 #[.slice ca cl cc, .slice none 0 0] 25 := by rw [hwb, hg6]; exact At.made _ _ _
  have HAb : Hid (At wb g6 #[.slice ca cl cc, .slice none 0 0] 25) := hAb
  have HAg : Hid (At wb g #[.slice none 0 0, .slice none 0 0] 25) := hA6.later hb6
  have HOb : Hid (Onp [rr, rb, g, g6] w wb) := by
    have hq1 : Onp [rr, rb, g, g6] w w1 := ⟨HO1.out.os, HO1.out.tape, HO1.out.output, HO1.out.size, fun k hk hn => HO1.out.block k hk (by simp at hn ⊢; omega)⟩
    exact (hq1.trans (hO6.onp (by simp) (by simp))).trans (Onp.of_below hb6)
  have HK6 : Hid (boC bs (decide (at_ % 4 = 0)) ≠ [] → ∀ k, (Value.slice ca cl cc).ownBlock = some k → k ∉ [rr, rb, g, g6]) := by
    intro hne k hk
    have q1 := hc1.blk hne k hk
    have q2 := hc2 k hk
    simp
    omega
  have HN6 : Hid (rr < g6 ∧ rb < g6 ∧ g < g6 ∧ g6 < wb.heap.size ∧ w.heap.size ≤ g6 ∧ cl ≤ maxLen) := by
    refine ⟨?_, ?_, ?_, ?_, ?_, ?_⟩ <;> omega
  clear hc1 hc2 hx ho hO6 hs16 hs15 hs1 hA6 hcl hb6 hszb hAb hl1 hl2 HO1 HA1 HS1 HO5 HX5 HC e1 e2 e3
  have HKK : Hid (Calls Try.prog 41 #[.pointer (some ⟨rr, 0, none⟩)] wb fun e w' => GotK wb w' rr rb bs (bo5 bs (decide (at_ % 4 = 0))) e) := clauses_any HXb.out
  have tcb := HAb.out.cell
  go_wp2_with fail
  rw [← hwb, ← hg6]
  clear hwb hg6
  refine Calls.mono HKK.out ?_
  rintro e w7 ⟨⟨kv, rfl, hk1, hk2⟩, hx7, ho7⟩
  rw [← HV6.out.1] at hx7
  rw [← HV6.out.2] at hk1
  obtain ⟨ka, kc, rfl, hkl1, hkl2⟩ := hk1.shape
  obtain ⟨n1, n2, n3, n4, n5, n6⟩ := HN6.out
  have hA7 := HAb.out.onl ho7 (by omega) (by omega)
  have HAg7 : Hid (At w7 g #[.slice none 0 0, .slice none 0 0] 25) := HAg.out.onl ho7 (by have := HGE.out; omega) (by have := HGE.out; omega)
  obtain ⟨kl, hkl⟩ : ∃ n, n = (boK bs (decide (at_ % 4 = 0))).length := ⟨_, rfl⟩
  have hSM := HSM.out kl _ hkl
  rw [← hkl] at hk1 hk2 hkl1 ⊢
  have hA7s := hA7.set 1 (.slice ka kl kc)
  have hA8 : At (w7.setCell ⟨g6, 1, none⟩ (.slice ka kl kc)) g6 #[.slice ca cl cc, .slice ka kl kc] 25 := hA7s
  have hon7 : Onp [rr, rb, g, g6] w7 (w7.setCell ⟨g6, 1, none⟩ (.slice ka kl kc)) := (Onp.refl _ _).setCell (by simp) _ _
  have hob7 : Onp [rr, rb, g, g6] wb w7 := ho7.onp (by simp) (by simp)
  have hw8 : Below g6 w7 (w7.setCell ⟨g6, 1, none⟩ (.slice ka kl kc)) := (Below.refl g6 w7).setCell (by simp) _
  have HX8 : Hid (Rx (w7.setCell ⟨g6, 1, none⟩ (.slice ka kl kc)) rr rb bs (bo6 bs (decide (at_ % 4 = 0)))) := hx7.below hw8 n1
  have HAg8 : Hid (At (w7.setCell ⟨g6, 1, none⟩ (.slice ka kl kc)) g #[.slice none 0 0, .slice none 0 0] 25) := HAg7.out.below hw8 n3
  have HA8 : Hid (At (w7.setCell ⟨g6, 1, none⟩ (.slice ka kl kc)) g6 #[.slice ca cl cc, .slice ka kl kc] 25) := hA8
  have HBc8 : Hid (Bs (w7.setCell ⟨g6, 1, none⟩ (.slice ka kl kc)) (.slice ca cl cc) (boC bs (decide (at_ % 4 = 0)))) := HBc.out.onp (hob7.trans hon7) HK6.out
  have HKL : Hid (∀ k, (Value.slice ka kl kc).ownBlock = some k → k ∉ [rr, rb, g, g6]) := by
    intro k hk
    have q2 := hk2 k hk
    have q3 := HGE.out
    simp
    omega
  have HK8 : Hid (Ws (w7.setCell ⟨g6, 1, none⟩ (.slice ka kl kc)) (.slice ka kl kc) (boK bs (decide (at_ % 4 = 0)))) := hk1.onp hon7 HKL.out
  have HO8 : Hid (Onp [rr, rb, g, g6] w (w7.setCell ⟨g6, 1, none⟩ (.slice ka kl kc))) := (HOb.out.trans hob7).trans hon7
  have tc7 := hA7.cell
  have tm7 := hA7.melt
  have tc8 := hA8.cell
  have HKM : Hid (kl ≤ maxLen ∧ cl ≤ maxLen) := ⟨by omega, n6⟩
  obtain ⟨w8, hw8e⟩ : ∃ W, W = w7.setCell ⟨g6, 1, none⟩ (.slice ka kl kc) := ⟨_, rfl⟩
  rw [← hw8e] at HX8 HAg8 HA8 HBc8 HK8 HO8 tc8
  clear hk1 hk2 hkl1 hkl2 hx7 ho7 hA7 HAg7 hkl hA7s hA8 hon7 hob7 hw8 tcb HBc HXb HAb HAg HOb n1 n2 n3 n4 n5 n6 HKK

  have HS : Hid (Calls Try.prog 18 #[.agg #[.slice ca cl cc, .slice ka kl kc]] w8 fun e w' => e = .returned (.bool (smallB (boC bs (decide (at_ % 4 = 0))) (boK bs (decide (at_ % 4 = 0))))) ∧ Below w8.heap.size w8 w') := by
    rw [hSM]
    exact isSmall_any _ _ _ _ _ _ HKM.out.2 HKM.out.1
  clear hSM
  go_wp2_with fail
  rw [← hw8e]
  clear hw8e tc7 tm7
  refine Calls.mono HS.out ?_
  rintro e w9 ⟨rfl, h9⟩
  have HX9 : Hid (Rx w9 rr rb bs (bo6 bs (decide (at_ % 4 = 0)))) := HX8.out.later h9
  have HW9 : Hid (Calls Try.prog 39 #[.pointer (some ⟨rr, 0, none⟩), .bool (!smallB (boC bs (decide (at_ % 4 = 0))) (boK bs (decide (at_ % 4 = 0))))] w9 fun e w' => e = .returned (.tuple #[]) ∧ Rx w' rr rb bs (rdS bs (decide (at_ % 4 = 0))) ∧ Onl rr rb w9 w') := by
    rw [HV.out.2.2]
    exact want_any HX9.out _
  clear HX9 HS HX8 tc8
  go_wp2_with fail
  refine Calls.mono HW9.out ?_
  rintro e w10 ⟨rfl, hx10, ho10⟩
  obtain ⟨n1, n2, n3, n4, n5, n6⟩ := HN6.out
  obtain ⟨e1, e2, e3⟩ := HGE.out
  have hA10 := (HA8.out.later h9).onl ho10 (by omega) (by omega)
  have hG10 := (HAg8.out.later h9).onl ho10 (by omega) (by omega)
  have tc10 := hA10.cell
  have tg10 := hG10.cell
  have tm10 := hG10.melt
  have hon : Onp [rr, rb, g, g6] w8 ((w10.setCell ⟨g, 0, none⟩ (.slice ca cl cc)).setCell ⟨g, 1, none⟩ (.slice ka kl kc)) := (((Onp.of_below h9).trans (ho10.onp (by simp) (by simp))).setCell (by simp) _ _).setCell (by simp) _ _
  have HB : Hid (Bs ((w10.setCell ⟨g, 0, none⟩ (.slice ca cl cc)).setCell ⟨g, 1, none⟩ (.slice ka kl kc)) (.slice ca cl cc) (rdC bs (decide (at_ % 4 = 0)))) := by
    show Bs _ _ _
    rw [HV.out.1]
    exact HBc8.out.onp hon HK6.out
  have HKf : Hid (Ws ((w10.setCell ⟨g, 0, none⟩ (.slice ca cl cc)).setCell ⟨g, 1, none⟩ (.slice ka kl kc)) (.slice ka kl kc) (rdK bs (decide (at_ % 4 = 0)))) := by
    show Ws _ _ _
    rw [HV.out.2.1]
    exact HK8.out.onp hon HKL.out
  have HX : Hid (Rx ((w10.setCell ⟨g, 0, none⟩ (.slice ca cl cc)).setCell ⟨g, 1, none⟩ (.slice ka kl kc)) rr rb bs (rdS bs (decide (at_ % 4 = 0)))) := hx10.below (((Below.refl g w10).setCell (by simp) _).setCell (by simp) _) e1
  have HO : Hid (Onl rr rb w ((w10.setCell ⟨g, 0, none⟩ (.slice ca cl cc)).setCell ⟨g, 1, none⟩ (.slice ka kl kc))) := by
    refine (HO8.out.trans hon).onl fun k hk hlt => ?_
    simp at hk
    omega
  have hA3 := (((hG10.set 0 (.slice ca cl cc)).set 1 (.slice ka kl kc))).cell
  have HFF : Hid (∀ o, ((w10.setCell ⟨g, 0, none⟩ (.slice ca cl cc)).setCell ⟨g, 1, none⟩ (.slice ka kl kc)).cell? ⟨g, o, none⟩ = (#[.slice ca cl cc, .slice ka kl kc] : Array Value)[o]?) := fun o => by rw [hA3]; rfl
  clear hx10 ho10 hA10 hG10 hon hA3 h9 n1 n2 n3 n4 n5 n6 e1 e2 e3 HW9
  go_wp2
  have HF := HFF.out
  exact bodyPost_ret (v := .agg #[.slice ca cl cc, .slice ka kl kc]) (by simp [results, Try.results26, go_sem, HF]) rfl ⟨⟨_, _, rfl, HB.out, HKf.out⟩, HX.out, HO.out⟩

set_option maxHeartbeats 1000000 in
set_option maxRecDepth 100000 in
theorem body_bad {w : World} {rr rb : Nat} {bs : List UInt8} (h : Rx w rr rb bs (0, 0)) (at_ : Nat) (hf : boF bs ≠ 3 ∧ boF bs ≠ 11 ∧ boF bs % 4 ≠ 2) :
    Calls Try.prog 26 #[.pointer (some ⟨rr, 0, none⟩), .int .i64 (at_ : Int)] w fun e w' => GotB w w' rr rb bs (decide (at_ % 4 = 0)) e := by
  have hrr := h.box.lt
  have hlt := h.lt
  obtain ⟨wa, hwa⟩ : ∃ W, W = w.alloc (.cells #[.slice none 0 0, .slice none 0 0] 25) := ⟨_, rfl⟩
  have hb0 : Below w.heap.size w wa := by rw [hwa]; exact (Below.refl _ _).alloc (Nat.le_refl _) _
  have hA0 : At wa w.heap.size #[.slice none 0 0, .slice none 0 0] 25 := by rw [hwa]; exact At.made _ _ _
  have hsa : w.heap.size + 1 ≤ wa.heap.size := by rw [hwa]; simp
  have hf2 : boF bs % 4 ≠ 2 := by omega
  have HV : Hid (rdC bs (decide (at_ % 4 = 0)) = boC bs (decide (at_ % 4 = 0)) ∧ rdK bs (decide (at_ % 4 = 0)) = boK bs (decide (at_ % 4 = 0)) ∧ rdS bs (decide (at_ % 4 = 0)) = waS (bo6 bs (decide (at_ % 4 = 0))) (!smallB (boC bs (decide (at_ % 4 = 0))) (boK bs (decide (at_ % 4 = 0))))) := ⟨by simp [rdC, hf2], by simp [rdK, hf2], by simp [rdS, hf2]⟩
  have HV6 : Hid (bo6 bs (decide (at_ % 4 = 0)) = bo5 bs (decide (at_ % 4 = 0)) ∧ boK bs (decide (at_ % 4 = 0)) = []) := by
    have hf11 : ¬ boF bs = 11 := by omega
    exact ⟨by simp [bo6, hf11], by simp [boK, hf11]⟩
  have HV2 : Hid (bo2 bs (decide (at_ % 4 = 0)) = waS (waS (bo1 bs) false) (decide (at_ % 4 = 0))) := by
    show _ = _
    unfold bo2
    rw [show (decide (boF bs = 3) || decide (boF bs = 11)) = false by simp; omega]
  have hnl : boN bs (decide (at_ % 4 = 0)) < 4294967296 := nuV_lt _ _ _ (by omega)
  obtain ⟨g, hg⟩ : ∃ g, g = w.heap.size := ⟨_, rfl⟩
  have HN : Hid (Calls Try.prog 37 #[.pointer (some ⟨rr, 0, none⟩), .int .i64 1] wa fun e w' => e = .returned (.int .i64 (boF bs : Int)) ∧ Rx w' rr rb bs (bo1 bs) ∧ Onp [rr, rb, g] w w' ∧ At w' g #[.slice none 0 0, .slice none 0 0] 25 ∧ g < w'.heap.size) := by
    refine (number8_any (h.later hb0) 1 (by omega)).mono ?_
    rintro e w' ⟨rfl, g1, g2⟩
    refine ⟨rfl, g1, (Onp.of_below hb0).trans (g2.onp (by simp) (by simp)), ?_, by have := g2.size; omega⟩
    rw [hg]
    exact hA0.onl g2 (by omega) (by omega)
  have HGE : Hid (rr < g ∧ rb < g ∧ g = w.heap.size) := ⟨by omega, by omega, hg⟩
  have HW1 : Hid (∀ W, Rx W rr rb bs (bo1 bs) → Calls Try.prog 39 #[.pointer (some ⟨rr, 0, none⟩), .bool false] W fun e w' => e = .returned (.tuple #[]) ∧ Rx w' rr rb bs (waS (bo1 bs) false) ∧ Onl rr rb W w') := fun W hW => want_any hW _
  have hd : (((at_ : Int) % 4) == 0) = (decide (at_ % 4 = 0)) := by
    by_cases h : at_ % 4 = 0
    · rw [decide_eq_true h, beq_iff_eq]; omega
    · rw [decide_eq_false h, beq_eq_false_iff_ne]; omega
  have HW2 : Hid (∀ W, Rx W rr rb bs (waS (bo1 bs) false) → Calls Try.prog 39 #[.pointer (some ⟨rr, 0, none⟩), .bool ((at_ : Int) % 4 == 0)] W fun e w' => e = .returned (.tuple #[]) ∧ Rx w' rr rb bs (bo2 bs (decide (at_ % 4 = 0))) ∧ Onl rr rb W w') := fun W hW => by
    rw [HV2.out, hd]
    exact want_any hW _
  have HZ : Hid (∀ W, Rx W rr rb bs (bo2 bs (decide (at_ % 4 = 0))) → Calls Try.prog 40 #[.pointer (some ⟨rr, 0, none⟩), .int .i64 3] W fun e w' => e = .returned (.tuple #[]) ∧ Rx w' rr rb bs (bo3 bs (decide (at_ % 4 = 0))) ∧ Onl rr rb W w') := fun W hW => zeros_any hW 3 (by omega)
  have HNL : Hid (∀ W, Rx W rr rb bs (bo3 bs (decide (at_ % 4 = 0))) → Calls Try.prog 37 #[.pointer (some ⟨rr, 0, none⟩), .int .i64 4] W fun e w' => e = .returned (.int .i64 (boN bs (decide (at_ % 4 = 0)) : Int)) ∧ Rx w' rr rb bs (bo4 bs (decide (at_ % 4 = 0))) ∧ Onl rr rb W w') := fun W hW => number8_any hW 4 (by omega)
  have HC : Hid (∀ W, Rx W rr rb bs (bo4 bs (decide (at_ % 4 = 0))) → Calls Try.prog 38 #[.pointer (some ⟨rr, 0, none⟩), .int .i64 (boN bs (decide (at_ % 4 = 0)) : Int)] W fun e w' => GotC W w' rr rb bs (bo4 bs (decide (at_ % 4 = 0))) (boN bs (decide (at_ % 4 = 0))) e) := fun W hW => code8_any hW _ hnl
  have HCc : Hid (coL bs (bo4 bs (decide (at_ % 4 = 0))) (boN bs (decide (at_ % 4 = 0))) = boC bs (decide (at_ % 4 = 0)) ∧ coS bs (bo4 bs (decide (at_ % 4 = 0))) (boN bs (decide (at_ % 4 = 0))) = bo5 bs (decide (at_ % 4 = 0))) := ⟨rfl, rfl⟩
  clear h hb0 hA0 hsa hrr hlt hd hf2 HV2
  generalize boN bs (decide (at_ % 4 = 0)) = bn at *
  obtain ⟨hf3, hf11, hf2⟩ := hf
  generalize boF bs = f at *
  have i1 : ((f : Int) == 3) = false := by rw [beq_eq_false_iff_ne]; omega
  have i2 : ((f : Int) == 11) = false := by rw [beq_eq_false_iff_ne]; omega
  have i3 : ((f : Int) % 4 == 2) = false := by rw [beq_eq_false_iff_ne]; omega
  clear hf3 hf11 hf2
  go_enter Try.func26, Try.ntmps26
  go_wp2_with fail
  rw [← hwa, ← hg]
  clear hwa
  refine Calls.mono HN.out ?_
  rintro e w1 ⟨rfl, h1, h2, h3, h4⟩
  have HO1 : Hid (Onp [rr, rb, g] w w1) := h2
  have HA1 : Hid (At w1 g #[.slice none 0 0, .slice none 0 0] 25) := h3
  have HS1 : Hid (g < w1.heap.size) := h4
  have HX1 : Hid (Rx w1 rr rb bs (bo1 bs)) := h1
  clear HN h1 h2 h3 h4 hg
  go_wp2_with fail
  refine Calls.mono (HW1.out _ HX1.out) ?_
  rintro e w2 ⟨rfl, h2, h2o⟩
  have HX2 : Hid (Rx w2 rr rb bs (waS (bo1 bs) false)) := h2
  have HO2 : Hid (Onl rr rb w1 w2) := h2o
  clear h2 h2o HX1 HW1
  go_wp2_with fail
  refine Calls.mono (HW2.out _ HX2.out) ?_
  rintro e w3 ⟨rfl, h3, h3o⟩
  have HX3 : Hid (Rx w3 rr rb bs (bo2 bs (decide (at_ % 4 = 0)))) := h3
  have HO3 : Hid (Onl rr rb w1 w3) := HO2.out.trans h3o
  clear h3 h3o HX2 HW2 HO2
  go_wp2_with fail
  refine Calls.mono (HZ.out _ HX3.out) ?_
  rintro e w4 ⟨rfl, h4, h4o⟩
  have HX4 : Hid (Rx w4 rr rb bs (bo3 bs (decide (at_ % 4 = 0)))) := h4
  have HO4 : Hid (Onl rr rb w1 w4) := HO3.out.trans h4o
  clear h4 h4o HX3 HZ HO3
  go_wp2_with fail
  refine Calls.mono (HNL.out _ HX4.out) ?_
  rintro e w5 ⟨rfl, h5, h5o⟩
  have HX5 : Hid (Rx w5 rr rb bs (bo4 bs (decide (at_ % 4 = 0)))) := h5
  have HO5 : Hid (Onl rr rb w1 w5) := HO4.out.trans h5o
  clear h5 h5o HX4 HNL HO4
  go_wp2_with fail
  refine Calls.mono (HC.out _ HX5.out) ?_
  rintro e w6 ⟨⟨cv, rfl, hc1, hc2⟩, hx, ho⟩
  rw [HCc.out.1] at hc1
  rw [HCc.out.2] at hx
  obtain ⟨ca, cc, rfl, hl1, hl2⟩ := hc1.shape
  obtain ⟨e1, e2, e3⟩ := HGE.out
  have hO6 : Onl rr rb w1 w6 := HO5.out.trans ho
  have hs16 := hO6.size
  have hs15 := HO5.out.size
  have hs1 := HS1.out
  have hA6 := HA1.out.onl hO6 (by omega) (by omega)
  obtain ⟨cl, hcl⟩ : ∃ n, n = (boC bs (decide (at_ % 4 = 0))).length := ⟨_, rfl⟩
  rw [← hcl] at hc1 hc2 hl1 ⊢
  have HSM : Hid (∀ (m : Nat) (l : List Rw), m = l.length → smallB (boC bs (decide (at_ % 4 = 0))) l = (decide (cl < 64) && decide (m = 0))) := by
    rintro m l rfl
    rw [hcl]; rfl
  obtain ⟨g6, hg6⟩ : ∃ k, k = w6.heap.size := ⟨_, rfl⟩
  obtain ⟨wb, hwb⟩ : ∃ W, W = w6.alloc (.cells #[.slice ca cl cc, .slice none 0 0] 25) := ⟨_, rfl⟩
  have hb6 : Below w6.heap.size w6 wb := by rw [hwb]; exact (Below.refl _ _).alloc (Nat.le_refl _) _
  have hszb : g6 < wb.heap.size := by rw [hwb, hg6]; simp
  have HBc : Hid (Bs wb (.slice ca cl cc) (boC bs (decide (at_ % 4 = 0)))) := hc1.later hb6
  have HXb : Hid (Rx wb rr rb bs (bo5 bs (decide (at_ % 4 = 0)))) := hx.later hb6
  have hAb : At wb g6 #[.slice ca cl cc, .slice none 0 0] 25 := by rw [hwb, hg6]; exact At.made _ _ _
  have HAb : Hid (At wb g6 #[.slice ca cl cc, .slice none 0 0] 25) := hAb
  have HAg : Hid (At wb g #[.slice none 0 0, .slice none 0 0] 25) := hA6.later hb6
  have HOb : Hid (Onp [rr, rb, g, g6] w wb) := by
    have hq1 : Onp [rr, rb, g, g6] w w1 := ⟨HO1.out.os, HO1.out.tape, HO1.out.output, HO1.out.size, fun k hk hn => HO1.out.block k hk (by simp at hn ⊢; omega)⟩
    exact (hq1.trans (hO6.onp (by simp) (by simp))).trans (Onp.of_below hb6)
  have HK6 : Hid (boC bs (decide (at_ % 4 = 0)) ≠ [] → ∀ k, (Value.slice ca cl cc).ownBlock = some k → k ∉ [rr, rb, g, g6]) := by
    intro hne k hk
    have q1 := hc1.blk hne k hk
    have q2 := hc2 k hk
    simp
    omega
  have HN6 : Hid (rr < g6 ∧ rb < g6 ∧ g < g6 ∧ g6 < wb.heap.size ∧ w.heap.size ≤ g6 ∧ cl ≤ maxLen) := by
    refine ⟨?_, ?_, ?_, ?_, ?_, ?_⟩ <;> omega
  clear hc1 hc2 hx ho hO6 hs16 hs15 hs1 hA6 hcl hb6 hszb hAb hl1 hl2 HO1 HA1 HS1 HO5 HX5 HC e1 e2 e3
  have hSM := HSM.out 0 _ (show 0 = (boK bs (decide (at_ % 4 = 0))).length by rw [HV6.out.2]; rfl)
  have HX8 : Hid (Rx wb rr rb bs (bo6 bs (decide (at_ % 4 = 0)))) := by show Rx _ _ _ _ _; rw [HV6.out.1]; exact HXb.out
  have HAg8 : Hid (At wb g #[.slice none 0 0, .slice none 0 0] 25) := HAg.out
  have HA8 : Hid (At wb g6 #[.slice ca cl cc, .slice none 0 0] 25) := HAb.out
  have HBc8 : Hid (Bs wb (.slice ca cl cc) (boC bs (decide (at_ % 4 = 0)))) := HBc.out
  have HK8 : Hid (Ws wb (.slice none 0 0) (boK bs (decide (at_ % 4 = 0)))) := by show Ws _ _ _; rw [HV6.out.2]; exact Ws.nil _
  have HKL : Hid (∀ k, (Value.slice none 0 0).ownBlock = some k → k ∉ [rr, rb, g, g6]) := by intro k hk; simp [Value.ownBlock] at hk
  have HO8 : Hid (Onp [rr, rb, g, g6] w wb) := HOb.out
  have tc8 := HAb.out.cell
  have HKM : Hid (0 ≤ maxLen ∧ cl ≤ maxLen) := ⟨Nat.zero_le _, HN6.out.2.2.2.2.2⟩
  obtain ⟨w8, hw8e⟩ : ∃ W, W = wb := ⟨_, rfl⟩
  rw [← hw8e] at HX8 HAg8 HA8 HBc8 HK8 HO8 tc8
  rw [← hw8e] at hwb
  clear HBc HXb HAb HAg HOb hw8e

  have HS : Hid (Calls Try.prog 18 #[.agg #[.slice ca cl cc, .slice none 0 0]] w8 fun e w' => e = .returned (.bool (smallB (boC bs (decide (at_ % 4 = 0))) (boK bs (decide (at_ % 4 = 0))))) ∧ Below w8.heap.size w8 w') := by
    rw [hSM]
    exact isSmall_any _ _ _ _ _ _ HKM.out.2 HKM.out.1
  clear hSM
  go_wp2_with fail
  rw [← hwb, ← hg6]
  clear hwb hg6
  refine Calls.mono HS.out ?_
  rintro e w9 ⟨rfl, h9⟩
  have HX9 : Hid (Rx w9 rr rb bs (bo6 bs (decide (at_ % 4 = 0)))) := HX8.out.later h9
  have HW9 : Hid (Calls Try.prog 39 #[.pointer (some ⟨rr, 0, none⟩), .bool (!smallB (boC bs (decide (at_ % 4 = 0))) (boK bs (decide (at_ % 4 = 0))))] w9 fun e w' => e = .returned (.tuple #[]) ∧ Rx w' rr rb bs (rdS bs (decide (at_ % 4 = 0))) ∧ Onl rr rb w9 w') := by
    rw [HV.out.2.2]
    exact want_any HX9.out _
  clear HX9 HS HX8 tc8
  go_wp2_with fail
  refine Calls.mono HW9.out ?_
  rintro e w10 ⟨rfl, hx10, ho10⟩
  obtain ⟨n1, n2, n3, n4, n5, n6⟩ := HN6.out
  obtain ⟨e1, e2, e3⟩ := HGE.out
  have hA10 := (HA8.out.later h9).onl ho10 (by omega) (by omega)
  have hG10 := (HAg8.out.later h9).onl ho10 (by omega) (by omega)
  have tc10 := hA10.cell
  have tg10 := hG10.cell
  have tm10 := hG10.melt
  have hon : Onp [rr, rb, g, g6] w8 ((w10.setCell ⟨g, 0, none⟩ (.slice ca cl cc)).setCell ⟨g, 1, none⟩ (.slice none 0 0)) := (((Onp.of_below h9).trans (ho10.onp (by simp) (by simp))).setCell (by simp) _ _).setCell (by simp) _ _
  have HB : Hid (Bs ((w10.setCell ⟨g, 0, none⟩ (.slice ca cl cc)).setCell ⟨g, 1, none⟩ (.slice none 0 0)) (.slice ca cl cc) (rdC bs (decide (at_ % 4 = 0)))) := by
    show Bs _ _ _
    rw [HV.out.1]
    exact HBc8.out.onp hon HK6.out
  have HKf : Hid (Ws ((w10.setCell ⟨g, 0, none⟩ (.slice ca cl cc)).setCell ⟨g, 1, none⟩ (.slice none 0 0)) (.slice none 0 0) (rdK bs (decide (at_ % 4 = 0)))) := by
    show Ws _ _ _
    rw [HV.out.2.1]
    exact HK8.out.onp hon HKL.out
  have HX : Hid (Rx ((w10.setCell ⟨g, 0, none⟩ (.slice ca cl cc)).setCell ⟨g, 1, none⟩ (.slice none 0 0)) rr rb bs (rdS bs (decide (at_ % 4 = 0)))) := hx10.below (((Below.refl g w10).setCell (by simp) _).setCell (by simp) _) e1
  have HO : Hid (Onl rr rb w ((w10.setCell ⟨g, 0, none⟩ (.slice ca cl cc)).setCell ⟨g, 1, none⟩ (.slice none 0 0))) := by
    refine (HO8.out.trans hon).onl fun k hk hlt => ?_
    simp at hk
    omega
  have hA3 := (((hG10.set 0 (.slice ca cl cc)).set 1 (.slice none 0 0))).cell
  have HFF : Hid (∀ o, ((w10.setCell ⟨g, 0, none⟩ (.slice ca cl cc)).setCell ⟨g, 1, none⟩ (.slice none 0 0)).cell? ⟨g, o, none⟩ = (#[.slice ca cl cc, .slice none 0 0] : Array Value)[o]?) := fun o => by rw [hA3]; rfl
  clear hx10 ho10 hA10 hG10 hon hA3 h9 n1 n2 n3 n4 n5 n6 e1 e2 e3 HW9
  go_wp2
  have HF := HFF.out
  exact bodyPost_ret (v := .agg #[.slice ca cl cc, .slice none 0 0]) (by simp [results, Try.results26, go_sem, HF]) rfl ⟨⟨_, _, rfl, HB.out, HKf.out⟩, HX.out, HO.out⟩

theorem body_any {w : World} {rr rb : Nat} {bs : List UInt8} (h : Rx w rr rb bs (0, 0)) (at_ : Nat) :
    Calls Try.prog 26 #[.pointer (some ⟨rr, 0, none⟩), .int .i64 (at_ : Int)] w fun e w' => GotB w w' rr rb bs (decide (at_ % 4 = 0)) e := by
  by_cases h2 : boF bs % 4 = 2
  · exact body_small h at_ _ h2
  · by_cases h3 : boF bs = 3
    · exact body_3 h at_ h3
    · by_cases h11 : boF bs = 11
      · exact body_11 h at_ h11
      · exact body_bad h at_ ⟨h3, h11, h2⟩

end Go.Proofs.Ytfgjlljbpcombaa
