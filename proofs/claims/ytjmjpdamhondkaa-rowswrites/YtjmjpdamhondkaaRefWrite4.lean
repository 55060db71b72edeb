
/- Write of layer 4's references. -/
import Derived.Test.YtjmjpdamhondkaaRefWidth4
import Derived.Test.YtjmjpdamhondkaaRowsBackW
namespace Go.Proofs.Ytjmjpdamhondkaa
set_option linter.unusedVariables false
set_option linter.unusedSimpArgs false
open Go.RowKit Go.Maps

/-- What Write answers. -/
def WritePt (T : Tabs) (e : Ending) (w' : World) : Prop := ∃ bv, e = .returned (.tuple #[bv, .int .i64 ((writeR T).2 : Int)]) ∧ Bs w' bv (writeR T).1
theorem WritePt.err {T : Tabs} {k : Nat} (h : writeR T = ([], k)) (w' : World) (y : Int) (hy : y = k) : WritePt T (.returned (.tuple #[.slice none 0 0, .int .i64 y])) w' := by
  subst hy
  exact ⟨_, by rw [h], by rw [h]; exact Bs.nil _⟩
theorem write_no6 {T : Tabs} (h : T.rows.length ≠ 6) : writeR T = ([], 17) := by unfold writeR; rw [if_pos (.inl h)]
theorem write_noS {T : Tabs} (h : shaped 0 T.rows = false) : writeR T = ([], 17) := by unfold writeR; rw [if_pos (.inr h)]
theorem write_noE {T : Tabs} (h6 : T.rows.length = 6) (hs : shaped 0 T.rows = true) (h : fitsR T.entry 2 = false) : writeR T = ([], 3) := by unfold writeR; rw [if_neg (by simp [h6, hs]), if_pos (.inl h)]
theorem write_noF {T : Tabs} (h6 : T.rows.length = 6) (hs : shaped 0 T.rows = true) (h : fitting 0 T.rows = false) : writeR T = ([], 3) := by unfold writeR; rw [if_neg (by simp [h6, hs]), if_pos (.inr h)]
theorem write_is {T : Tabs} (h6 : T.rows.length = 6) (hs : shaped 0 T.rows = true) (he : fitsR T.entry 2 = true) (hf : fitting 0 T.rows = true) : writeR T = (writeB T, 0) := by unfold writeR; rw [if_neg (by simp [h6, hs]), if_neg (by simp [he, hf])]

theorem refWrite_short {w : World} {v : Value} {T : List (List (List Int))} (en : Int) (hv : In3 w v T) (h6 : T.length ≠ 6) :
    Calls Try.prog 15 #[.agg #[.int .i64 en, v]] w fun e w' => WritePt ⟨en, T⟩ e w' ∧ Below w.heap.size w w' := by
  have HE : Hid (writeR ⟨en, T⟩ = ([], 17)) := write_no6 h6
  obtain ⟨a, c, rfl, hc1, hc2⟩ := Ns.shape hv
  unfold maxLen at hc2
  have hne : ((T.length : Int) != 6) = true := by rw [bne_iff_ne]; omega
  clear hv h6
  go_enter Try.func15, Try.ntmps15
  go_wp2_with fail
  go_ret2
  exact ⟨WritePt.err HE.out _ _ rfl, (Below.refl _ _).alloc (Nat.le_refl _) _⟩

theorem tabs_le100 {T : List (List (List Int))} (hs : ∀ i (hi : i < T.length), ∀ row ∈ T[i], row.length = colsR i) (hf : ∀ i (hi : i < T.length), (T[i]).length ≤ 100) : ∀ i, i ≤ T.length → (tabsB 0 (T.take i)).length ≤ 2400 * i
  | 0, _ => by simp [tabsB]
  | i + 1, h => by
    have ih := tabs_le100 hs hf i (by omega)
    have h1 := tabB_le (hs i (by omega))
    have h2 := hf i (by omega)
    rw [tabs_step (by omega), List.length_append]; omega

set_option maxRecDepth 100000 in
set_option maxHeartbeats 4000000 in
theorem refWrite_six {w : World} {v : Value} {T : List (List (List Int))} (en : Int) (hv : In3 w v T) (h6 : T.length = 6) (hsm : SmallT T) (hen : en < 9223372036854775808) (h100 : ∀ l ∈ T, l.length ≤ 100) :
    Calls Try.prog 15 #[.agg #[.int .i64 en, v]] w fun e w' => WritePt ⟨en, T⟩ e w' ∧ Below w.heap.size w w' := by
  have H6 : Hid (T.length = 6) := h6
  have H100 : Hid (∀ i (hi : i < T.length), (T[i]).length ≤ 100) := fun i hi => h100 _ (List.getElem_mem _)
  obtain ⟨b, off, c, -, -, rfl, -⟩ := In3.tab hv 0 (by omega)
  have HV : Hid (∀ i (hi : i < T.length), ∃ a1 p1, w.cell? ⟨b, off + i, none⟩ = some (.slice a1 (T[i]).length p1) ∧ In2 w (.slice a1 (T[i]).length p1) T[i]) := fun i hi => by
    obtain ⟨b', off', c', a1, p1, he, h1, h2, -⟩ := In3.tab hv i hi
    simp only [Value.slice.injEq, Option.some.injEq, Addr.mk.injEq, and_true] at he
    obtain ⟨⟨rfl, rfl⟩, -, rfl⟩ := he
    exact ⟨a1, p1, h1, h2⟩
  rw [h6] at hv ⊢
  obtain ⟨w1, hw1⟩ : ∃ w1, w1 = w.alloc (Obj.cells #[.int .i64 en, .slice (some ⟨b, off, none⟩) 6 c] 26) := ⟨_, rfl⟩
  have hb1 : Below w.heap.size w w1 := by rw [hw1]; exact (Below.refl _ _).alloc (Nat.le_refl _) _
  have hs1 : w1.heap.size = w.heap.size + 1 := by rw [hw1]; simp
  have hx1 : w1.heap[w.heap.size]? = some (Obj.cells #[.int .i64 en, .slice (some ⟨b, off, none⟩) 6 c] 26 (0, 0)) := by rw [hw1]; exact heap_alloc_new w _
  have HX : Hid (∀ W, Below w1.heap.size w1 W → W.cell? ⟨w.heap.size, 0, none⟩ = some (.int .i64 en) ∧ W.cell? ⟨w.heap.size, 1, none⟩ = some (.slice (some ⟨b, off, none⟩) 6 c) ∧ Below w.heap.size w W) := fun W hW => by
    obtain ⟨x0, x1⟩ := box2 ((hW.block _ (by omega)).trans hx1)
    exact ⟨x0, x1, hb1.trans (hW.mono (by omega))⟩
  have HW1 : Hid (w1 = w.alloc (Obj.cells #[.int .i64 en, .slice (some ⟨b, off, none⟩) 6 c] 26)) := hw1
  have HB1 : Hid (Below w.heap.size w w1) := hb1
  have HSM : Hid (SmallT T) := hsm
  obtain ⟨x0, x1⟩ := box2 hx1
  clear hv h6 hsm h100 hw1 hb1 hx1 hs1
  rw [HW1.out] at x0 x1
  go_enter Try.func15, Try.ntmps15
  go_wp2_with fail
  rw [← HW1.out] at x0 x1 ⊢
  go_loopw [4] (fun x wr => ∃ i n : Nat, i ≤ 6 ∧ x = .int .i64 i ∧ wr = w1.drewN n ∧ ∀ j (h : j < T.length), j < i → ∀ row ∈ T[j], row.length = colsR j) (fun x _ => 6 - (intOf x).toNat)
  case atStart => exact ⟨0, 0, by omega, rfl, rfl, fun j _ h => by omega⟩
  case round =>
    obtain ⟨i, n, hi, rfl, rfl, hd⟩ := hrel
    have HD : Hid (∀ j (h : j < T.length), j < i → ∀ row ∈ T[j], row.length = colsR j) := hd
    clear hd
    by_cases hlt : i < 6
    · have hiT : i < T.length := by have := H6.out; omega
      obtain ⟨a1, p1, hcell0, hin⟩ := HV.out i hiT
      have hcell := cell_later hcell0 HB1.out
      have HIN : Hid (In2 w1 (.slice a1 (T[i]).length p1) T[i]) := hin.later HB1.out
      have hl100 := H100.out i hiT
      obtain ⟨l, hl⟩ : ∃ l, l = T[i] := ⟨_, rfl⟩
      have HTL : Hid (l = T[i]) := hl
      rw [← hl] at hcell HIN hl100
      clear hl hin hcell0
      have hd6 : decide ((i : Int) < 6) = true := by rw [decide_eq_true_eq]; omega
      have hii : (i : Int) < 6 := by omega
      go_wp2_with fail
      go_loopw [5] (fun x wr => ∃ k n : Nat, k ≤ l.length ∧ x = .int .i64 k ∧ wr = w1.drewN n ∧ ∀ row ∈ l.take k, row.length = colsR i) (fun x _ => l.length - (intOf x).toNat)
      case atStart => exact ⟨0, _, by omega, rfl, rfl, by simp⟩
      case round =>
        obtain ⟨k, nn, hk, rfl, rfl, hr⟩ := hrel
        have HR : Hid (∀ row ∈ l.take k, row.length = colsR i) := hr
        clear hr
        by_cases hkl : k < l.length
        · obtain ⟨b2, off2, c2, a2, cp2, he2, hcell2, hin2, hlm2⟩ := HIN.out.row k hkl
          simp only [Value.slice.injEq] at he2
          obtain ⟨rfl, -, rfl⟩ := he2
          clear hin2
          unfold maxLen at hlm2
          have HCL : Hid (∀ W, Calls Try.prog 22 #[.int .i64 (i : Int)] W fun e w' => e = .returned (.int .i64 (colsR i : Int)) ∧ w' = W) := fun W => by
            have := refColumns_any (i : Int) W
            rw [colsI_nat] at this
            exact this
          have hkk : (k : Int) < (l.length : Int) := by omega
          have hdk : decide ((k : Int) < (l.length : Int)) = true := by rw [decide_eq_true_eq]; omega
          by_cases hrow : (l[k]).length = colsR i
          · have HR2 : Hid (∀ row ∈ l.take (k + 1), row.length = colsR i) := by
              intro row hrw
              rw [List.take_succ_eq_append_getElem hkl] at hrw
              rcases List.mem_append.1 hrw with h | h
              · exact HR.out row h
              · simp at h; subst h; exact hrow
            have hcq : (((l[k]).length : Int) != (colsR i : Int)) = false := by rw [bne_eq_false_iff_eq, hrow]
            clear hrow
            generalize (l[k]).length = m at *
            generalize colsR i = cc at *
            go_wp2_with fail
            go_quiet ((go_at_call 22; go_must (exact quiet_on (HCL.out _))))
            go_wp2_with fail
            go_roundw
            case rel => exact ⟨k + 1, _, by omega, by go_num, rfl, HR2.out⟩
            case measure => simp [intOf]; omega
          · have HF : Hid (writeR ⟨en, T⟩ = ([], 17)) := by
              have hm : l[k] ∈ T[i] := by have := HTL.out; simp only [← this]; exact List.getElem_mem _
              exact write_noS (shaped_no hiT hm hrow)
            have hcq : (((l[k]).length : Int) != (colsR i : Int)) = true := by rw [bne_iff_ne]; omega
            clear hrow
            generalize (l[k]).length = m at *
            generalize colsR i = cc at *
            go_wp2_with fail
            go_quiet ((go_at_call 22; go_must (exact quiet_on (HCL.out _))))
            go_wp2_with fail
            go_ret2
            exact ⟨WritePt.err HF.out _ _ rfl, Below.drewN (Below.drewN HB1.out _) _⟩
        · have HD2 : Hid (∀ j (h : j < T.length), j < i + 1 → ∀ row ∈ T[j], row.length = colsR j) := by
            intro j h hj row hr
            by_cases hji : j < i
            · exact HD.out j h hji row hr
            · have : j = i := by omega
              subst this
              refine HR.out row ?_
              rw [List.take_of_length_le (by omega), HTL.out]; exact hr
          have hdk : decide ((k : Int) < (l.length : Int)) = false := by rw [decide_eq_false_iff_not]; omega
          go_wp2_with fail
          go_roundw
          case rel => exact ⟨i + 1, _, by omega, by go_num, rfl, HD2.out⟩
          case measure => simp [intOf]; omega
    · have hd6 : decide ((i : Int) < 6) = false := by rw [decide_eq_false_iff_not]; omega
      have HSH : Hid (shaped 0 T = true) := shaped_of T 0 fun j h row hr => by rw [Nat.zero_add]; exact HD.out j h (by have := H6.out; omega) row hr
      have HSR : Hid (∀ i (hi : i < T.length), ∀ row ∈ T[i], row.length = colsR i) := fun j h row hr => HD.out j h (by have := H6.out; omega) row hr
      have HBA : Hid (Below w1.heap.size w1 (w1.drewN n)) := Below.drewN (Below.refl _ _) n
      clear HD x0 x1
      generalize w1.drewN n = wA at *
      obtain ⟨x0, x1, hbA⟩ := HX.out wA HBA.out
      have HBW : Hid (Below w.heap.size w wA) := hbA
      clear hbA
      go_wp2_with fail
      go_loopw [7, 8, 9] (fun th bt x wr => ∃ i : Nat, i ≤ 6 ∧ x = .int .i64 i ∧ wr = wA ∧ th = .int .i64 (thereB (T.take i) : Int) ∧ bt = .int .i64 ((2 ^ i : Nat) : Int)) (fun _ _ x _ => 6 - (intOf x).toNat)
      case atStart => exact ⟨0, by omega, rfl, rfl, rfl, rfl⟩
      case round =>
        obtain ⟨i, hi, rfl, rfl, rfl, rfl⟩ := hrel
        by_cases hlt : i < 6
        · have hiT : i < T.length := by have := H6.out; omega
          obtain ⟨a1, p1, hcell0, hin⟩ := HV.out i hiT
          have hcell := cell_later hcell0 HBW.out
          have hl100 := H100.out i hiT
          have HRS : Hid _ := there_step hiT
          have hthl : thereB (T.take i) < 64 := by
            have := there_lt (T.take i)
            have e : (T.take i).length = i := by simp; omega
            rw [e] at this
            exact Nat.lt_of_lt_of_le this (Nat.pow_le_pow_right (n := 2) (by omega) (show i ≤ 6 by omega))
          have HP2 : Hid (2 ^ (i + 1) = 2 * 2 ^ i) := by show _ = _; rw [Nat.pow_succ]; omega
          have hp64 : 2 ^ i ≤ 64 := Nat.pow_le_pow_right (n := 2) (by omega) (show i ≤ 6 by omega)
          clear hin hcell0
          generalize (T[i]).length = m at *
          generalize thereB (T.take i) = th at *
          generalize 2 ^ i = pw at *
          have hd6 : decide ((i : Int) < 6) = true := by rw [decide_eq_true_eq]; omega
          have hii : (i : Int) < 6 := by omega
          by_cases hm0 : m = 0
          · subst hm0
            rw [if_pos rfl] at HRS
            go_wp2_with fail
            go_roundw
            case rel => exact ⟨i + 1, by omega, by go_num, by simp, by rw [HRS.out]; simp, by rw [HP2.out]; go_num⟩
            case measure => simp [intOf]; omega
          · rw [if_neg hm0] at HRS
            go_wp2_with fail
            go_roundw
            case rel => exact ⟨i + 1, by omega, by go_num, by simp, by rw [HRS.out]; go_num, by rw [HP2.out]; go_num⟩
            case measure => simp [intOf]; omega
        · have hi6 : i = 6 := by omega
          subst hi6
          have HTK : Hid (T.take 6 = T) := List.take_of_length_le (by have := H6.out; omega)
          rw [HTK.out]
          have hthl : thereB T < 64 := by
            have := there_lt T
            rw [H6.out] at this
            exact this
          have HWB : Hid (∀ k : Nat, en = (k : Int) → writeB ⟨en, T⟩ = [0, UInt8.ofNat (thereB T)] ++ cntB T ++ leL k 2 ++ tabsB 0 T) := fun k hk => by
            rw [hk]; simp [writeB, List.append_assoc]
          generalize thereB T = th at *
          have HL1 : Hid (Bs (wr.alloc (Obj.cells #[.int .u8 0, .int .u8 (th : Int)] 5)) (.slice (some ⟨wr.heap.size, 0, none⟩) 2 2) [0, UInt8.ofNat th]) := bs_lit wr [0, UInt8.ofNat th] _ _ _ (by simp [u8s]; omega) rfl (by simp [maxLen])
          have HA0 : Hid (Ap wr (wr.alloc (Obj.cells #[.int .u8 0, .int .u8 (th : Int)] 5)) wr.heap.size (.slice none 0 0) (.slice none 0 0) []) := (Ap.refl (Own.nil wr wr.heap.size _) (Nat.le_refl _)).later ((Below.refl _ _).alloc (Nat.le_refl _) _)
          obtain ⟨wB, rfl⟩ : ∃ wB, wB = wr := ⟨_, rfl⟩
          go_wp2_with (at_builtin; go_must (refine wpList_append_at rfl _ _ _ _ rfl wB.heap.size 5 (.int .u8 0) 1 Try.underlying22 Try.infoU8 rfl rfl rfl HA0.out.own.v (HL1.out.src Try.underlying22) (by simp [u8s, maxLen]) (by simp [u8s]) HA0.out.top ?_))
          intro v2 w2 ho2 hg2 hp2 _
          have HA2 : Hid (Ap wB w2 wB.heap.size (.slice none 0 0) v2 [0, UInt8.ofNat th]) := HA0.out.app ho2 hg2 (by simpa using hp2)
          have hnil : ∀ k, (Value.slice none 0 0).ownBlock = some k → wB.heap.size ≤ k := fun k hk => by simp [Value.ownBlock] at hk
          have HXB : Hid (∀ W, Below wB.heap.size wB W → W.cell? ⟨w.heap.size, 0, none⟩ = some (.int .i64 en) ∧ W.cell? ⟨w.heap.size, 1, none⟩ = some (.slice (some ⟨b, off, none⟩) 6 c) ∧ Below w.heap.size w W) := fun W hW => HX.out W (HBA.out.trans (hW.mono HBA.out.size))
          clear ho2 hg2 hp2 HA0 HL1 x0 x1
          go_wp2_with fail
          go_loopw [6, 10] (fun o x wr => ∃ i : Nat, i ≤ 6 ∧ x = .int .i64 i ∧ Ap wB wr wB.heap.size (.slice none 0 0) o ([0, UInt8.ofNat th] ++ cntB (T.take i))) (fun _ x _ => 6 - (intOf x).toNat)
          case atStart => exact ⟨0, by omega, rfl, by simpa [cntB] using HA2.out⟩
          case round =>
            obtain ⟨i, hi, rfl, hap⟩ := hrel
            have HA : Hid (Ap wB wr wB.heap.size (.slice none 0 0) u6 ([0, UInt8.ofNat th] ++ cntB (T.take i))) := hap
            have hbr : Below wB.heap.size wB wr := hap.below hnil (Nat.le_refl _)
            obtain ⟨x0, x1, hbw⟩ := HXB.out wr hbr
            have HBR : Hid (Below wB.heap.size wB wr) := hbr
            have HBW2 : Hid (Below w.heap.size w wr) := hbw
            clear hap hbr hbw
            by_cases hlt : i < 6
            · have hiT : i < T.length := by have := H6.out; omega
              obtain ⟨a1, p1, hcell0, hin⟩ := HV.out i hiT
              have hcell := cell_later hcell0 HBW2.out
              have hl100 := H100.out i hiT
              have HCS : Hid _ := cnt_step hiT
              have hcl : (cntB (T.take i)).length ≤ 12 := by
                have := cnt_le (T := T.take i)
                have e : (T.take i).length = i := by simp; omega
                omega
              clear hin hcell0
              generalize (T[i]).length = m at *
              generalize cntB (T.take i) = cb at *
              have hd6 : decide ((i : Int) < 6) = true := by rw [decide_eq_true_eq]; omega
              have hii : (i : Int) < 6 := by omega
              by_cases hm0 : m = 0
              · subst hm0
                rw [if_pos rfl, List.append_nil] at HCS
                go_wp2_with fail
                go_roundw
                case rel => exact ⟨i + 1, by omega, by go_num, by rw [HCS.out]; exact HA.out⟩
                case measure => simp [intOf]; omega
              · rw [if_neg hm0] at HCS
                go_wp2_with fail
                refine (refPut_any m 2 (by omega) (by omega) wr).mono ?_
                rintro e w3 ⟨v3, rfl, ho3, hb3⟩
                have HA3 : Hid (Ap wB w3 wB.heap.size (.slice none 0 0) u6 ([0, UInt8.ofNat th] ++ cb)) := HA.out.later hb3
                have HP3 : Hid (Bs w3 v3 (leL m 2)) := ho3.bs
                have hll := leL_length m 2
                have hl3 : ([0, UInt8.ofNat th] ++ cb).length ≤ 14 := by simp; omega
                clear ho3 hb3
                go_wp2_with (at_builtin; go_must (refine wpList_append_at rfl _ _ _ _ rfl wB.heap.size 5 (.int .u8 0) 1 Try.underlying22 Try.infoU8 rfl rfl rfl HA3.out.own.v (HP3.out.src Try.underlying22) (by rw [u8s_length, hll]; unfold maxLen; omega) (by rw [u8s_length, hll]; omega) HA3.out.top ?_))
                intro v4 w4 ho4 hg4 hp4 _
                have HA4 : Hid (Ap wB w4 wB.heap.size (.slice none 0 0) v4 ([0, UInt8.ofNat th] ++ cntB (T.take (i + 1)))) := by
                  rw [HCS.out, ← List.append_assoc]
                  exact HA3.out.app ho4 hg4 hp4
                clear ho4 hg4 hp4
                go_wp2_with fail
                go_roundw
                case rel => exact ⟨i + 1, by omega, by go_num, HA4.out⟩
                case measure => simp [intOf]; omega
            · have hd6 : decide ((i : Int) < 6) = false := by rw [decide_eq_false_iff_not]; omega
              have hi6 : i = 6 := by omega
              subst hi6
              rw [HTK.out] at HA
              have hcl : (cntB T).length ≤ 12 := by
                have := cnt_le (T := T)
                have := H6.out
                omega
              obtain ⟨P1, hP1⟩ : ∃ P1, P1 = [0, UInt8.ofNat th] ++ cntB T := ⟨_, rfl⟩
              have HP1 : Hid (P1 = [0, UInt8.ofNat th] ++ cntB T) := hP1
              have hp1l : P1.length ≤ 14 := by rw [hP1]; simp; omega
              rw [← hP1] at HA
              clear hP1 hcl
              cases hfe : fitsR en 2 with
              | false =>
                have HE : Hid (writeR ⟨en, T⟩ = ([], 3)) := write_noE H6.out HSH.out hfe
                have HF : Hid (∀ W, Calls Try.prog 36 #[.int .i64 en, .int .i64 2] W fun e w' => e = .returned (.bool false) ∧ w' = W) := fun W => by
                  have := refFits_any en 2 (.inl rfl) W
                  rw [hfe] at this
                  exact this
                clear hfe
                go_wp2_with (go_at_call 36; refine (HF.out _).mono ?_; rintro e wz ⟨rfl, hz⟩; subst wz)
                go_ret2
                exact ⟨WritePt.err HE.out _ _ rfl, HBW2.out⟩
              | true =>
                have HFE : Hid (fitsR en 2 = true) := hfe
                obtain ⟨ek, hek, hek2⟩ := fits_nat hfe
                have HF : Hid (∀ W, Calls Try.prog 36 #[.int .i64 en, .int .i64 2] W fun e w' => e = .returned (.bool true) ∧ w' = W) := fun W => by
                  have := refFits_any en 2 (.inl rfl) W
                  rw [hfe] at this
                  exact this
                have HWB2 : Hid (writeB ⟨en, T⟩ = P1 ++ leL ek 2 ++ tabsB 0 T) := by
                  show _ = _
                  rw [HWB.out ek hek, HP1.out]
                clear hfe
                subst hek
                go_wp2_with (go_at_call 36; refine (HF.out _).mono ?_; rintro e wz ⟨rfl, hz⟩; subst wz)
                refine (refPut_any ek 2 (by omega) (by omega) wr).mono ?_
                rintro e w3 ⟨v3, rfl, ho3, hb3⟩
                have HA3 : Hid (Ap wB w3 wB.heap.size (.slice none 0 0) u6 P1) := HA.out.later hb3
                have HP3 : Hid (Bs w3 v3 (leL ek 2)) := ho3.bs
                have hll := leL_length ek 2
                clear ho3 hb3
                go_wp2_with (at_builtin; go_must (refine wpList_append_at rfl _ _ _ _ rfl wB.heap.size 5 (.int .u8 0) 1 Try.underlying22 Try.infoU8 rfl rfl rfl HA3.out.own.v (HP3.out.src Try.underlying22) (by rw [u8s_length, hll]; unfold maxLen; omega) (by rw [u8s_length, hll]; omega) HA3.out.top ?_))
                intro v4 w4 ho4 hg4 hp4 _
                have HA4 : Hid (Ap wB w4 wB.heap.size (.slice none 0 0) v4 (P1 ++ leL ek 2)) := HA3.out.app ho4 hg4 hp4
                have hp2l : (P1 ++ leL ek 2).length ≤ 16 := by rw [List.length_append, hll]; omega
                generalize P1 ++ leL ek 2 = P2 at *
                clear ho4 hg4 hp4 HA3 HP3 x0 x1
                go_wp2_with fail
                go_loopw [6, 11] (fun o x wr => ∃ i : Nat, i ≤ 6 ∧ x = .int .i64 i ∧ Ap wB wr wB.heap.size (.slice none 0 0) o (P2 ++ tabsB 0 (T.take i)) ∧ ∀ j (h : j < T.length), j < i → ∀ row ∈ T[j], rowFits j 0 row = true) (fun _ x _ => 6 - (intOf x).toNat)
                case atStart => exact ⟨0, by omega, rfl, by simpa [tabsB] using HA4.out, fun j _ h => by omega⟩
                case round =>
                  obtain ⟨i, hi, rfl, hap, hft⟩ := hrel
                  have HA : Hid (Ap wB wr wB.heap.size (.slice none 0 0) u6 (P2 ++ tabsB 0 (T.take i))) := hap
                  have HFT : Hid (∀ j (h : j < T.length), j < i → ∀ row ∈ T[j], rowFits j 0 row = true) := hft
                  have HBW3 : Hid (Below w.heap.size w wr) := (HXB.out wr (hap.below hnil (Nat.le_refl _))).2.2
                  clear hap hft HA4
                  by_cases hlt : i < 6
                  · have hiT : i < T.length := by have := H6.out; omega
                    obtain ⟨a1, p1, hcell0, hin⟩ := HV.out i hiT
                    have HIN : Hid (In2 w (.slice a1 (T[i]).length p1) T[i]) := hin
                    have HC0 : Hid (w.cell? ⟨b, off + i, none⟩ = some (.slice a1 (T[i]).length p1)) := hcell0
                    have hl100 := H100.out i hiT
                    have HSRI : Hid (∀ row ∈ T[i], row.length = colsR i) := HSR.out i hiT
                    have HSMI : Hid (∀ row ∈ T[i], ∀ x ∈ row, x < 9223372036854775808) := HSM.out _ (List.getElem_mem _)
                    have HTS : Hid _ := tabs_step hiT
                    have htl : (tabsB 0 (T.take i)).length ≤ 14400 := by
                      have := tabs_le100 HSR.out H100.out i (by omega)
                      omega
                    have HNF : Hid (∀ row ∈ T[i], rowFits i 0 row = false → fitting 0 T = false) := fun row hr h => fitting_no hiT (.inr ⟨row, hr, h⟩)
                    obtain ⟨l, hl⟩ : ∃ l, l = T[i] := ⟨_, rfl⟩
                    have HTL : Hid (l = T[i]) := hl
                    rw [← hl] at HIN HC0 hl100 HSRI HSMI HTS HNF
                    clear hl hin hcell0
                    have hd6 : decide ((i : Int) < 6) = true := by rw [decide_eq_true_eq]; omega
                    have hii : (i : Int) < 6 := by omega
                    have h6c : colsR i ≤ 6 := by unfold colsR; split <;> omega
                    have HCL : Hid (∀ W, Calls Try.prog 22 #[.int .i64 (i : Int)] W fun e w' => e = .returned (.int .i64 (colsR i : Int)) ∧ w' = W) := fun W => by
                      have := refColumns_any (i : Int) W
                      rw [colsI_nat] at this
                      exact this
                    generalize tabsB 0 (T.take i) = tb at *
                    go_wp2_with fail
                    go_loopw [6, 12] (fun o x wr => ∃ k : Nat, k ≤ l.length ∧ x = .int .i64 k ∧ Ap wB wr wB.heap.size (.slice none 0 0) o (P2 ++ tb ++ tabB i (l.take k)) ∧ ∀ row ∈ l.take k, rowFits i 0 row = true) (fun _ x _ => l.length - (intOf x).toNat)
                    case atStart => exact ⟨0, by omega, rfl, by simpa [tabB] using HA.out, by simp⟩
                    case round =>
                      obtain ⟨k, hk, rfl, hap, hrf⟩ := hrel
                      have HA5 : Hid (Ap wB wr wB.heap.size (.slice none 0 0) u6 (P2 ++ tb ++ tabB i (l.take k))) := hap
                      have HRF : Hid (∀ row ∈ l.take k, rowFits i 0 row = true) := hrf
                      obtain ⟨x0, x1, hbw⟩ := HXB.out wr (hap.below hnil (Nat.le_refl _))
                      have hcell := cell_later HC0.out hbw
                      have HBW4 : Hid (Below w.heap.size w wr) := hbw
                      clear hap hrf hbw HA
                      by_cases hkl : k < l.length
                      · obtain ⟨b2, off2, c2, a2, cp2, he2, hcell20, hin2, hlm2⟩ := HIN.out.row k hkl
                        simp only [Value.slice.injEq] at he2
                        obtain ⟨rfl, -, rfl⟩ := he2
                        have HC2 : Hid (w.cell? ⟨b2, off2 + k, none⟩ = some (.slice a2 (l[k]).length cp2)) := hcell20
                        have HI2 : Hid (In1 w (.slice a2 (l[k]).length cp2) l[k]) := hin2
                        have hrl := HSRI.out l[k] (List.getElem_mem _)
                        have HRS : Hid (∀ x ∈ l[k], x < 9223372036854775808) := HSMI.out l[k] (List.getElem_mem _)
                        have HNR : Hid (rowFits i 0 l[k] = false → fitting 0 T = false) := HNF.out l[k] (List.getElem_mem _)
                        have HSTEP : Hid (tabB i (l.take (k + 1)) = tabB i (l.take k) ++ rowB i 0 l[k]) := tab_step hkl
                        have HR2 : Hid (rowFits i 0 l[k] = true → ∀ row ∈ l.take (k + 1), rowFits i 0 row = true) := fun h row hrw => by
                          rw [List.take_succ_eq_append_getElem hkl] at hrw
                          rcases List.mem_append.1 hrw with h' | h'
                          · exact HRF.out row h'
                          · simp at h'; subst h'; exact h
                        have htk : (tabB i (l.take k)).length ≤ 2400 := by
                          have := tabB_le (t := i) (l := l.take k) fun row hr => HSRI.out row (List.mem_of_mem_take hr)
                          have e : (l.take k).length = k := by simp; omega
                          rw [e] at this; omega
                        obtain ⟨row, hrow⟩ : ∃ row, row = l[k] := ⟨_, rfl⟩
                        rw [← hrow] at HC2 HI2 hrl HRS HNR HSTEP HR2
                        have HRL : Hid (row.length = colsR i) := hrl
                        have hlm3 : row.length ≤ 6 := by omega
                        clear hrow hin2 hcell20 hlm2 hrl
                        have hkk : (k : Int) < (l.length : Int) := by omega
                        have hdk : decide ((k : Int) < (l.length : Int)) = true := by rw [decide_eq_true_eq]; omega
                        generalize tabB i (l.take k) = tk at *
                        obtain ⟨P3, hP3⟩ : ∃ P3, P3 = P2 ++ tb ++ tk := ⟨_, rfl⟩
                        have HP3 : Hid (P3 = P2 ++ tb ++ tk) := hP3
                        have hp3l : P3.length ≤ 17000 := by rw [hP3]; simp only [List.length_append]; omega
                        rw [← hP3] at HA5
                        clear hP3
                        go_wp2_with fail
                        go_loopw [6, 13] (fun o x wr => ∃ c : Nat, c ≤ row.length ∧ x = .int .i64 c ∧ Ap wB wr wB.heap.size (.slice none 0 0) o (P3 ++ rowB i 0 (row.take c)) ∧ rowFits i 0 (row.take c) = true) (fun _ x _ => row.length - (intOf x).toNat)
                        case atStart => exact ⟨0, by omega, rfl, by simpa [rowB] using HA5.out, by simp [rowFits]⟩
                        case round =>
                          obtain ⟨q, hq, rfl, hap, hrf⟩ := hrel
                          have HA6 : Hid (Ap wB wr wB.heap.size (.slice none 0 0) u6 (P3 ++ rowB i 0 (row.take q))) := hap
                          have HQF : Hid (rowFits i 0 (row.take q) = true) := hrf
                          obtain ⟨x0, x1, hbw⟩ := HXB.out wr (hap.below hnil (Nat.le_refl _))
                          have hcell := cell_later HC0.out hbw
                          have hcell2 := cell_later HC2.out hbw
                          have HBW5 : Hid (Below w.heap.size w wr) := hbw
                          have HCQ : Hid (∀ W, Calls Try.prog 22 #[.int .i64 (i : Int)] W fun e w' => e = .returned (.int .i64 (row.length : Int)) ∧ w' = W) := fun W => by
                            rw [HRL.out]; exact HCL.out W
                          clear hap hrf HA5
                          by_cases hql : q < row.length
                          · obtain ⟨a3', cp3', he3, _, _, h3⟩ := HI2.out
                            simp only [Value.slice.injEq] at he3
                            obtain ⟨rfl, -, rfl⟩ := he3
                            obtain ⟨b3, off3, rfl, hbl3, hc3⟩ := h3 (by intro e; rw [List.map_eq_nil_iff] at e; subst e; simp at hql)
                            have hc30 := hc3 q (by simpa using hql)
                            rw [List.getElem_map] at hc30
                            have hcell3 := cell_later hc30 hbw
                            have hxs := HRS.out row[q] (List.getElem_mem _)
                            have hw := widR_cases i q 0
                            have hrl24 : (rowB i 0 (row.take q)).length ≤ 24 := by
                              have := rowB_le i (row.take q) 0
                              have e : (row.take q).length = q := by simp; omega
                              omega
                            have HN0 : Hid (fitsR row[q] (widR i q 0) = false → rowFits i 0 row = false) := fun h => rowFits_no hql h
                            have HN1 : Hid (fitsR row[q] (widR i q 0) = true → rowFits i 0 (row.take (q + 1)) = true) := fun h => rowFits_step hql HQF.out h
                            have HRB : Hid (rowB i 0 (row.take (q + 1)) = rowB i 0 (row.take q) ++ leL (row[q]).toNat (widR i q 0)) := rowB_step hql
                            have HWD : Hid (∀ W, Calls Try.prog 29 #[.int .i64 (i : Int), .int .i64 (q : Int), .int .i64 0] W fun e w' => e = .returned (.int .i64 (widR i q 0 : Int)) ∧ w' = W) := fun W => refWidth_any i q 0 (by omega) W
                            have HFF : Hid (∀ W, Calls Try.prog 36 #[.int .i64 row[q], .int .i64 (widR i q 0 : Int)] W fun e w' => e = .returned (.bool (fitsR row[q] (widR i q 0))) ∧ w' = W) := fun W => refFits_any _ _ hw W
                            have hqq : (q : Int) < (row.length : Int) := by omega
                            have hdq : decide ((q : Int) < (row.length : Int)) = true := by rw [decide_eq_true_eq]; omega
                            clear h3 hc3 hc30 hbw
                            generalize row[q] = x at *
                            generalize widR i q 0 = wd at *
                            generalize rowB i 0 (row.take q) = rq at *
                            cases hfx : fitsR x wd with
                            | false =>
                              have HE : Hid (writeR ⟨(ek : Int), T⟩ = ([], 3)) := write_noF H6.out HSH.out (HNR.out (HN0.out hfx))
                              rw [hfx] at HFF
                              clear hfx
                              go_wp2_with (first
                                | (go_at_call 22; refine (HCQ.out _).mono ?_; rintro e wz ⟨rfl, hz⟩; subst wz)
                                | (go_at_call 29; refine (HWD.out _).mono ?_; rintro e wz ⟨rfl, hz⟩; subst wz)
                                | (go_at_call 36; refine (HFF.out _).mono ?_; rintro e wz ⟨rfl, hz⟩; subst wz))
                              go_ret2
                              exact ⟨WritePt.err HE.out _ _ rfl, HBW5.out⟩
                            | true =>
                              obtain ⟨n, hn, hn2⟩ := fits_nat hfx
                              have HQ2 : Hid (rowFits i 0 (row.take (q + 1)) = true) := HN1.out hfx
                              rw [hfx] at HFF
                              subst hn
                              rw [Int.toNat_natCast] at HRB
                              have hn3 : n < 4294967296 := by
                                rcases hw with e | e <;> rw [e] at hn2 <;> omega
                              clear hfx hn2 HN0 HN1
                              go_wp2_with (first
                                | (go_at_call 22; refine (HCQ.out _).mono ?_; rintro e wz ⟨rfl, hz⟩; subst wz)
                                | (go_at_call 29; refine (HWD.out _).mono ?_; rintro e wz ⟨rfl, hz⟩; subst wz)
                                | (go_at_call 36; refine (HFF.out _).mono ?_; rintro e wz ⟨rfl, hz⟩; subst wz))
                              refine (refPut_any n wd (by omega) (by omega) wr).mono ?_
                              rintro e w7 ⟨v7, rfl, ho7, hb7⟩
                              have HA7 : Hid (Ap wB w7 wB.heap.size (.slice none 0 0) u6 (P3 ++ rq)) := HA6.out.later hb7
                              have HP7 : Hid (Bs w7 v7 (leL n wd)) := ho7.bs
                              have hll7 := leL_length n wd
                              have hl7 : (P3 ++ rq).length ≤ 20000 := by simp only [List.length_append]; omega
                              clear ho7 hb7
                              go_wp2_with (at_builtin; go_must (refine wpList_append_at rfl _ _ _ _ rfl wB.heap.size 5 (.int .u8 0) 1 Try.underlying22 Try.infoU8 rfl rfl rfl HA7.out.own.v (HP7.out.src Try.underlying22) (by rw [u8s_length, hll7]; unfold maxLen; omega) (by rw [u8s_length, hll7]; omega) HA7.out.top ?_))
                              intro v8 w8 ho8 hg8 hp8 _
                              have HA8 : Hid (Ap wB w8 wB.heap.size (.slice none 0 0) v8 (P3 ++ rowB i 0 (row.take (q + 1)))) := by
                                rw [HRB.out, ← List.append_assoc]
                                exact HA7.out.app ho8 hg8 hp8
                              clear ho8 hg8 hp8 HA7 HP7
                              go_wp2_with fail
                              go_roundw
                              case rel => exact ⟨q + 1, by omega, by go_num, HA8.out, HQ2.out⟩
                              case measure => simp [intOf]; omega
                          · have hdq : decide ((q : Int) < (row.length : Int)) = false := by rw [decide_eq_false_iff_not]; omega
                            have HA9 : Hid (Ap wB wr wB.heap.size (.slice none 0 0) u6 (P2 ++ tb ++ tabB i (l.take (k + 1)))) := by
                              have := HA6.out
                              rw [List.take_of_length_le (by omega)] at this
                              rw [HSTEP.out, ← List.append_assoc, ← HP3.out]
                              exact this
                            have HR9 : Hid (∀ row ∈ l.take (k + 1), rowFits i 0 row = true) := HR2.out (by
                              have := HQF.out
                              rw [List.take_of_length_le (by omega)] at this
                              exact this)
                            go_wp2_with (go_at_call 22; refine (HCQ.out _).mono ?_; rintro e wz ⟨rfl, hz⟩; subst wz)
                            go_roundw
                            case rel => exact ⟨k + 1, by omega, by go_num, HA9.out, HR9.out⟩
                            case measure => simp [intOf]; omega
                      · have hdk : decide ((k : Int) < (l.length : Int)) = false := by rw [decide_eq_false_iff_not]; omega
                        have hii2 : (i : Int) < 6 := hii
                        have HA9 : Hid (Ap wB wr wB.heap.size (.slice none 0 0) u6 (P2 ++ tabsB 0 (T.take (i + 1)))) := by
                          have := HA5.out
                          rw [List.take_of_length_le (by omega)] at this
                          rw [HTS.out, ← List.append_assoc]
                          exact this
                        have HF9 : Hid (∀ j (h : j < T.length), j < i + 1 → ∀ row ∈ T[j], rowFits j 0 row = true) := by
                          intro j h hj row hr
                          by_cases hji : j < i
                          · exact HFT.out j h hji row hr
                          · have : j = i := by omega
                            subst this
                            refine HRF.out row ?_
                            rw [List.take_of_length_le (by omega), HTL.out]; exact hr
                        go_wp2_with fail
                        go_roundw
                        case rel => exact ⟨i + 1, by omega, by go_num, HA9.out, HF9.out⟩
                        case measure => simp [intOf]; omega
                  · have hd6 : decide ((i : Int) < 6) = false := by rw [decide_eq_false_iff_not]; omega
                    have hi6 : i = 6 := by omega
                    subst hi6
                    have HF : Hid (writeR ⟨(ek : Int), T⟩ = (P2 ++ tabsB 0 T, 0)) := by
                      have hf : fitting 0 T = true := fitting_of T 0 fun j h => by
                        rw [Nat.zero_add]
                        exact ⟨by have := H100.out j h; omega, HFT.out j h (by have := H6.out; omega)⟩
                      show _ = _
                      rw [write_is (T := ⟨(ek : Int), T⟩) H6.out HSH.out HFE.out hf, HWB2.out]
                    have HA9 : Hid (Bs wr u6 (P2 ++ tabsB 0 T)) := by
                      have := HA.out.own.bs
                      rw [HTK.out] at this
                      exact this
                    go_wp2_with fail
                    go_ret2
                    exact ⟨⟨_, by rw [HF.out]; rfl, by rw [HF.out]; exact HA9.out⟩, HBW3.out⟩

theorem refWrite_any {w : World} {v : Value} {T : List (List (List Int))} (en : Int) (hv : In3 w v T) (hsm : SmallT T) (hen : en < 9223372036854775808) (h100 : ∀ l ∈ T, l.length ≤ 100) :
    Calls Try.prog 15 #[.agg #[.int .i64 en, v]] w fun e w' => WritePt ⟨en, T⟩ e w' ∧ Below w.heap.size w w' := by
  by_cases h6 : T.length = 6
  · exact refWrite_six en hv h6 hsm hen h100
  · exact refWrite_short en hv h6

end Go.Proofs.Ytjmjpdamhondkaa
