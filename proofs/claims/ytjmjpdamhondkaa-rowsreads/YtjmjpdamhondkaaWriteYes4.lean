
/- Write of rows, where all fits. -/
import Derived.Test.YtjmjpdamhondkaaWrite4
namespace Go.Proofs.Ytjmjpdamhondkaa
set_option linter.unusedVariables false
set_option linter.unusedSimpArgs false
open Go.RowKit Go.Maps

theorem or_bit (x i : Nat) (hx : x < 2 ^ i) (hi : i < 6) : bits .or .i64 (x : Int) (wrap64 (2 ^ i)) = ((x + 2 ^ i : Nat) : Int) := by
  have h6 : 2 ^ i ≤ 2 ^ 6 := Nat.pow_le_pow_right (by omega) (by omega)
  have e : (2 : Int) ^ i = ((2 ^ i : Nat) : Int) := by simp
  have hwr : wrap64 (((2 ^ i : Nat) : Int)) = ((2 ^ i : Nat) : Int) := by
    have := IntKind.wrap_i64 ((2 ^ i : Nat) : Int)
    simp only [wrap64]; omega
  rw [e, hwr, i64_or_nat _ _ (by omega) (by omega), Nat.or_comm, nat_join i (2 ^ i) x (Nat.mod_self _) hx, Nat.add_comm]

set_option maxHeartbeats 2000000 in
theorem write_yes {w : World} {v : Value} {T : List (List (List Int))} (entry : Int) (hv : In3 w v T) (h6 : T.length = 6) (hsh : shaped 0 T = true) (hen : fitsR entry 2 = true) (hft : fitting 0 T = true) (hsm : SmallT T) :
    Calls Try.prog 14 #[.agg #[.int .i64 entry, v]] w fun e w' => ∃ bv, e = .returned (.tuple #[bv, .int .i64 0]) ∧ Bs w' bv (writeB ⟨entry, T⟩) ∧ Below w.heap.size w w' := by
  have HV : Hid (∀ W, Below w.heap.size w W → In3 W v T) := fun W hW => hv.later hW
  have HS : Hid (∀ W, Below w.heap.size w W → Calls Try.prog 31 #[v] W fun e w' => e = .returned (.bool true) ∧ w' = W) := fun W hW => by
    have := shaped_any (HV.out W hW)
    rw [hsh] at this
    simp only [h6, decide_true, Bool.true_and] at this
    exact this
  obtain ⟨en, hen1, hen2⟩ := fits_nat hen
  subst hen1
  have HN : Hid (∀ W, Below w.heap.size w W → Calls Try.prog 32 #[.agg #[.int .i64 (en : Int), v]] W fun e w' => e = .returned (.bool true) ∧ Below W.heap.size W w') := fun W hW => by
    have := narrow_any (en : Int) (HV.out W hW) h6 hsh hsm (by omega)
    rw [hen, hft] at this
    exact this
  have H6 : Hid (T.length = 6) := h6
  have HSH : Hid (∀ i (hi : i < T.length), ∀ row ∈ T[i], row.length = colsR i) := fun i hi row hr => by
    have := shaped_get T 0 i hi hsh row hr
    rwa [Nat.zero_add] at this
  have HFT : Hid (∀ i (hi : i < T.length), T[i].length < 65536 ∧ ∀ row ∈ T[i], rowFits i 0 row = true) := fun i hi => by
    have := fitting_get T 0 i hi hft
    rwa [Nat.zero_add] at this
  have HTL : Hid (∀ i, i ≤ T.length → (tabsB 0 (T.take i)).length ≤ 1572864 * i) := tabs_le HSH.out fun i hi => (HFT.out i hi).1
  have HT0 : Hid (∀ i (hi : i < T.length), ∃ b off c a cp, v = .slice (some ⟨b, off, none⟩) T.length c ∧ w.cell? ⟨b, off + i, none⟩ = some (.slice a (T[i]).length cp) ∧ In2 w (.slice a (T[i]).length cp) T[i] ∧ (T[i]).length ≤ maxLen) := fun i hi => In3.tab hv i hi
  obtain ⟨b, off, c, -, -, rfl, -⟩ := In3.tab hv 0 (by omega)
  rw [h6] at HV HS HN ⊢
  clear hv h6 hsh hsm hen hft
  go_enter Try.func14, Try.ntmps14
  go_wp2_with fail
  refine (HS.out _ ((Below.refl _ _).alloc (Nat.le_refl _) _)).mono ?_
  rintro e wz ⟨rfl, hz⟩
  subst wz
  go_wp2_with fail
  refine (HN.out _ ((Below.refl _ _).alloc (Nat.le_refl _) _)).mono ?_
  rintro e w1 ⟨rfl, hb1⟩
  have HW1 : Hid (Wt w w1 #[.int .i64 (en : Int), .slice (some ⟨b, off, none⟩) 6 c] (.slice none 0 0) (.slice none 0 0) [] []) :=
    ⟨Own.nil _ _ _, Own.nil _ _ _, fun j h => by simp [Value.ownBlock] at h, ((Below.refl _ _).alloc (Nat.le_refl _) _).trans (hb1.mono (by simp)), (hb1.block _ (by simp)).trans (heap_alloc_new _ _)⟩
  clear hb1 HS HN
  obtain ⟨x0, x1⟩ := box2 HW1.out.box
  go_wp2_with fail
  go_loopw [4, 5, 6, 22] (fun th cv bv x wr => ∃ i : Nat, i ≤ 6 ∧ x = .int .i64 i ∧ th = .int .i64 (thereB (T.take i) : Int) ∧ Wt w wr #[.int .i64 (en : Int), .slice (some ⟨b, off, none⟩) 6 c] cv bv (cntB (T.take i)) (tabsB 0 (T.take i))) (fun _ _ _ x _ => 6 - (intOf x).toNat)
  case atStart => exact ⟨0, by omega, rfl, rfl, HW1.out⟩
  case round =>
    obtain ⟨i, hi, rfl, rfl, hw⟩ := hrel
    have HW : Hid (Wt w wr #[.int .i64 (en : Int), .slice (some ⟨b, off, none⟩) 6 c] u5 u6 (cntB (T.take i)) (tabsB 0 (T.take i))) := hw
    clear hw HW1
    by_cases hlt : i < 6
    · have hiT : i < T.length := by have := H6.out; omega
      obtain ⟨b', off', c', a1, cp1, he, hcell0, hin, hlm⟩ := HT0.out i hiT
      simp only [Value.slice.injEq, Option.some.injEq, Addr.mk.injEq, and_true] at he
      obtain ⟨⟨rfl, rfl⟩, -, rfl⟩ := he
      have hcell := cell_later hcell0 HW.out.below
      have HIN : Hid (In2 w (.slice a1 (T[i]).length cp1) T[i]) := hin
      have hl16 := (HFT.out i hiT).1
      have htl := HTL.out i (by omega)
      have hthl : thereB (T.take i) < 2 ^ i := by
        have := there_lt (T.take i)
        have e : (T.take i).length = i := by simp; omega
        rwa [e] at this
      have HCS : Hid _ := cnt_step hiT
      have HTS : Hid _ := tabs_step hiT
      have HRS : Hid _ := there_step hiT
      have HOB : Hid _ := or_bit (thereB (T.take i)) i hthl hlt
      have hcl : (cntB (T.take i)).length ≤ 12 := by
        have := cnt_le (T := T.take i)
        have e : (T.take i).length = i := by simp; omega
        omega
      have hth6 : thereB (T.take i) < 64 := Nat.lt_of_lt_of_le hthl (Nat.pow_le_pow_right (n := 2) (by omega) (show i ≤ 6 by omega))
      have HRW : Hid (∀ row ∈ T[i], row.length = colsR i ∧ rowFits i 0 row = true) := fun row hr => ⟨HSH.out i hiT row hr, (HFT.out i hiT).2 row hr⟩
      obtain ⟨l, hl⟩ : ∃ l, l = T[i] := ⟨_, rfl⟩
      rw [← hl] at hcell HIN hl16 HCS HTS HRS HRW
      clear hl hin hlm hcell0 hthl
      generalize thereB (T.take i) = th at *
      generalize cntB (T.take i) = cb at *
      generalize tabsB 0 (T.take i) = tb at *
      have hd6 : decide ((i : Int) < 6) = true := by rw [decide_eq_true_eq]; omega
      by_cases hl0 : l.length = 0
      · have HCS2 : Hid (cntB (T.take (i + 1)) = cb) := by show _ = _; rw [HCS.out, if_pos hl0]; simp
        have HTS2 : Hid (tabsB 0 (T.take (i + 1)) = tb) := by
          show _ = _
          have : l = [] := List.eq_nil_of_length_eq_zero hl0
          rw [HTS.out, this]; simp [tabB]
        have HRS2 : Hid (thereB (T.take (i + 1)) = th) := by show _ = _; rw [HRS.out, if_pos hl0]; simp
        rw [hl0] at hcell
        go_wp2_with fail
        go_roundw
        case rel => exact ⟨i + 1, by omega, by go_num, by rw [HRS2.out], by rw [HCS2.out, HTS2.out]; exact HW.out⟩
        case measure => simp [intOf]; omega
      · have hne0 : ((l.length : Int) == 0) = false := by rw [beq_eq_false_iff_ne]; omega
        rw [if_neg hl0] at HCS HRS
        obtain ⟨wo, rfl⟩ : ∃ wo, wo = wr := ⟨_, rfl⟩
        have HPT : Hid (Calls Try.prog 33 #[u5, .int .i64 (l.length : Int), .int .i64 2] wo fun e w' => ∃ v', e = .returned v' ∧ Ap wo w' w.heap.size u5 v' (cb ++ leL l.length 2)) := put4_any HW.out.hd HW.out.below.size (by omega) l.length 2 (by omega) rfl (by omega) (by omega)
        go_wp2_with fail
        refine HPT.out.mono ?_
        rintro e w2 ⟨cv2, rfl, ha2⟩
        have HW2 : Hid (Wt w w2 #[.int .i64 (en : Int), .slice (some ⟨b, off, none⟩) 6 c] cv2 u6 (cb ++ leL l.length 2) tb) := HW.out.head ha2
        clear ha2 HPT HW hcell
        go_wp2_with fail
        go_loopw [6, 40] (fun bv x wq => ∃ k : Nat, k ≤ l.length ∧ x = .int .i64 k ∧ Wt w wq #[.int .i64 (en : Int), .slice (some ⟨b, off, none⟩) 6 c] cv2 bv (cb ++ leL l.length 2) (tb ++ tabB i (l.take k))) (fun _ x _ => l.length - (intOf x).toNat)
        case atStart => exact ⟨0, by omega, rfl, by simpa [tabB] using HW2.out⟩
        case round =>
          obtain ⟨k, hk, rfl, hwq⟩ := hrel
          have HWQ : Hid (Wt w wr #[.int .i64 (en : Int), .slice (some ⟨b, off, none⟩) 6 c] cv2 u6 (cb ++ leL l.length 2) (tb ++ tabB i (l.take k))) := hwq
          clear hwq HW2
          by_cases hkl : k < l.length
          · obtain ⟨b2, off2, c2, a2, cp2, he2, hcell0, hin2, hlm2⟩ := HIN.out.row k hkl
            simp only [Value.slice.injEq] at he2
            obtain ⟨rfl, -, rfl⟩ := he2
            unfold maxLen at hlm2
            have hcell2 := cell_later hcell0 HWQ.out.below
            obtain ⟨hr1, hr2⟩ := HRW.out l[k] (List.getElem_mem _)
            have htk : (tabB i (l.take k)).length ≤ 24 * k := by
              have := tabB_le (t := i) (l := l.take k) fun row hr => (HRW.out row (List.mem_of_mem_take hr)).1
              have e : (l.take k).length = k := by simp; omega
              rwa [e] at this
            have HSTEP : Hid (tabB i (l.take (k + 1)) = tabB i (l.take k) ++ rowB i 0 l[k]) := tab_step hkl
            have HPR : Hid (Calls Try.prog 34 #[u6, .int .i64 (i : Int), .slice a2 (l[k]).length cp2] wr fun e w' => ∃ v', e = .returned v' ∧ Ap wr w' w.heap.size u6 v' (tb ++ tabB i (l.take k) ++ rowB i 0 l[k])) :=
              putRow_any i HWQ.out.bd HWQ.out.below.size (fun W hW => hin2.later (HWQ.out.below.trans hW)) hr1 hr2 (by rw [List.length_append]; omega)
            clear hin2 hcell0 hr1 hr2
            generalize rowB i 0 l[k] = rb at *
            generalize (l[k]).length = m at *
            go_wp2_with fail
            refine HPR.out.mono ?_
            rintro e w3 ⟨bv3, rfl, ha3⟩
            have HW3 : Hid (Wt w w3 #[.int .i64 (en : Int), .slice (some ⟨b, off, none⟩) 6 c] cv2 bv3 (cb ++ leL l.length 2) (tb ++ tabB i (l.take (k + 1)))) := by
              rw [HSTEP.out, ← List.append_assoc]
              exact HWQ.out.body ha3
            clear ha3 HPR
            go_wp2_with fail
            go_roundw
            case rel => exact ⟨k + 1, by omega, by go_num, HW3.out⟩
            case measure => simp [intOf]; omega
          · have hdk : decide ((k : Int) < (l.length : Int)) = false := by rw [decide_eq_false_iff_not]; omega
            have HW4 : Hid (Wt w wr #[.int .i64 (en : Int), .slice (some ⟨b, off, none⟩) 6 c] cv2 u6 (cntB (T.take (i + 1))) (tabsB 0 (T.take (i + 1)))) := by
              have := HWQ.out
              rw [List.take_of_length_le (by omega)] at this
              rw [HCS.out, HTS.out]
              exact this
            go_wp2_with fail
            go_roundw
            case rel => exact ⟨i + 1, by omega, by go_num, by rw [HRS.out, HOB.out], HW4.out⟩
            case measure => simp [intOf]; omega
    · have hd6 : decide ((i : Int) < 6) = false := by rw [decide_eq_false_iff_not]; omega
      have hi6 : i = 6 := by omega
      subst hi6
      have HTK : Hid (T.take 6 = T) := List.take_of_length_le (by have := H6.out; omega)
      rw [HTK.out] at HW
      have hthl : thereB T < 64 := by
        have := there_lt T
        rw [H6.out] at this
        exact this
      have htl := HTL.out 6 (by have := H6.out; omega)
      rw [HTK.out] at htl ⊢
      have hcl : (cntB T).length ≤ 12 := by
        have := cnt_le (T := T)
        have := H6.out
        omega
      have HWB : Hid (writeB ⟨(en : Int), T⟩ = ([] ++ leL 0 1 ++ leL (thereB T) 1) ++ cntB T ++ leL en 2 ++ tabsB 0 T) := by
        show _ = _
        simp [writeB, leL, List.append_assoc]
      generalize thereB T = th at *
      generalize cntB T = cb at *
      generalize tabsB 0 T = tb at *
      have HP1 : Hid (Calls Try.prog 33 #[.slice none 0 0, .int .i64 0, .int .i64 1] wr fun e w' => ∃ v', e = .returned v' ∧ Ap wr w' wr.heap.size (.slice none 0 0) v' ([] ++ leL 0 1)) := put4_any (Own.nil _ _ _) (Nat.le_refl _) (by simp) 0 1 (by omega) rfl (by omega) (by omega)
      go_wp2_with fail
      refine HP1.out.mono ?_
      rintro e w2 ⟨v2, rfl, ha2⟩
      have HA2 : Hid (Ap wr w2 wr.heap.size (.slice none 0 0) v2 ([] ++ leL 0 1)) := ha2
      have HP2 : Hid (Calls Try.prog 33 #[v2, .int .i64 (th : Int), .int .i64 1] w2 fun e w' => ∃ v', e = .returned v' ∧ Ap w2 w' wr.heap.size v2 v' ([] ++ leL 0 1 ++ leL th 1)) := put4_any ha2.own ha2.top (by simp [leL_length]) th 1 (by omega) rfl (by omega) (by omega)
      clear ha2 HP1
      go_wp2_with fail
      refine HP2.out.mono ?_
      rintro e w3 ⟨v3, rfl, ha3⟩
      have HA3 : Hid (Ap wr w3 wr.heap.size (.slice none 0 0) v3 ([] ++ leL 0 1 ++ leL th 1)) := HA2.out.trans ha3
      have hnil : ∀ k, (Value.slice none 0 0).ownBlock = some k → wr.heap.size ≤ k := fun k hk => by simp [Value.ownBlock] at hk
      have HB3 : Hid (Below wr.heap.size wr w3) := HA3.out.below hnil (Nat.le_refl _)
      have HC3 : Hid (Bs w3 u5 cb) := HW.out.hd.bs.later HB3.out
      have hl3 : ([] ++ leL 0 1 ++ leL th 1).length = 2 := by simp [leL_length]
      clear ha3 HP2 HA2
      go_wp2_with (at_builtin; go_must (refine wpList_append_at rfl _ _ _ _ rfl wr.heap.size 5 (.int .u8 0) 1 Try.underlying22 Try.infoU8 rfl rfl rfl HA3.out.own.v (HC3.out.src Try.underlying22) (by rw [u8s_length]; unfold maxLen; omega) (by rw [u8s_length]; omega) HA3.out.top ?_))
      intro v4 w4 ho4 hg4 hp4 _
      have HA4 : Hid (Ap wr w4 wr.heap.size (.slice none 0 0) v4 ([] ++ leL 0 1 ++ leL th 1 ++ cb)) := HA3.out.app ho4 hg4 hp4
      clear ho4 hg4 hp4 HA3 HC3
      have HX4 : Hid (w4.heap[w.heap.size]? = some (Obj.cells #[.int .i64 (en : Int), .slice (some ⟨b, off, none⟩) 6 c] 26 (0, 0))) := ((HA4.out.below hnil (Nat.le_refl _)).block _ (Array.getElem?_eq_some_iff.1 HW.out.box).1).trans HW.out.box
      obtain ⟨y0, y1⟩ := box2 HX4.out
      have hl4 : ([] ++ leL 0 1 ++ leL th 1 ++ cb).length ≤ 14 := by rw [List.length_append]; omega
      have HP5 : Hid (Calls Try.prog 33 #[v4, .int .i64 (en : Int), .int .i64 2] w4 fun e w' => ∃ v', e = .returned v' ∧ Ap w4 w' wr.heap.size v4 v' ([] ++ leL 0 1 ++ leL th 1 ++ cb ++ leL en 2)) := put4_any HA4.out.own HA4.out.top (by omega) en 2 (by omega) rfl (by omega) (by omega)
      go_wp2_with fail
      refine HP5.out.mono ?_
      rintro e w5 ⟨v5, rfl, ha5⟩
      have HA5 : Hid (Ap wr w5 wr.heap.size (.slice none 0 0) v5 ([] ++ leL 0 1 ++ leL th 1 ++ cb ++ leL en 2)) := HA4.out.trans ha5
      have HB5 : Hid (Below wr.heap.size wr w5) := HA5.out.below hnil (Nat.le_refl _)
      have HD5 : Hid (Bs w5 u6 tb) := HW.out.bd.bs.later HB5.out
      have hl5 : ([] ++ leL 0 1 ++ leL th 1 ++ cb ++ leL en 2).length ≤ 16 := by rw [List.length_append, leL_length]; omega
      clear ha5 HP5 HA4 HX4 y0 y1
      go_wp2_with (at_builtin; go_must (refine wpList_append_at rfl _ _ _ _ rfl wr.heap.size 5 (.int .u8 0) 1 Try.underlying22 Try.infoU8 rfl rfl rfl HA5.out.own.v (HD5.out.src Try.underlying22) (by rw [u8s_length]; unfold maxLen; omega) (by rw [u8s_length]; omega) HA5.out.top ?_))
      intro v6 w6 ho6 hg6 hp6 _
      have HA6 : Hid (Ap wr w6 wr.heap.size (.slice none 0 0) v6 ([] ++ leL 0 1 ++ leL th 1 ++ cb ++ leL en 2 ++ tb)) := HA5.out.app ho6 hg6 hp6
      clear ho6 hg6 hp6
      go_wp2_with fail
      go_ret2
      exact ⟨_, rfl, by rw [HWB.out]; exact HA6.out.own.bs, HW.out.below.trans ((HA6.out.below hnil (Nat.le_refl _)).mono HW.out.below.size)⟩

end Go.Proofs.Ytjmjpdamhondkaa
