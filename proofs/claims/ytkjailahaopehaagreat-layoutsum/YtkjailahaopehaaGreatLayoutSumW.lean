
/- The walk of LayoutSum. -/
import Derived.Test.YtkjailahaopehaaGreatQ47
import Derived.Deep.QuietTactic
import Derived.BigQuiet
namespace Go.Proofs.YtkjailahaopehaaGreat
set_option linter.unusedVariables false
set_option linter.unusedSimpArgs false
open Go.RowKit
attribute [local go_sem ↓] Go.wp_at_zero Go.wp_at_succ

set_option maxHeartbeats 8000000 in
set_option maxRecDepth 20000 in
theorem layoutSum_walk (v : Value) (g : Img) (a : Int) (w : World) (h : ImV w v g) (ha : (Lit.int .u8 a).wf = true) :
    Calls Tryz.prog 8 #[v, .int .u8 a] w fun e w' => e = .returned (.bool true) ∧ Below w.heap.size w w' := by
  obtain ⟨rfl, hg, hnm⟩ := h
  have hau := Go.bounds_u8 ha
  obtain ⟨w0, HW0, HB0, HG, HC, HI, c0, c1, c2, c3⟩ := img_head hg
  have htl := hg.ts.len
  have hfl := hg.fs.len
  unfold maxLen at htl hfl
  have HLo : Hid (∀ W, Below w0.heap.size w0 W → Ans 10 #[imA4 g] W (.bool (longI g))) := fun W hW => longI_any (HI.out W hW)
  have HFi : Hid (∀ W, Below w0.heap.size w0 W → Ans 20 #[imA4 g] W (.bool (finB g))) := fun W hW => refFine12_any (HI.out W hW) hnm
  have HWo : Hid (∀ W t, Below w0.heap.size w0 W → Ans 19 #[imA4 g, .agg #[.int .i64 t.1, .int .i64 t.2.1, .int .i64 t.2.2.1, .bool t.2.2.2]] W (.int .i64 (cel12 g t).length)) := fun W t hW => words_any t (HI.out W hW)
  have HKn : Hid (∀ W t, Below w0.heap.size w0 W → finB g = true → Ans 26 #[imA4 g, .int .i64 t] W (.int .i64 (kndI g t))) := fun W t hW hf => refKind_any t (HI.out W hW) (FlOk.of (Fin_.of hf).wu.im)
  have HFs : Hid (∀ W, Below w0.heap.size w0 W → Es fdE W (.slice g.fa g.fs.length g.fc) g.fs) := fun W hW => (HI.out W hW).fs
  have HC4 : Hid (∀ W, Below w0.heap.size w0 W → Im4 W w.heap.size g) := HC.out
  unfold imA4 at HLo HFi HWo HKn
  unfold Im4 at HC4
  unfold imV
  generalize g.fa = fa at *
  clear hg hnm ha HC HI HG
  go_enter Tryz.func8, Tryz.ntmps8
  go_wp2_with (rw [← HW0.out])
  refine Calls.mono (wakes12_any w0) ?_
  rintro e w1 ⟨rfl, hb1⟩
  have HB1 : Hid (Below w0.heap.size w0 w1) := hb1
  clear hb1 c0 c1 c2 c3
  obtain ⟨c0, c1, c2, c3⟩ := HC4.out w1 HB1.out
  go_wp2_with fail
  refine Calls.mono (HLo.out w1 HB1.out) ?_
  rintro e w2 ⟨rfl, hb2⟩
  have HB2 : Hid (Below w0.heap.size w0 w2) := bstep HB1.out hb2
  clear hb2 c0 c1 c2 c3
  obtain ⟨c0, c1, c2, c3⟩ := HC4.out w2 HB2.out
  cases longI g with
  | true =>
    go_wp2_with fail
    go_ret
    exact ⟨rfl, bstep HB0.out HB2.out⟩
  | false =>
    go_wp2_with fail
    refine Calls.mono (HFi.out w2 HB2.out) ?_
    rintro e w3 ⟨rfl, hb3⟩
    have HB3 : Hid (Below w0.heap.size w0 w3) := bstep HB2.out hb3
    clear hb3 c0 c1 c2 c3
    obtain ⟨c0, c1, c2, c3⟩ := HC4.out w3 HB3.out
    cases hfi : finB g with
    | false =>
      clear hfi
      go_wp2_with fail
      go_ret
      exact ⟨rfl, bstep HB0.out HB3.out⟩
    | true =>
      have HF : Hid (finB g = true) := hfi
      clear hfi
      rcases Nat.eq_zero_or_pos g.ts.length with hz | hz
      · have hzi : (g.ts.length : Int) = 0 := by omega
        clear hz
        go_wp2_with fail
        go_ret
        exact ⟨rfl, bstep HB0.out HB3.out⟩
      · have hzi : ¬ (g.ts.length : Int) = 0 := by omega
        have hzn : ¬ g.ts.length = 0 := by omega
        have hzl : ¬ g.ts = [] := by intro e; rw [e] at hz; simp at hz
        have hzd : decide ((g.ts.length : Int) = 0) = false := decide_eq_false hzi
        have hnz : ((g.ts.length : Int) == 0) = false := by rw [beq_eq_false_iff_ne]; omega
        obtain ⟨A, hA, htmA, hAn⟩ := drawn_num12 hau.1 hz
        have HWq : Hid (∀ W, Below w0.heap.size w0 W → Ans 19 #[.agg #[.slice g.ta g.ts.length g.tc, .slice fa g.fs.length g.fc, .slice g.ma g.ms.length g.mc, .int .i64 g.en], .agg #[.int .i64 6, .int .i64 (A : Int), .int .i64 0, .bool false]] W (.int .i64 (cel12 g (6, (A : Int), 0, false)).length)) := fun W hW => HWo.out W (6, (A : Int), 0, false) hW
        have HC1 : Hid (kndI g (A : Int) ≠ 1 → cel12 g (6, (A : Int), 0, false) = []) := fun h => by rw [cel12_fin HF.out, usd_not h]; rfl
        have HC2 : Hid (kndI g (A : Int) = 1 → cel12 g (6, (A : Int), 0, false) = orI (ownC g (A : Int)) ∧ (orI (ownC g (A : Int))).length ≤ 8) := fun h => by
          have F := Fin_.of HF.out
          have hu := F.wu.six h
          have he : cel12 g (6, (A : Int), 0, false) = orI (ownC g (A : Int)) := by rw [cel12_used HF.out hu, cel_value F.used F.valA hu (by simp [whlB])]
          refine ⟨he, ?_⟩
          rw [← he, cel12_used HF.out hu]
          exact F.cel8 hu
        have HOl : Hid (∀ i, (ownP g (A : Int) i).length ≤ 512) := ownP_len (Fin_.of HF.out) _
        clear hAn
        go_wp2_with fail
        refine Calls.mono (HWq.out w3 HB3.out) ?_
        rintro e w4 ⟨rfl, hb4⟩
        have HB4 : Hid (Below w0.heap.size w0 w4) := bstep HB3.out hb4
        clear hb4 c0 c1 c2 c3 HWq
        obtain ⟨c0, c1, c2, c3⟩ := HC4.out w4 HB4.out
        go_wp2_with fail
        refine Calls.mono (HKn.out w4 _ HB4.out HF.out) ?_
        rintro e w5 ⟨rfl, hb5⟩
        have HB5 : Hid (Below w0.heap.size w0 w5) := bstep HB4.out hb5
        clear hb5 c0 c1 c2 c3
        obtain ⟨c0, c1, c2, c3⟩ := HC4.out w5 HB5.out
        by_cases hk : kndI g (A : Int) = 1
        · obtain ⟨he, h8⟩ := HC2.out hk
          rw [he, hk]
          clear hk he HC1 HC2
          have HOe : Hid ((orI (ownC g (A : Int))).length = if (ownC g (A : Int)).length = 0 then 1 else (ownC g (A : Int)).length) := by
            show _ = _
            unfold orI
            by_cases h0 : ownC g (A : Int) = []
            · rw [if_pos h0, h0]; rfl
            · rw [if_neg h0, if_neg (by intro e; exact h0 (List.eq_nil_of_length_eq_zero e))]
          generalize (orI (ownC g (A : Int))).length = N at *
          go_wp2_with fail
          clear c0 c1 c2 c3
          go_loopw [7, 9, 44] (fun sv _ z wr => ∃ i : Nat, i ≤ g.fs.length ∧ z = .int .i64 i ∧ sv = .int .i64 (ownP g (A : Int) i).length ∧ Hid (Below w0.heap.size w0 wr)) (fun _ _ z _ => g.fs.length - (intOf z).toNat)
          case atStart => exact ⟨0, Nat.zero_le _, rfl, rfl, HB5.out⟩
          case round =>
            obtain ⟨i, hi, rfl, rfl, HB⟩ := hrel
            by_cases hil : i < g.fs.length
            · have hii : (i : Int) < (g.fs.length : Int) := by omega
              obtain ⟨tb, off, hla, _, hel⟩ := (HFs.out w0 (Below.refl _ _)).elAll (by intro e; rw [e] at hil; simp at hil)
              subst hla
              obtain ⟨k0, k1, k2, k3, k4, k5, k6⟩ := (show El fdE wr tb (off + i * 7) g.fs[i] from hel wr HB.out i hil).cells_F
              have HT : Hid (ownP g (A : Int) (i + 1) = ownP g (A : Int) i ++ (if ownF (A : Int) g.fs[i] = true then celL g g.fs[i].t else [])) := ownP_take hil
              have HL1 : (ownP g (A : Int) i).length ≤ 512 := HOl.out i
              have HL2 := HOl.out (i + 1)
              rw [HT.out, List.length_append] at HL2
              have HCx : Hid (cel12 g g.fs[i].t = celL g g.fs[i].t) := cel12_used HF.out ((Fin_.of HF.out).used _ (List.getElem_mem hil))
              have HWx : Hid (∀ W, Below w0.heap.size w0 W → Ans 19 #[.agg #[.slice g.ta g.ts.length g.tc, .slice (some ⟨tb, off, none⟩) g.fs.length g.fc, .slice g.ma g.ms.length g.mc, .int .i64 g.en], .agg #[.int .i64 g.fs[i].t.1, .int .i64 g.fs[i].t.2.1, .int .i64 g.fs[i].t.2.2.1, .bool g.fs[i].t.2.2.2]] W (.int .i64 (celL g g.fs[i].t).length)) := fun W hW => by
                have := HWo.out W g.fs[i].t hW
                rw [HCx.out] at this; exact this
              clear hel HCx
              generalize g.fs[i] = x at *
              obtain ⟨wA, hwA⟩ : ∃ W, W = wr.alloc (.cells #[.string x.nm, .int .i64 x.ow, .int .i64 x.t.1, .int .i64 x.t.2.1, .int .i64 x.t.2.2.1, .bool x.t.2.2.2, .bool x.st] 50) := ⟨_, rfl⟩
              have HWA : Hid (wA = _) := hwA
              have hbA : Below wr.heap.size wr wA := by rw [hwA]; exact made_below _ _ _
              have hAA : At wA wr.heap.size #[.string x.nm, .int .i64 x.ow, .int .i64 x.t.1, .int .i64 x.t.2.1, .int .i64 x.t.2.2.1, .bool x.t.2.2.2, .bool x.st] 50 := by rw [hwA]; exact At.made _ _ _
              have HBA : Hid (Below w0.heap.size w0 wA) := bstep HB.out hbA
              obtain ⟨c0, c1, c2, c3⟩ := HC4.out wA HBA.out
              have a1 := hAA.cell 1
              have a2 := hAA.cell 2
              have a3 := hAA.cell 3
              have a4 := hAA.cell 4
              have a5 := hAA.cell 5
              have a6 := hAA.cell 6
              simp at a1 a2 a3 a4 a5 a6
              clear hwA hbA hAA
              have HF1 : Hid ((x.ow == (A : Int)) = false → ownF (A : Int) x = false) := ownF_false1
              have HF2 : Hid (x.st = true → ownF (A : Int) x = false) := ownF_false2
              have HF3 : Hid ((x.ow == (A : Int)) = true → x.st = false → ownF (A : Int) x = true) := ownF_true
              cases hob : (x.ow == (A : Int)) with
              | false =>
                have HT2 : Hid (ownP g (A : Int) (i + 1) = ownP g (A : Int) i) := by show _ = _; rw [HT.out, HF1.out hob]; simp
                clear HT HL2 HF1 HF2 HF3
                go_wp2_with (rw [← HWA.out])
                go_roundw
                case rel => exact ⟨i + 1, by omega, by go_num, by rw [HT2.out], HBA.out⟩
                case measure => simp [intOf]; omega
              | true =>
                cases hst : x.st with
                | true =>
                  have HT2 : Hid (ownP g (A : Int) (i + 1) = ownP g (A : Int) i) := by show _ = _; rw [HT.out, HF2.out hst]; simp
                  rw [hst] at a6 k6 HWA
                  clear HT HL2 HF1 HF2 HF3 hst
                  go_wp2_with (rw [← HWA.out])
                  go_roundw
                  case rel => exact ⟨i + 1, by omega, by go_num, by rw [HT2.out], HBA.out⟩
                  case measure => simp [intOf]; omega
                | false =>
                  have hown : ownF (A : Int) x = true := HF3.out hob hst
                  have HT2 : Hid (ownP g (A : Int) (i + 1) = ownP g (A : Int) i ++ celL g x.t) := by show _ = _; rw [HT.out, hown, if_pos rfl]
                  rw [hown, if_pos rfl] at HL2
                  rw [hst] at a6 k6 HWA
                  clear HT HF1 HF2 HF3 hst hown
                  go_wp2_with (rw [← HWA.out])
                  refine Calls.mono (HWx.out wA HBA.out) ?_
                  rintro e w6 ⟨rfl, hb6⟩
                  have HB6 : Hid (Below w0.heap.size w0 w6) := bstep HBA.out hb6
                  clear hb6 c0 c1 c2 c3 a1 a2 a3 a4 a5 a6 k0 k1 k2 k3 k4 k5 k6 HWA HWx
                  go_wp2_with fail
                  go_roundw
                  case rel => exact ⟨i + 1, by omega, by go_num, by rw [HT2.out]; simp [IntKind.wrap, IntKind.bits, IntKind.signed] <;> omega, HB6.out⟩
                  case measure => simp [intOf]; omega
            · have hii : ¬ (i : Int) < (g.fs.length : Int) := by omega
              have hPe : ownP g (A : Int) i = ownC g (A : Int) := ownP_all (by omega)
              rw [hPe]
              clear hPe
              generalize (ownC g (A : Int)).length = M at *
              by_cases hM : M = 0
              · have hN : N = 1 := by rw [HOe.out, if_pos hM]
                subst hM hN
                clear HOe
                go_wp2_with fail
                go_ret
                exact ⟨rfl, bstep HB0.out HB.out⟩
              · have hN : N = M := by rw [HOe.out, if_neg hM]
                subst hN
                have h1 : ¬ (N : Int) < 1 := by omega
                have h2 : (1 : Int) ≤ (N : Int) := by omega
                have h3 : (N : Int) ≤ 8 := by omega
                have h4 : max (N : Int) 1 = (N : Int) := by omega
                clear HOe hM
                go_wp2_with fail
                go_ret
                exact ⟨rfl, bstep HB0.out HB.out⟩
        · have hkb : (kndI g (A : Int) != 1) = true := by simpa using hk
          rw [HC1.out hk]
          clear hk HC1 HC2
          go_wp2_with fail
          go_ret
          exact ⟨rfl, bstep HB0.out HB5.out⟩

end Go.Proofs.YtkjailahaopehaaGreat
