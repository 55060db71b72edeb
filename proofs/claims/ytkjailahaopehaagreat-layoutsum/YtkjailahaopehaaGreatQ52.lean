/- Texts joined: RefPlc12. -/
import Derived.Test.YtkjailahaopehaaGreatQ51
import Derived.Test.YtkjailahaopehaaGreatQ40
namespace Go.Proofs.YtkjailahaopehaaGreat
set_option linter.unusedVariables false
set_option linter.unusedSimpArgs false
open Go.RowKit
attribute [local go_sem ↓] Go.wp_at_zero Go.wp_at_succ
theorem fwd_static {g : Img} {x : FD} (h : x.st = true) (q : Nat) : fwdN g x q = (statL g q).length := by
 unfold fwdN statL
 congr 2
 refine List.filter_congr fun y _ => ?_
 unfold togB
 rw [h]
 cases y.st <;> simp
theorem fwd_own {g : Img} {x : FD} (h : x.st = false) (q : Nat) : fwdN g x q = (ownP g x.ow q).length := by
 unfold fwdN ownP
 congr 2
 refine List.filter_congr fun y _ => ?_
 unfold togB ownF
 rw [h]
 cases y.st <;> simp

set_option maxHeartbeats 16000000 in
set_option maxRecDepth 20000 in
theorem refPlace_any {g : Img} (F : Fin_ g) {q : Nat} {w : World} (hg : Im w g) (hq : q < g.fs.length) : Ans 29 #[imA4 g, .int .i64 (q : Int)] w (.int .i64 (plcN g g.fs[q] q : Nat)) := by
 obtain ⟨w0, HW0, HB0, HG, HC, HI, c0, c1, c2, c3⟩ := img_head hg
 have hfl := hg.fs.len
 unfold maxLen at hfl
 have how := fld_own F.wu.im (List.getElem_mem hq)
 obtain ⟨o, hoo, hol⟩ := num_nat how
 have hoi : (o : Int) < (g.ts.length : Int) := by omega
 have HFs : Hid (∀ W, Below w0.heap.size w0 W → Es fdE W (.slice g.fa g.fs.length g.fc) g.fs) := fun W hW => (HI.out W hW).fs
 have HTs : Hid (∀ W, Below w0.heap.size w0 W → Es tdE W (.slice g.ta g.ts.length g.tc) g.ts) := fun W hW => (HI.out W hW).ts
 have HC4 : Hid (∀ W, Below w0.heap.size w0 W → Im4 W w.heap.size g) := HC.out
 have HSt : Hid (∀ W, Below w0.heap.size w0 W → AnsT 28 #[imA4 g, .int .i64 (q : Int)] W (statL g q)) := fun W hW => refStatics_any F (HI.out W hW) (by omega)
 have HOb : Hid (∀ W t, Below w0.heap.size w0 W → AnsT 27 #[imA4 g, .int .i64 t] W (objL g t)) := fun W t hW => refObject_any F (HI.out W hW)
 have HKn : Hid (∀ W t, Below w0.heap.size w0 W → Ans 26 #[imA4 g, .int .i64 t] W (.int .i64 (kndI g t))) := fun W t hW => refKind_any t (HI.out W hW) (FlOk.of F.wu.im)
 have HCe : Hid (∀ W (i : Nat) (h : i < g.fs.length), Below w0.heap.size w0 W → AnsT 22 #[imA4 g, .agg #[.int .i64 g.fs[i].t.1, .int .i64 g.fs[i].t.2.1, .int .i64 g.fs[i].t.2.2.1, .bool g.fs[i].t.2.2.2]] W (celL g g.fs[i].t)) := fun W i h hW => refCells_any F (HI.out W hW) (F.used _ (List.getElem_mem h))
 have HOl : Hid (∀ u i, (ownP g u i).length ≤ 512) := fun u i => ownP_len F u i
 have HEx : Hid (g.ts[o].ex = -1 ∨ ∃ U : Nat, g.ts[o].ex = (U : Int) ∧ (kndI g (o : Int) = 0 → (objL g (U : Int)).length ≤ 32)) := by
  show _ ∨ _
  rcases (im_type F.wu.im hol).1 with h | h
  ·exact Or.inl h
  ·obtain ⟨U, hU, hUl⟩ := num_nat h
   refine Or.inr ⟨U, hU, fun _ => ?_⟩
   have := ext_class F hol
   rw [exI_at hol, hU] at this
   rcases this with h2 | h2
   ·exact F.cls _ h2
   ·rw [← hU, h] at h2; cases h2
 have HBg : Hid (begN g g.fs[q] = if g.fs[q].st = true then 0 else if kndI g (o : Int) = 0 then 1 + (objL g g.ts[o].ex).length else 0) := by show _ = _; unfold begN; rw [hoo, exI_at hol]
 have HPl : Hid (plcN g g.fs[q] q = begN g g.fs[q] + fwdN g g.fs[q] q) := rfl
 have HP1 : Hid (g.fs[q].st = true → fwdN g g.fs[q] q = (statL g q).length) := fun h => fwd_static h q
 have HP2 : Hid (g.fs[q].st = false → fwdN g g.fs[q] q = (ownP g (o : Int) q).length) := fun h => by rw [fwd_own h, hoo]
 have HOut : Hid (objL g (-1) = []) := objL_out rfl
 obtain ⟨fb, foff, hfa, _, hel⟩ := (HFs.out w0 (Below.refl _ _)).elAll (by intro e; rw [e] at hq; simp at hq)
 obtain ⟨tb, toff, hta, _, htl⟩ := (HTs.out w0 (Below.refl _ _)).elAll (by intro e; rw [e] at hol; simp at hol)
 have HEl : Hid (∀ W, Below w0.heap.size w0 W → ∀ i (h : i < g.fs.length), El fdE W fb (foff + i * 7) g.fs[i]) := fun W hW i h => hel W hW i h
 have HTl : Hid (∀ W, Below w0.heap.size w0 W → W.cell? ⟨tb, toff + o * 4 + 2, none⟩ = some (.int .i64 g.ts[o].ex)) := fun W hW => (show El tdE W tb (toff + o * 4) g.ts[o] from htl W hW o hol).cells_T.2.2.1
 unfold imA4 at HSt HOb HKn HCe ⊢
 unfold Im4 at HC4
 have hqi : (q : Int) < (g.fs.length : Int) := by omega
 -- from here by program (tools/mkrefplc.py)
 rw [hfa] at HSt HOb HKn HCe HC4 HW0 c1 ⊢
 rw [hta] at HSt HOb HKn HCe HC4 HW0 c0 ⊢
 have HRn : Hid ((plcN g g.fs[q] q : Nat) = begN g g.fs[q] + fwdN g g.fs[q] q) := rfl
 obtain ⟨R, hR⟩ : ∃ R : Int, R = (plcN g g.fs[q] q : Nat) := ⟨_, rfl⟩
 have HR : Hid (R = ((begN g g.fs[q] + fwdN g g.fs[q] q : Nat) : Int)) := by show _ = _; rw [hR]; rfl
 rw [← hR]
 have HXl : Hid (∀ W, Below w0.heap.size w0 W → El fdE W fb (foff + q * 7) g.fs[q]) := fun W hW => HEl.out W hW q hq
 clear hg HC HI F HG hel htl hfa hta how HFs HTs HPl HRn hR
 generalize g.fs[q] = x at *
 obtain ⟨k0, k1, k2, k3, k4, k5, k6⟩ := (HXl.out w0 (Below.refl _ _)).cells_F
 rw [hoo] at k1
 generalize g.ts[o].ex = ex at *
 obtain ⟨wA, hwA⟩ : ∃ W, W = w0.alloc (.cells #[.string x.nm, .int .i64 (o : Int), .int .i64 x.t.1, .int .i64 x.t.2.1, .int .i64 x.t.2.2.1, .bool x.t.2.2.2, .bool x.st] 50) := ⟨_, rfl⟩
 have HWA : Hid (wA = _) := hwA
 have hbA : Below w0.heap.size w0 wA := by rw [hwA]; exact made_below _ _ _
 have hAA : At wA w0.heap.size #[.string x.nm, .int .i64 (o : Int), .int .i64 x.t.1, .int .i64 x.t.2.1, .int .i64 x.t.2.2.1, .bool x.t.2.2.2, .bool x.st] 50 := by rw [hwA]; exact At.made _ _ _
 have HBA : Hid (Below w0.heap.size w0 wA) := hbA
 have HX1 : Hid (∀ W, Below wA.heap.size wA W → W.cell? ⟨w0.heap.size, 1, none⟩ = some (.int .i64 (o : Int))) := fun W hW => (hAA.later hW).cell 1
 have a1 := hAA.cell 1
 have a6 := hAA.cell 6
 simp at a1 a6
 obtain ⟨b0, b1, b2, b3⟩ := HC4.out wA hbA
 clear hwA hbA hAA hoo
 go_enter Tryz.func29, Tryz.ntmps29
 cases hst : x.st with
 | true =>
  rw [hst] at k6 a6 HWA
  have HR2 : Hid (R = ((statL g q).length : Int)) := by show _ = _; rw [HR.out, HBg.out, if_pos hst, HP1.out hst]; omega
  clear hst
  go_wp2_with (first | (rw [← HWA.out]) | (rw [← HW0.out]))
  refine Calls.mono (HSt.out wA HBA.out) ?_
  rintro e w2 ⟨v, rfl, ho, hb2⟩
  have HB2 : Hid (Below w.heap.size w w2) := bstep HB0.out (bstep HBA.out hb2)
  obtain ⟨a, c, hv, _, _⟩ := ho.shape
  subst hv
  clear ho hb2 c0 c1 c2 c3 b0 b1 b2 b3
  go_wp2_with fail
  go_ret
  exact ⟨ret_int HR2.out.symm, HB2.out⟩
 | false =>
  rw [hst] at k6 a6 HWA
  have HR1 : Hid (R = (((if kndI g (o : Int) = 0 then 1 + (objL g ex).length else 0) + (ownP g (o : Int) q).length : Nat) : Int)) := by show _ = _; rw [HR.out, HBg.out, if_neg (by rw [hst]; decide), HP2.out hst]
  clear hst HR HBg HP1 HP2
  have HKq : Hid _ := HKn.out wA (o : Int) HBA.out
  go_wp2_with (first | (rw [← HWA.out]) | (rw [← HW0.out]))
  refine Calls.mono HKq.out ?_
  rintro e w2 ⟨rfl, hb2⟩
  have HB2 : Hid (Below wA.heap.size wA w2) := hb2
  have HTx : Hid (∀ W, Below wA.heap.size wA W → W.cell? ⟨tb, toff + o * 4 + 2, none⟩ = some (.int .i64 ex)) := fun W hW => HTl.out W (bstep HBA.out hW)
  have e1 := HX1.out w2 hb2
  have e2 := HTx.out w2 hb2
  clear hb2 c0 c1 c2 c3 b0 b1 b2 b3 a1 a6 k0 k1 k2 k3 k4 k5 k6 HKq
  obtain ⟨c0, c1, c2, c3⟩ := HC4.out w2 (bstep HBA.out HB2.out)
  by_cases hk : kndI g (o : Int) = 0
  ·rcases HEx.out with hex | ⟨U, hU, hUl⟩
   ·subst hex
    have HR2 : Hid (R = (1 : Int) + ((ownP g (o : Int) q).length : Int)) := by show _ = _; rw [HR1.out, if_pos hk, HOut.out]; simp
    rw [hk]
    clear HR1 hk
    go_wp2_with fail
    clear c0 c1 c2 c3 e1 e2
    go_loopw [6, 8] (fun av z wr => ∃ i : Nat, i ≤ q ∧ z = .int .i64 i ∧ av = .int .i64 ((1 : Int) + ((ownP g (o : Int) i).length : Int)) ∧ Hid (Below wA.heap.size wA wr)) (fun _ z _ => q - (intOf z).toNat)
    case atStart => exact ⟨0, Nat.zero_le _, rfl, by simp [ownP], HB2.out⟩
    case round =>
     obtain ⟨i, hi, rfl, rfl, HB⟩ := hrel
     by_cases hiq : i < q
     ·have hiqi : (i : Int) < (q : Int) := by omega
      have hil : i < g.fs.length := by omega
      have hii : (i : Int) < (g.fs.length : Int) := by omega
      have HT : Hid (ownP g (o : Int) (i + 1) = ownP g (o : Int) i ++ (if ownF (o : Int) g.fs[i] = true then celL g g.fs[i].t else [])) := ownP_take hil
      have HL1 : (ownP g (o : Int) i).length ≤ 512 := HOl.out (o : Int) i
      have HL2 := HOl.out (o : Int) (i + 1)
      rw [HT.out, List.length_append] at HL2
      have HCr : Hid (∀ W, Below wA.heap.size wA W → AnsT 22 #[.agg #[.slice (some ⟨tb, toff, none⟩) g.ts.length g.tc, .slice (some ⟨fb, foff, none⟩) g.fs.length g.fc, .slice g.ma g.ms.length g.mc, .int .i64 g.en], .agg #[.int .i64 g.fs[i].t.1, .int .i64 g.fs[i].t.2.1, .int .i64 g.fs[i].t.2.2.1, .bool g.fs[i].t.2.2.2]] W (celL g g.fs[i].t)) := fun W hW => HCe.out W i hil (bstep HBA.out hW)
      have HK : Hid (∀ W, Below wA.heap.size wA W → (W.cell? ⟨w.heap.size, 0, none⟩ = some (.slice (some ⟨tb, toff, none⟩) g.ts.length g.tc) ∧ W.cell? ⟨w.heap.size, 1, none⟩ = some (.slice (some ⟨fb, foff, none⟩) g.fs.length g.fc) ∧ W.cell? ⟨w.heap.size, 2, none⟩ = some (.slice g.ma g.ms.length g.mc) ∧ W.cell? ⟨w.heap.size, 3, none⟩ = some (.int .i64 g.en)) ∧ W.cell? ⟨w0.heap.size, 1, none⟩ = some (.int .i64 (o : Int)) ∧ W.cell? ⟨fb, foff + i * 7, none⟩ = some (.string g.fs[i].nm) ∧ W.cell? ⟨fb, foff + i * 7 + 1, none⟩ = some (.int .i64 g.fs[i].ow) ∧ W.cell? ⟨fb, foff + i * 7 + 2, none⟩ = some (.int .i64 g.fs[i].t.1) ∧ W.cell? ⟨fb, foff + i * 7 + 3, none⟩ = some (.int .i64 g.fs[i].t.2.1) ∧ W.cell? ⟨fb, foff + i * 7 + 4, none⟩ = some (.int .i64 g.fs[i].t.2.2.1) ∧ W.cell? ⟨fb, foff + i * 7 + 5, none⟩ = some (.bool g.fs[i].t.2.2.2) ∧ W.cell? ⟨fb, foff + i * 7 + 6, none⟩ = some (.bool g.fs[i].st)) := fun W hW => ⟨HC4.out W (bstep HBA.out hW), HX1.out W hW, (HEl.out W (bstep HBA.out hW) i hil).cells_F⟩
      generalize g.fs[i] = y at *
      obtain ⟨⟨c0, c1, c2, c3⟩, d1, k0, k1, k2, k3, k4, k5, k6⟩ := HK.out wr HB.out
      have HF1 : Hid ((y.ow == (o : Int)) = false → ownF (o : Int) y = false) := ownF_false1
      have HF2 : Hid (y.st = true → ownF (o : Int) y = false) := ownF_false2
      have HF3 : Hid ((y.ow == (o : Int)) = true → y.st = false → ownF (o : Int) y = true) := ownF_true
      cases hob : (y.ow == (o : Int)) with
      | false =>
       have HT2 : Hid (ownP g (o : Int) (i + 1) = ownP g (o : Int) i) := by show _ = _; rw [HT.out, HF1.out hob]; simp
       clear HT HL2 HF1 HF2 HF3
       go_wp2_with fail
       go_quiet (fail)
       go_wp2_with fail
       go_roundw
       case rel => exact ⟨i + 1, by omega, by go_num, by rw [HT2.out], Below.drewN HB.out _⟩
       case measure => simp [intOf]; omega
      | true =>
       cases hst2 : y.st with
       | true =>
        have HT2 : Hid (ownP g (o : Int) (i + 1) = ownP g (o : Int) i) := by show _ = _; rw [HT.out, HF2.out hst2]; simp
        rw [hst2] at k6
        clear HT HL2 HF1 HF2 HF3 hst2
        go_wp2_with fail
        go_quiet (fail)
        go_wp2_with fail
        go_roundw
        case rel => exact ⟨i + 1, by omega, by go_num, by rw [HT2.out], Below.drewN HB.out _⟩
        case measure => simp [intOf]; omega
       | false =>
        have hown : ownF (o : Int) y = true := HF3.out hob hst2
        have HT2 : Hid (ownP g (o : Int) (i + 1) = ownP g (o : Int) i ++ celL g y.t) := by show _ = _; rw [HT.out, hown, if_pos rfl]
        rw [hown, if_pos rfl] at HL2
        rw [hst2] at k6 HK
        clear HT HF1 HF2 HF3 hst2 hown
        generalize ownP g (o : Int) i = P at *
        generalize celL g y.t = C at *
        go_wp2_with fail
        go_quiet (fail)
        have HB4 : Hid (Below wA.heap.size wA (wr.drewN nq)) := Below.drewN HB.out nq
        clear c0 c1 c2 c3 d1 k0 k1 k2 k3 k4 k5 k6
        revert HB4
        generalize wr.drewN nq = w4
        intro HB4
        obtain ⟨⟨c0, c1, c2, c3⟩, d1, k0, k1, k2, k3, k4, k5, k6⟩ := HK.out w4 HB4.out
        go_wp2_with fail
        go_region_held3 (fun W : World => (W.cell? ⟨w.heap.size, 0, none⟩ = some (.slice (some ⟨tb, toff, none⟩) g.ts.length g.tc) ∧ W.cell? ⟨w.heap.size, 1, none⟩ = some (.slice (some ⟨fb, foff, none⟩) g.fs.length g.fc) ∧ W.cell? ⟨w.heap.size, 2, none⟩ = some (.slice g.ma g.ms.length g.mc) ∧ W.cell? ⟨w.heap.size, 3, none⟩ = some (.int .i64 g.en)) ∧ W.cell? ⟨w0.heap.size, 1, none⟩ = some (.int .i64 (o : Int)) ∧ W.cell? ⟨fb, foff + i * 7, none⟩ = some (.string y.nm) ∧ W.cell? ⟨fb, foff + i * 7 + 1, none⟩ = some (.int .i64 y.ow) ∧ W.cell? ⟨fb, foff + i * 7 + 2, none⟩ = some (.int .i64 y.t.1) ∧ W.cell? ⟨fb, foff + i * 7 + 3, none⟩ = some (.int .i64 y.t.2.1) ∧ W.cell? ⟨fb, foff + i * 7 + 4, none⟩ = some (.int .i64 y.t.2.2.1) ∧ W.cell? ⟨fb, foff + i * 7 + 5, none⟩ = some (.bool y.t.2.2.2) ∧ W.cell? ⟨fb, foff + i * 7 + 6, none⟩ = some (.bool false))
         (first | (exact HK.out _ (bstep HB4.out hBc)) | (exact HK.out _ (bstep HB4.out (bdrew _))))
         ((go_at_call 22; refine (HCr.out _ (bstep HB4.out (bdrew _))).mono ?_; rintro e w5 ⟨hv, rfl, hv2, hb5⟩; obtain ⟨ha, hc2, hvv, _, hhc⟩ := hv2.shape; subst hvv; have hBc : Below w4.heap.size w4 w5 := bstep (bdrew _) hb5))
        rename_i hheld
        clear hheld
        have HB5 : Hid (Below wA.heap.size wA w5) := bstep HB4.out hBc
        clear hv2 hb5 hBc c0 c1 c2 c3 d1 k0 k1 k2 k3 k4 k5 k6 HK HCr
        go_wp2_with fail
        go_roundw
        case rel => exact ⟨i + 1, by omega, by go_num, by rw [HT2.out] <;> (simp [IntKind.wrap, IntKind.bits, IntKind.signed] <;> omega), HB5.out⟩
        case measure => simp [intOf]; omega
     ·have hiqi : ¬ (i : Int) < (q : Int) := by omega
      have hie : i = q := by omega
      have HRR : Hid (R = (1 : Int) + ((ownP g (o : Int) i).length : Int)) := by show _ = _; rw [HR2.out, hie]
      clear hie
      go_wp2_with fail
      go_ret
      exact ⟨ret_int (by have := HRR.out; omega), bstep HB0.out (bstep HBA.out HB.out)⟩
   ·subst hU
    have hU0 : (0 : Int) ≤ (U : Int) := by omega
    have hOU := hUl hk
    have HOq : Hid _ := HOb.out w2 (U : Int) (bstep HBA.out HB2.out)
    have HR2 : Hid (R = (1 : Int) + ((objL g (U : Int)).length : Int) + ((ownP g (o : Int) q).length : Int)) := by show _ = _; rw [HR1.out, if_pos hk]; omega
    rw [hk]
    clear HR1 hk hUl
    generalize objL g (U : Int) = OU at *
    go_wp2_with fail
    refine Calls.mono HOq.out ?_
    rintro e w3 ⟨v, rfl, ho, hb3⟩
    have HB3 : Hid (Below wA.heap.size wA w3) := bstep HB2.out hb3
    obtain ⟨a, c, hv, _, _⟩ := ho.shape
    subst hv
    clear ho hb3 c0 c1 c2 c3 e1 e2 HOq
    have hwr : IntKind.i64.wrap (1 + (OU.length : Int)) = 1 + (OU.length : Int) := by simp [IntKind.wrap, IntKind.bits, IntKind.signed]; omega
    go_wp2_with fail
    go_loopw [6, 8] (fun av z wr => ∃ i : Nat, i ≤ q ∧ z = .int .i64 i ∧ av = .int .i64 ((1 + (OU.length : Int) : Int) + ((ownP g (o : Int) i).length : Int)) ∧ Hid (Below wA.heap.size wA wr)) (fun _ z _ => q - (intOf z).toNat)
    case atStart => exact ⟨0, Nat.zero_le _, rfl, by simp [ownP, IntKind.wrap, IntKind.bits, IntKind.signed] <;> omega, HB3.out⟩
    case round =>
     obtain ⟨i, hi, rfl, rfl, HB⟩ := hrel
     by_cases hiq : i < q
     ·have hiqi : (i : Int) < (q : Int) := by omega
      have hil : i < g.fs.length := by omega
      have hii : (i : Int) < (g.fs.length : Int) := by omega
      have HT : Hid (ownP g (o : Int) (i + 1) = ownP g (o : Int) i ++ (if ownF (o : Int) g.fs[i] = true then celL g g.fs[i].t else [])) := ownP_take hil
      have HL1 : (ownP g (o : Int) i).length ≤ 512 := HOl.out (o : Int) i
      have HL2 := HOl.out (o : Int) (i + 1)
      rw [HT.out, List.length_append] at HL2
      have HCr : Hid (∀ W, Below wA.heap.size wA W → AnsT 22 #[.agg #[.slice (some ⟨tb, toff, none⟩) g.ts.length g.tc, .slice (some ⟨fb, foff, none⟩) g.fs.length g.fc, .slice g.ma g.ms.length g.mc, .int .i64 g.en], .agg #[.int .i64 g.fs[i].t.1, .int .i64 g.fs[i].t.2.1, .int .i64 g.fs[i].t.2.2.1, .bool g.fs[i].t.2.2.2]] W (celL g g.fs[i].t)) := fun W hW => HCe.out W i hil (bstep HBA.out hW)
      have HK : Hid (∀ W, Below wA.heap.size wA W → (W.cell? ⟨w.heap.size, 0, none⟩ = some (.slice (some ⟨tb, toff, none⟩) g.ts.length g.tc) ∧ W.cell? ⟨w.heap.size, 1, none⟩ = some (.slice (some ⟨fb, foff, none⟩) g.fs.length g.fc) ∧ W.cell? ⟨w.heap.size, 2, none⟩ = some (.slice g.ma g.ms.length g.mc) ∧ W.cell? ⟨w.heap.size, 3, none⟩ = some (.int .i64 g.en)) ∧ W.cell? ⟨w0.heap.size, 1, none⟩ = some (.int .i64 (o : Int)) ∧ W.cell? ⟨fb, foff + i * 7, none⟩ = some (.string g.fs[i].nm) ∧ W.cell? ⟨fb, foff + i * 7 + 1, none⟩ = some (.int .i64 g.fs[i].ow) ∧ W.cell? ⟨fb, foff + i * 7 + 2, none⟩ = some (.int .i64 g.fs[i].t.1) ∧ W.cell? ⟨fb, foff + i * 7 + 3, none⟩ = some (.int .i64 g.fs[i].t.2.1) ∧ W.cell? ⟨fb, foff + i * 7 + 4, none⟩ = some (.int .i64 g.fs[i].t.2.2.1) ∧ W.cell? ⟨fb, foff + i * 7 + 5, none⟩ = some (.bool g.fs[i].t.2.2.2) ∧ W.cell? ⟨fb, foff + i * 7 + 6, none⟩ = some (.bool g.fs[i].st)) := fun W hW => ⟨HC4.out W (bstep HBA.out hW), HX1.out W hW, (HEl.out W (bstep HBA.out hW) i hil).cells_F⟩
      generalize g.fs[i] = y at *
      obtain ⟨⟨c0, c1, c2, c3⟩, d1, k0, k1, k2, k3, k4, k5, k6⟩ := HK.out wr HB.out
      have HF1 : Hid ((y.ow == (o : Int)) = false → ownF (o : Int) y = false) := ownF_false1
      have HF2 : Hid (y.st = true → ownF (o : Int) y = false) := ownF_false2
      have HF3 : Hid ((y.ow == (o : Int)) = true → y.st = false → ownF (o : Int) y = true) := ownF_true
      cases hob : (y.ow == (o : Int)) with
      | false =>
       have HT2 : Hid (ownP g (o : Int) (i + 1) = ownP g (o : Int) i) := by show _ = _; rw [HT.out, HF1.out hob]; simp
       clear HT HL2 HF1 HF2 HF3
       go_wp2_with fail
       go_quiet (fail)
       go_wp2_with fail
       go_roundw
       case rel => exact ⟨i + 1, by omega, by go_num, by rw [HT2.out], Below.drewN HB.out _⟩
       case measure => simp [intOf]; omega
      | true =>
       cases hst2 : y.st with
       | true =>
        have HT2 : Hid (ownP g (o : Int) (i + 1) = ownP g (o : Int) i) := by show _ = _; rw [HT.out, HF2.out hst2]; simp
        rw [hst2] at k6
        clear HT HL2 HF1 HF2 HF3 hst2
        go_wp2_with fail
        go_quiet (fail)
        go_wp2_with fail
        go_roundw
        case rel => exact ⟨i + 1, by omega, by go_num, by rw [HT2.out], Below.drewN HB.out _⟩
        case measure => simp [intOf]; omega
       | false =>
        have hown : ownF (o : Int) y = true := HF3.out hob hst2
        have HT2 : Hid (ownP g (o : Int) (i + 1) = ownP g (o : Int) i ++ celL g y.t) := by show _ = _; rw [HT.out, hown, if_pos rfl]
        rw [hown, if_pos rfl] at HL2
        rw [hst2] at k6 HK
        clear HT HF1 HF2 HF3 hst2 hown
        generalize ownP g (o : Int) i = P at *
        generalize celL g y.t = C at *
        go_wp2_with fail
        go_quiet (fail)
        have HB4 : Hid (Below wA.heap.size wA (wr.drewN nq)) := Below.drewN HB.out nq
        clear c0 c1 c2 c3 d1 k0 k1 k2 k3 k4 k5 k6
        revert HB4
        generalize wr.drewN nq = w4
        intro HB4
        obtain ⟨⟨c0, c1, c2, c3⟩, d1, k0, k1, k2, k3, k4, k5, k6⟩ := HK.out w4 HB4.out
        go_wp2_with fail
        go_region_held3 (fun W : World => (W.cell? ⟨w.heap.size, 0, none⟩ = some (.slice (some ⟨tb, toff, none⟩) g.ts.length g.tc) ∧ W.cell? ⟨w.heap.size, 1, none⟩ = some (.slice (some ⟨fb, foff, none⟩) g.fs.length g.fc) ∧ W.cell? ⟨w.heap.size, 2, none⟩ = some (.slice g.ma g.ms.length g.mc) ∧ W.cell? ⟨w.heap.size, 3, none⟩ = some (.int .i64 g.en)) ∧ W.cell? ⟨w0.heap.size, 1, none⟩ = some (.int .i64 (o : Int)) ∧ W.cell? ⟨fb, foff + i * 7, none⟩ = some (.string y.nm) ∧ W.cell? ⟨fb, foff + i * 7 + 1, none⟩ = some (.int .i64 y.ow) ∧ W.cell? ⟨fb, foff + i * 7 + 2, none⟩ = some (.int .i64 y.t.1) ∧ W.cell? ⟨fb, foff + i * 7 + 3, none⟩ = some (.int .i64 y.t.2.1) ∧ W.cell? ⟨fb, foff + i * 7 + 4, none⟩ = some (.int .i64 y.t.2.2.1) ∧ W.cell? ⟨fb, foff + i * 7 + 5, none⟩ = some (.bool y.t.2.2.2) ∧ W.cell? ⟨fb, foff + i * 7 + 6, none⟩ = some (.bool false))
         (first | (exact HK.out _ (bstep HB4.out hBc)) | (exact HK.out _ (bstep HB4.out (bdrew _))))
         ((go_at_call 22; refine (HCr.out _ (bstep HB4.out (bdrew _))).mono ?_; rintro e w5 ⟨hv, rfl, hv2, hb5⟩; obtain ⟨ha, hc2, hvv, _, hhc⟩ := hv2.shape; subst hvv; have hBc : Below w4.heap.size w4 w5 := bstep (bdrew _) hb5))
        rename_i hheld
        clear hheld
        have HB5 : Hid (Below wA.heap.size wA w5) := bstep HB4.out hBc
        clear hv2 hb5 hBc c0 c1 c2 c3 d1 k0 k1 k2 k3 k4 k5 k6 HK HCr
        go_wp2_with fail
        go_roundw
        case rel => exact ⟨i + 1, by omega, by go_num, by rw [HT2.out] <;> (simp [IntKind.wrap, IntKind.bits, IntKind.signed] <;> omega), HB5.out⟩
        case measure => simp [intOf]; omega
     ·have hiqi : ¬ (i : Int) < (q : Int) := by omega
      have hie : i = q := by omega
      have HRR : Hid (R = (1 + (OU.length : Int) : Int) + ((ownP g (o : Int) i).length : Int)) := by show _ = _; rw [HR2.out, hie]
      clear hie
      go_wp2_with fail
      go_ret
      exact ⟨ret_int (by have := HRR.out; omega), bstep HB0.out (bstep HBA.out HB.out)⟩
  ·have hkb : (kndI g (o : Int) == 0) = false := by simpa using hk
   have HR2 : Hid (R = (0 : Int) + ((ownP g (o : Int) q).length : Int)) := by show _ = _; rw [HR1.out, if_neg hk]; omega
   clear HR1 hk
   go_wp2_with fail
   clear c0 c1 c2 c3 e1 e2
   go_loopw [6, 8] (fun av z wr => ∃ i : Nat, i ≤ q ∧ z = .int .i64 i ∧ av = .int .i64 ((0 : Int) + ((ownP g (o : Int) i).length : Int)) ∧ Hid (Below wA.heap.size wA wr)) (fun _ z _ => q - (intOf z).toNat)
   case atStart => exact ⟨0, Nat.zero_le _, rfl, by simp [ownP], HB2.out⟩
   case round =>
    obtain ⟨i, hi, rfl, rfl, HB⟩ := hrel
    by_cases hiq : i < q
    ·have hiqi : (i : Int) < (q : Int) := by omega
     have hil : i < g.fs.length := by omega
     have hii : (i : Int) < (g.fs.length : Int) := by omega
     have HT : Hid (ownP g (o : Int) (i + 1) = ownP g (o : Int) i ++ (if ownF (o : Int) g.fs[i] = true then celL g g.fs[i].t else [])) := ownP_take hil
     have HL1 : (ownP g (o : Int) i).length ≤ 512 := HOl.out (o : Int) i
     have HL2 := HOl.out (o : Int) (i + 1)
     rw [HT.out, List.length_append] at HL2
     have HCr : Hid (∀ W, Below wA.heap.size wA W → AnsT 22 #[.agg #[.slice (some ⟨tb, toff, none⟩) g.ts.length g.tc, .slice (some ⟨fb, foff, none⟩) g.fs.length g.fc, .slice g.ma g.ms.length g.mc, .int .i64 g.en], .agg #[.int .i64 g.fs[i].t.1, .int .i64 g.fs[i].t.2.1, .int .i64 g.fs[i].t.2.2.1, .bool g.fs[i].t.2.2.2]] W (celL g g.fs[i].t)) := fun W hW => HCe.out W i hil (bstep HBA.out hW)
     have HK : Hid (∀ W, Below wA.heap.size wA W → (W.cell? ⟨w.heap.size, 0, none⟩ = some (.slice (some ⟨tb, toff, none⟩) g.ts.length g.tc) ∧ W.cell? ⟨w.heap.size, 1, none⟩ = some (.slice (some ⟨fb, foff, none⟩) g.fs.length g.fc) ∧ W.cell? ⟨w.heap.size, 2, none⟩ = some (.slice g.ma g.ms.length g.mc) ∧ W.cell? ⟨w.heap.size, 3, none⟩ = some (.int .i64 g.en)) ∧ W.cell? ⟨w0.heap.size, 1, none⟩ = some (.int .i64 (o : Int)) ∧ W.cell? ⟨fb, foff + i * 7, none⟩ = some (.string g.fs[i].nm) ∧ W.cell? ⟨fb, foff + i * 7 + 1, none⟩ = some (.int .i64 g.fs[i].ow) ∧ W.cell? ⟨fb, foff + i * 7 + 2, none⟩ = some (.int .i64 g.fs[i].t.1) ∧ W.cell? ⟨fb, foff + i * 7 + 3, none⟩ = some (.int .i64 g.fs[i].t.2.1) ∧ W.cell? ⟨fb, foff + i * 7 + 4, none⟩ = some (.int .i64 g.fs[i].t.2.2.1) ∧ W.cell? ⟨fb, foff + i * 7 + 5, none⟩ = some (.bool g.fs[i].t.2.2.2) ∧ W.cell? ⟨fb, foff + i * 7 + 6, none⟩ = some (.bool g.fs[i].st)) := fun W hW => ⟨HC4.out W (bstep HBA.out hW), HX1.out W hW, (HEl.out W (bstep HBA.out hW) i hil).cells_F⟩
     generalize g.fs[i] = y at *
     obtain ⟨⟨c0, c1, c2, c3⟩, d1, k0, k1, k2, k3, k4, k5, k6⟩ := HK.out wr HB.out
     have HF1 : Hid ((y.ow == (o : Int)) = false → ownF (o : Int) y = false) := ownF_false1
     have HF2 : Hid (y.st = true → ownF (o : Int) y = false) := ownF_false2
     have HF3 : Hid ((y.ow == (o : Int)) = true → y.st = false → ownF (o : Int) y = true) := ownF_true
     cases hob : (y.ow == (o : Int)) with
     | false =>
      have HT2 : Hid (ownP g (o : Int) (i + 1) = ownP g (o : Int) i) := by show _ = _; rw [HT.out, HF1.out hob]; simp
      clear HT HL2 HF1 HF2 HF3
      go_wp2_with fail
      go_quiet (fail)
      go_wp2_with fail
      go_roundw
      case rel => exact ⟨i + 1, by omega, by go_num, by rw [HT2.out], Below.drewN HB.out _⟩
      case measure => simp [intOf]; omega
     | true =>
      cases hst2 : y.st with
      | true =>
       have HT2 : Hid (ownP g (o : Int) (i + 1) = ownP g (o : Int) i) := by show _ = _; rw [HT.out, HF2.out hst2]; simp
       rw [hst2] at k6
       clear HT HL2 HF1 HF2 HF3 hst2
       go_wp2_with fail
       go_quiet (fail)
       go_wp2_with fail
       go_roundw
       case rel => exact ⟨i + 1, by omega, by go_num, by rw [HT2.out], Below.drewN HB.out _⟩
       case measure => simp [intOf]; omega
      | false =>
       have hown : ownF (o : Int) y = true := HF3.out hob hst2
       have HT2 : Hid (ownP g (o : Int) (i + 1) = ownP g (o : Int) i ++ celL g y.t) := by show _ = _; rw [HT.out, hown, if_pos rfl]
       rw [hown, if_pos rfl] at HL2
       rw [hst2] at k6 HK
       clear HT HF1 HF2 HF3 hst2 hown
       generalize ownP g (o : Int) i = P at *
       generalize celL g y.t = C at *
       go_wp2_with fail
       go_quiet (fail)
       have HB4 : Hid (Below wA.heap.size wA (wr.drewN nq)) := Below.drewN HB.out nq
       clear c0 c1 c2 c3 d1 k0 k1 k2 k3 k4 k5 k6
       revert HB4
       generalize wr.drewN nq = w4
       intro HB4
       obtain ⟨⟨c0, c1, c2, c3⟩, d1, k0, k1, k2, k3, k4, k5, k6⟩ := HK.out w4 HB4.out
       go_wp2_with fail
       go_region_held3 (fun W : World => (W.cell? ⟨w.heap.size, 0, none⟩ = some (.slice (some ⟨tb, toff, none⟩) g.ts.length g.tc) ∧ W.cell? ⟨w.heap.size, 1, none⟩ = some (.slice (some ⟨fb, foff, none⟩) g.fs.length g.fc) ∧ W.cell? ⟨w.heap.size, 2, none⟩ = some (.slice g.ma g.ms.length g.mc) ∧ W.cell? ⟨w.heap.size, 3, none⟩ = some (.int .i64 g.en)) ∧ W.cell? ⟨w0.heap.size, 1, none⟩ = some (.int .i64 (o : Int)) ∧ W.cell? ⟨fb, foff + i * 7, none⟩ = some (.string y.nm) ∧ W.cell? ⟨fb, foff + i * 7 + 1, none⟩ = some (.int .i64 y.ow) ∧ W.cell? ⟨fb, foff + i * 7 + 2, none⟩ = some (.int .i64 y.t.1) ∧ W.cell? ⟨fb, foff + i * 7 + 3, none⟩ = some (.int .i64 y.t.2.1) ∧ W.cell? ⟨fb, foff + i * 7 + 4, none⟩ = some (.int .i64 y.t.2.2.1) ∧ W.cell? ⟨fb, foff + i * 7 + 5, none⟩ = some (.bool y.t.2.2.2) ∧ W.cell? ⟨fb, foff + i * 7 + 6, none⟩ = some (.bool false))
        (first | (exact HK.out _ (bstep HB4.out hBc)) | (exact HK.out _ (bstep HB4.out (bdrew _))))
        ((go_at_call 22; refine (HCr.out _ (bstep HB4.out (bdrew _))).mono ?_; rintro e w5 ⟨hv, rfl, hv2, hb5⟩; obtain ⟨ha, hc2, hvv, _, hhc⟩ := hv2.shape; subst hvv; have hBc : Below w4.heap.size w4 w5 := bstep (bdrew _) hb5))
       rename_i hheld
       clear hheld
       have HB5 : Hid (Below wA.heap.size wA w5) := bstep HB4.out hBc
       clear hv2 hb5 hBc c0 c1 c2 c3 d1 k0 k1 k2 k3 k4 k5 k6 HK HCr
       go_wp2_with fail
       go_roundw
       case rel => exact ⟨i + 1, by omega, by go_num, by rw [HT2.out] <;> (simp [IntKind.wrap, IntKind.bits, IntKind.signed] <;> omega), HB5.out⟩
       case measure => simp [intOf]; omega
    ·have hiqi : ¬ (i : Int) < (q : Int) := by omega
     have hie : i = q := by omega
     have HRR : Hid (R = (0 : Int) + ((ownP g (o : Int) i).length : Int)) := by show _ = _; rw [HR2.out, hie]
     clear hie
     go_wp2_with fail
     go_ret
     exact ⟨ret_int (by have := HRR.out; omega), bstep HB0.out (bstep HBA.out HB.out)⟩
end Go.Proofs.YtkjailahaopehaaGreat
