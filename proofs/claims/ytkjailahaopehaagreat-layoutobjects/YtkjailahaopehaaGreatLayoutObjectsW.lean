
/- The walk of LayoutObjects. -/
import Derived.Test.YtkjailahaopehaaGreatQ47
import Derived.Test.YtkjailahaopehaaGreatQ52
import Derived.Test.YtkjailahaopehaaGreatQ28
import Derived.Deep.QuietTactic
import Derived.BigQuiet
namespace Go.Proofs.YtkjailahaopehaaGreat
set_option linter.unusedVariables false
set_option linter.unusedSimpArgs false
open Go.RowKit
attribute [local go_sem ↓] Go.wp_at_zero Go.wp_at_succ

theorem sameE_any {w : World} {va vb : Value} {l : List Ty} (ha : Es tyE w va l) (hb : Es tyE w vb l) :
    Calls Tryz.prog 21 #[va, vb] w fun e w' => e = .returned (.bool true) ∧ ∃ n, w' = w.drewN n := by
  have := sameT11_any ha hb
  rw [show decide (l = l) = true from decide_eq_true rfl] at this
  exact this

set_option maxHeartbeats 8000000 in
set_option maxRecDepth 20000 in
theorem layoutObjects_walk (v : Value) (g : Img) (t f : Int) (w : World) (h : ImV w v g) (ht : (Lit.int .i64 t).wf = true) (hf : (Lit.int .i64 f).wf = true) :
    Calls Tryz.prog 5 #[v, .int .i64 t, .int .i64 f] w fun e w' => e = .returned (.bool true) ∧ Below w.heap.size w w' := by
  obtain ⟨rfl, hg, hnm⟩ := h
  obtain ⟨w0, HW0, HB0, HG, HC, HI, c0, c1, c2, c3⟩ := img_head hg
  have hfl := hg.fs.len
  unfold maxLen at hfl
  have HLo : Hid (∀ W, Below w0.heap.size w0 W → Ans 10 #[imA4 g] W (.bool (longI g))) := fun W hW => longI_any (HI.out W hW)
  have HOb : Hid (∀ W, Below w0.heap.size w0 W → AnsT 23 #[imA4 g, .int .i64 t] W (obj12 g t)) := fun W hW => object_any (HI.out W hW) ht
  have HSt : Hid (∀ W, Below w0.heap.size w0 W → AnsT 24 #[imA4 g] W (sta12 g)) := fun W hW => statics_any (HI.out W hW)
  have HPl : Hid (∀ W, Below w0.heap.size w0 W → Ans 25 #[imA4 g, .int .i64 f] W (.int .i64 (pla12 g f))) := fun W hW => place_any (HI.out W hW)
  have HFi : Hid (∀ W, Below w0.heap.size w0 W → Ans 20 #[imA4 g] W (.bool (finB g))) := fun W hW => refFine12_any (HI.out W hW) hnm
  have HKn : Hid (∀ W, Below w0.heap.size w0 W → finB g = true → Ans 26 #[imA4 g, .int .i64 t] W (.int .i64 (kndI g t))) := fun W hW hf => refKind_any t (HI.out W hW) (FlOk.of (Fin_.of hf).wu.im)
  have HRo : Hid (∀ W, Below w0.heap.size w0 W → finB g = true → AnsT 27 #[imA4 g, .int .i64 t] W (objL g t)) := fun W hW hf => refObject_any (Fin_.of hf) (HI.out W hW)
  have HRs : Hid (∀ W, Below w0.heap.size w0 W → finB g = true → AnsT 28 #[imA4 g, .int .i64 (g.fs.length : Int)] W (statL g g.fs.length)) := fun W hW hf => refStatics_any (Fin_.of hf) (HI.out W hW) (Nat.le_refl _)
  have HRp : Hid (∀ W (q : Nat), Below w0.heap.size w0 W → finB g = true → q < g.fs.length → Ans 29 #[imA4 g, .int .i64 (q : Int)] W (.int .i64 (plcI g (q : Int)))) := fun W q hW hf hq => by rw [plcI_in hq]; exact refPlace_any (Fin_.of hf) (HI.out W hW) hq
  have HP0 : Hid (¬ (0 ≤ f ∧ f < (g.fs.length : Int)) → plcI g f = -1) := plcI_out
  have HE1 : Hid (obj12 g t = if finB g = true then (if kndI g t = 0 then objL g t else []) else []) := rfl
  have HE2 : Hid (sta12 g = if finB g = true then statL g g.fs.length else []) := rfl
  have HE3 : Hid (pla12 g f = if finB g = true then plcI g f else -1) := rfl
  have HC4 : Hid (∀ W, Below w0.heap.size w0 W → W.cell? ⟨w.heap.size, 0, none⟩ = some (.slice g.ta g.ts.length g.tc) ∧ W.cell? ⟨w.heap.size, 1, none⟩ = some (.slice g.fa g.fs.length g.fc) ∧ W.cell? ⟨w.heap.size, 2, none⟩ = some (.slice g.ma g.ms.length g.mc) ∧ W.cell? ⟨w.heap.size, 3, none⟩ = some (.int .i64 g.en)) := HC.out
  unfold imA4 at HLo HOb HSt HPl HFi HKn HRo HRs HRp
  unfold imV
  clear hg hnm HC HI HG ht hf
  generalize obj12 g t = LO at *
  generalize sta12 g = LS at *
  generalize pla12 g f = P at *
  generalize objL g t = CO at *
  generalize statL g g.fs.length = CS at *
  generalize kndI g t = kn at *
  generalize finB g = bf at *
  generalize longI g = bl at *
  go_enter Tryz.func5, Tryz.ntmps5
  go_wp2_with (rw [← HW0.out])
  refine Calls.mono (wakes12_any w0) ?_
  rintro e w1 ⟨rfl, hb1⟩
  have HB1 : Hid (Below w0.heap.size w0 w1) := hb1
  clear hb1 c0 c1 c2 c3
  obtain ⟨c0, c1, c2, c3⟩ := HC4.out w1 HB1.out
  go_wp2_with fail
  refine Calls.mono (HLo.out w1 HB1.out) ?_
  rintro e w2 ⟨rfl, hb2⟩
  have HB2 : Hid (Below w0.heap.size w0 w2) := bstep HB1.out hb2
  clear hb2 c0 c1 c2 c3
  have HK : Hid (∀ W, Below w2.heap.size w2 W → W.cell? ⟨w.heap.size, 0, none⟩ = some (.slice g.ta g.ts.length g.tc) ∧ W.cell? ⟨w.heap.size, 1, none⟩ = some (.slice g.fa g.fs.length g.fc) ∧ W.cell? ⟨w.heap.size, 2, none⟩ = some (.slice g.ma g.ms.length g.mc) ∧ W.cell? ⟨w.heap.size, 3, none⟩ = some (.int .i64 g.en)) := fun W hW => HC4.out W (bstep HB2.out hW)
  obtain ⟨c0, c1, c2, c3⟩ := HK.out w2 (Below.refl _ _)
  cases bl with
  | true =>
    go_wp2_with fail
    go_ret
    exact ⟨rfl, bstep HB0.out HB2.out⟩
  | false =>
    have HOq : Hid (∀ W, Below w2.heap.size w2 W → AnsT 23 #[.agg #[.slice g.ta g.ts.length g.tc, .slice g.fa g.fs.length g.fc, .slice g.ma g.ms.length g.mc, .int .i64 g.en], .int .i64 t] W LO) := fun W hW => HOb.out W (bstep HB2.out hW)
    have HSq : Hid (∀ W, Below w2.heap.size w2 W → AnsT 24 #[.agg #[.slice g.ta g.ts.length g.tc, .slice g.fa g.fs.length g.fc, .slice g.ma g.ms.length g.mc, .int .i64 g.en]] W LS) := fun W hW => HSt.out W (bstep HB2.out hW)
    have HPq : Hid (∀ W, Below w2.heap.size w2 W → Ans 25 #[.agg #[.slice g.ta g.ts.length g.tc, .slice g.fa g.fs.length g.fc, .slice g.ma g.ms.length g.mc, .int .i64 g.en], .int .i64 f] W (.int .i64 P)) := fun W hW => HPl.out W (bstep HB2.out hW)
    go_wp2_with fail
    go_region_held3 (fun W : World => W.cell? ⟨w.heap.size, 0, none⟩ = some (.slice g.ta g.ts.length g.tc) ∧ W.cell? ⟨w.heap.size, 1, none⟩ = some (.slice g.fa g.fs.length g.fc) ∧ W.cell? ⟨w.heap.size, 2, none⟩ = some (.slice g.ma g.ms.length g.mc) ∧ W.cell? ⟨w.heap.size, 3, none⟩ = some (.int .i64 g.en))
      (first | (exact HK.out _ hBe) | (exact HK.out _ hBd) | (exact HK.out _ hBc) | (exact HK.out _ (bdrew _)))
      (first | (go_at_call 23; refine (HOq.out _ (bdrew _)).mono ?_; rintro e w3 ⟨ov, rfl, ho3, hb3⟩; have hBc : Below w2.heap.size w2 w3 := bstep (bdrew _) hb3) | (go_at_call 24; refine (HSq.out _ hBc).mono ?_; rintro e w4 ⟨sv, rfl, hs4, hb4⟩; have hBd : Below w2.heap.size w2 w4 := bstep hBc hb4) | (go_at_call 25; refine (HPq.out _ hBd).mono ?_; rintro e w5 ⟨rfl, hb5⟩; have hBe : Below w2.heap.size w2 w5 := bstep hBd hb5))
    rename_i hheld
    clear hheld
    have HB5 : Hid (Below w0.heap.size w0 w5) := bstep HB2.out hBe
    have HVo : Hid (∀ W, Below w5.heap.size w5 W → Es tyE W ov LO) := fun W hW => ((ho3.es.later hb4).later hb5).later hW
    have HVs : Hid (∀ W, Below w5.heap.size w5 W → Es tyE W sv LS) := fun W hW => (hs4.es.later hb5).later hW
    obtain ⟨oa, oc, hov, _, hoc⟩ := ho3.shape
    obtain ⟨sa, sc, hsv, _, hsc⟩ := hs4.shape
    subst hov hsv
    have hol := ho3.es.len
    have hsl := hs4.es.len
    unfold maxLen at hoc hsc hol hsl
    clear ho3 hs4 hb3 hb4 hb5 hBc hBd hBe c0 c1 c2 c3 HK HOq HSq HPq
    obtain ⟨c0, c1, c2, c3⟩ := HC4.out w5 HB5.out
    go_wp2_with fail
    refine Calls.mono (HFi.out w5 HB5.out) ?_
    rintro e w6 ⟨rfl, hb6⟩
    have HB6 : Hid (Below w0.heap.size w0 w6) := bstep HB5.out hb6
    have HW6 : Hid (Below w5.heap.size w5 w6) := hb6
    clear hb6 c0 c1 c2 c3
    obtain ⟨c0, c1, c2, c3⟩ := HC4.out w6 HB6.out
    cases bf with
    | false =>
      have h1 : LO = [] := HE1.out
      have h2 : LS = [] := HE2.out
      have h3 : P = -1 := HE3.out
      subst h1 h2 h3
      go_wp2_with fail
      go_ret
      exact ⟨rfl, bstep HB0.out HB6.out⟩
    | true =>
      have h2 : LS = CS := HE2.out
      have h3 : Hid (P = plcI g f) := HE3.out
      subst h2
      go_wp2_with fail
      refine Calls.mono (HKn.out w6 HB6.out (by trivial)) ?_
      rintro e w7 ⟨rfl, hb7⟩
      have HB7 : Hid (Below w0.heap.size w0 w7) := bstep HB6.out hb7
      have HW7 : Hid (Below w5.heap.size w5 w7) := bstep HW6.out hb7
      clear hb7 c0 c1 c2 c3
      obtain ⟨c0, c1, c2, c3⟩ := HC4.out w7 HB7.out
      by_cases hk : kn = 0
      · have h1 : LO = CO := by have := HE1.out; rw [if_pos (by trivial), if_pos hk] at this; exact this
        subst h1 hk
        go_wp2_with fail
        refine Calls.mono (HKn.out w7 HB7.out (by trivial)) ?_
        rintro e w8 ⟨rfl, hb8⟩
        have HB8 : Hid (Below w0.heap.size w0 w8) := bstep HB7.out hb8
        have HW8 : Hid (Below w5.heap.size w5 w8) := bstep HW7.out hb8
        clear hb8 c0 c1 c2 c3
        obtain ⟨c0, c1, c2, c3⟩ := HC4.out w8 HB8.out
        go_wp2_with fail
        refine Calls.mono (HRo.out w8 HB8.out (by trivial)) ?_
        rintro e w9 ⟨rv, rfl, hr, hb9⟩
        have HB9 : Hid (Below w0.heap.size w0 w9) := bstep HB8.out hb9
        have HW9 : Hid (Below w5.heap.size w5 w9) := bstep HW8.out hb9
        obtain ⟨ra, rc, hrv, _, _⟩ := hr.shape
        subst hrv
        have HSa : Hid (Calls Tryz.prog 21 #[.slice oa LO.length oc, .slice ra LO.length rc] w9 fun e w' => e = .returned (.bool true) ∧ ∃ n, w' = w9.drewN n) := sameE_any (HVo.out w9 HW9.out) hr.es
        clear hr hb9 c0 c1 c2 c3
        go_wp2_with fail
        refine Calls.mono HSa.out ?_
        rintro e wb ⟨rfl, n, rfl⟩
        have HBb : Hid (Below w0.heap.size w0 (w9.drewN n)) := Below.drewN HB9.out n
        have HWb : Hid (Below w5.heap.size w5 (w9.drewN n)) := Below.drewN HW9.out n
        clear HSa
        revert HBb HWb
        generalize w9.drewN n = wb
        intro HBb HWb
        obtain ⟨c0, c1, c2, c3⟩ := HC4.out wb HBb.out
        go_wp2_with fail
        refine Calls.mono (HRs.out wb HBb.out (by trivial)) ?_
        rintro e wc ⟨rv2, rfl, hr2, hbc⟩
        have HBc : Hid (Below w0.heap.size w0 wc) := bstep HBb.out hbc
        have HWc : Hid (Below w5.heap.size w5 wc) := bstep HWb.out hbc
        obtain ⟨ra2, rc2, hrv2, _, _⟩ := hr2.shape
        subst hrv2
        have HSa2 : Hid (Calls Tryz.prog 21 #[.slice sa LS.length sc, .slice ra2 LS.length rc2] wc fun e w' => e = .returned (.bool true) ∧ ∃ n, w' = wc.drewN n) := sameE_any (HVs.out wc HWc.out) hr2.es
        clear hr2 hbc c0 c1 c2 c3
        go_wp2_with fail
        refine Calls.mono HSa2.out ?_
        rintro e wd ⟨rfl, m, rfl⟩
        have HBd : Hid (Below w0.heap.size w0 (wc.drewN m)) := Below.drewN HBc.out m
        clear HSa2
        revert HBd
        generalize wc.drewN m = wd
        intro HBd
        obtain ⟨c0, c1, c2, c3⟩ := HC4.out wd HBd.out
        by_cases f0 : f < 0
        · have hP : P = -1 := by rw [h3.out]; exact HP0.out (by omega)
          subst hP
          clear h3
          go_wp2_with fail
          go_ret
          exact ⟨rfl, bstep HB0.out HBd.out⟩
        · by_cases f1 : f < (g.fs.length : Int)
          · obtain ⟨q, rfl⟩ : ∃ q : Nat, f = (q : Int) := ⟨f.toNat, by omega⟩
            have hq : q < g.fs.length := by omega
            have HPz : Hid _ := HRp.out wd q HBd.out (by trivial) hq
            rw [← h3.out] at HPz
            clear h3 hq
            go_wp2_with fail
            refine Calls.mono HPz.out ?_
            rintro e we ⟨rfl, hbe⟩
            have HBe : Hid (Below w0.heap.size w0 we) := bstep HBd.out hbe
            clear hbe c0 c1 c2 c3
            go_wp2_with fail
            go_ret
            exact ⟨rfl, bstep HB0.out HBe.out⟩
          · have hP : P = -1 := by rw [h3.out]; exact HP0.out (by omega)
            subst hP
            clear h3
            go_wp2_with fail
            go_ret
            exact ⟨rfl, bstep HB0.out HBd.out⟩
      · have h1 : LO = [] := by have := HE1.out; rw [if_pos (by trivial), if_neg hk] at this; exact this
        subst h1
        have hkb : (kn != 0) = true := by simpa using hk
        have hkc : (kn == 0) = false := by simpa using hk
        clear hk
        go_wp2_with fail
        refine Calls.mono (HKn.out w7 HB7.out (by trivial)) ?_
        rintro e wb ⟨rfl, hb8⟩
        have HBb : Hid (Below w0.heap.size w0 wb) := bstep HB7.out hb8
        have HWb : Hid (Below w5.heap.size w5 wb) := bstep HW7.out hb8
        clear hb8 c0 c1 c2 c3
        obtain ⟨c0, c1, c2, c3⟩ := HC4.out wb HBb.out
        go_wp2_with fail
        refine Calls.mono (HRs.out wb HBb.out (by trivial)) ?_
        rintro e wc ⟨rv2, rfl, hr2, hbc⟩
        have HBc : Hid (Below w0.heap.size w0 wc) := bstep HBb.out hbc
        have HWc : Hid (Below w5.heap.size w5 wc) := bstep HWb.out hbc
        obtain ⟨ra2, rc2, hrv2, _, _⟩ := hr2.shape
        subst hrv2
        have HSa2 : Hid (Calls Tryz.prog 21 #[.slice sa LS.length sc, .slice ra2 LS.length rc2] wc fun e w' => e = .returned (.bool true) ∧ ∃ n, w' = wc.drewN n) := sameE_any (HVs.out wc HWc.out) hr2.es
        clear hr2 hbc c0 c1 c2 c3
        go_wp2_with fail
        refine Calls.mono HSa2.out ?_
        rintro e wd ⟨rfl, m, rfl⟩
        have HBd : Hid (Below w0.heap.size w0 (wc.drewN m)) := Below.drewN HBc.out m
        clear HSa2
        revert HBd
        generalize wc.drewN m = wd
        intro HBd
        obtain ⟨c0, c1, c2, c3⟩ := HC4.out wd HBd.out
        by_cases f0 : f < 0
        · have hP : P = -1 := by rw [h3.out]; exact HP0.out (by omega)
          subst hP
          clear h3
          go_wp2_with fail
          go_ret
          exact ⟨rfl, bstep HB0.out HBd.out⟩
        · by_cases f1 : f < (g.fs.length : Int)
          · obtain ⟨q, rfl⟩ : ∃ q : Nat, f = (q : Int) := ⟨f.toNat, by omega⟩
            have hq : q < g.fs.length := by omega
            have HPz : Hid _ := HRp.out wd q HBd.out (by trivial) hq
            rw [← h3.out] at HPz
            clear h3 hq
            go_wp2_with fail
            refine Calls.mono HPz.out ?_
            rintro e we ⟨rfl, hbe⟩
            have HBe : Hid (Below w0.heap.size w0 we) := bstep HBd.out hbe
            clear hbe c0 c1 c2 c3
            go_wp2_with fail
            go_ret
            exact ⟨rfl, bstep HB0.out HBe.out⟩
          · have hP : P = -1 := by rw [h3.out]; exact HP0.out (by omega)
            subst hP
            clear h3
            go_wp2_with fail
            go_ret
            exact ⟨rfl, bstep HB0.out HBd.out⟩

end Go.Proofs.YtkjailahaopehaaGreat
