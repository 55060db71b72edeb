
/- The walk of LayoutBelow. -/
import Derived.Test.YtkjailahaopehaaGreatQ47
import Derived.Deep.QuietTactic
import Derived.BigQuiet
namespace Go.Proofs.YtkjailahaopehaaGreat
set_option linter.unusedVariables false
set_option linter.unusedSimpArgs false
open Go.RowKit
attribute [local go_sem ↓] Go.wp_at_zero Go.wp_at_succ

set_option maxHeartbeats 8000000 in
set_option maxRecDepth 20000 in
theorem layoutBelow_walk (v : Value) (g : Img) (a : Int) (w : World) (h : ImV w v g) (ha : (Lit.int .u8 a).wf = true) :
    Calls Tryz.prog 7 #[v, .int .u8 a] w fun e w' => e = .returned (.bool true) ∧ Below w.heap.size w w' := by
  obtain ⟨rfl, hg, hnm⟩ := h
  have hau := Go.bounds_u8 ha
  obtain ⟨w0, HW0, HB0, HG, HC, HI, c0, c1, c2, c3⟩ := img_head hg
  have htl := hg.ts.len
  have hfl := hg.fs.len
  unfold maxLen at htl hfl
  have HLo : Hid (∀ W, Below w0.heap.size w0 W → Ans 10 #[imA4 g] W (.bool (longI g))) := fun W hW => longI_any (HI.out W hW)
  have HFi : Hid (∀ W, Below w0.heap.size w0 W → Ans 20 #[imA4 g] W (.bool (finB g))) := fun W hW => refFine12_any (HI.out W hW) hnm
  have HOb : Hid (∀ W t, Below w0.heap.size w0 W → Wf t → AnsT 23 #[imA4 g, .int .i64 t] W (obj12 g t)) := fun W t hW ht => object_any (HI.out W hW) ht
  have HTs : Hid (∀ W, Below w0.heap.size w0 W → Es tdE W (.slice g.ta g.ts.length g.tc) g.ts) := fun W hW => (HI.out W hW).ts
  have HC4 : Hid (∀ W, Below w0.heap.size w0 W → Im4 W w.heap.size g) := HC.out
  unfold imA4 at HLo HFi HOb
  unfold Im4 at HC4
  unfold imV
  generalize g.ta = ta at *
  clear hg hnm ha HC HI HG
  go_enter Tryz.func7, Tryz.ntmps7
  go_wp2_with (rw [← HW0.out])
  refine Calls.mono (wakes12_any w0) ?_
  rintro e w1 ⟨rfl, hb1⟩
  have HB1 : Hid (Below w0.heap.size w0 w1) := hb1
  clear hb1 c0 c1 c2 c3
  obtain ⟨c0, c1, c2, c3⟩ := HC4.out w1 HB1.out
  go_wp2_with fail
  refine Calls.mono (HLo.out w1 HB1.out) ?_
  rintro e w2 ⟨rfl, hb2⟩
  have HB2 : Hid (Below w0.heap.size w0 w2) := bstep HB1.out hb2
  clear hb2 c0 c1 c2 c3
  obtain ⟨c0, c1, c2, c3⟩ := HC4.out w2 HB2.out
  cases longI g with
  | true =>
    go_wp2_with fail
    go_ret
    exact ⟨rfl, bstep HB0.out HB2.out⟩
  | false =>
    go_wp2_with fail
    refine Calls.mono (HFi.out w2 HB2.out) ?_
    rintro e w3 ⟨rfl, hb3⟩
    have HB3 : Hid (Below w0.heap.size w0 w3) := bstep HB2.out hb3
    clear hb3 c0 c1 c2 c3
    obtain ⟨c0, c1, c2, c3⟩ := HC4.out w3 HB3.out
    cases hfi : finB g with
    | false =>
      clear hfi
      go_wp2_with fail
      go_ret
      exact ⟨rfl, bstep HB0.out HB3.out⟩
    | true =>
      have HF : Hid (finB g = true) := hfi
      clear hfi
      rcases Nat.eq_zero_or_pos g.ts.length with hz | hz
      · have hzi : (g.ts.length : Int) = 0 := by omega
        clear hz
        go_wp2_with fail
        go_ret
        exact ⟨rfl, bstep HB0.out HB3.out⟩
      · have hzi : ¬ (g.ts.length : Int) = 0 := by omega
        have hzn : ¬ g.ts.length = 0 := by omega
        have hzl : ¬ g.ts = [] := by intro e; rw [e] at hz; simp at hz
        have hzd : decide ((g.ts.length : Int) = 0) = false := decide_eq_false hzi
        have hnz : ((g.ts.length : Int) == 0) = false := by rw [beq_eq_false_iff_ne]; omega
        obtain ⟨A, hA, htmA, hAn⟩ := drawn_num12 hau.1 hz
        have F := Fin_.of HF.out
        have hiA := (im_len F.wu.im).1
        have HWa : Hid (Wf (A : Int)) := wf_num (by omega) hAn
        have HEx : Hid (exI g (A : Int) = g.ts[A].ex) := exI_at hA
        have HNo : Hid (g.ts[A].ex < 0 ∨ ∃ U : Nat, g.ts[A].ex = (U : Int) ∧ Wf (U : Int) ∧ obj12 g (A : Int) = obj12 g (U : Int) ++ ownC g (A : Int)) := by
          show _ ∨ _
          rcases (im_type F.wu.im hA).1 with h | h
          · left; rw [h]; decide
          · right
            obtain ⟨U, hU, hUl⟩ := num_nat h
            refine ⟨U, hU, wf_num (n := g.ts.length) (by omega) (by rw [← hU]; exact h), ?_⟩
            have hflg := (Wel.of F.wel).flg (A : Int) hAn
            rw [flI_at hA, exI_at hA] at hflg
            have hkA : kndI g (A : Int) = 0 := by
              rw [knd_at hA]
              rcases kindF_four g.ts[A].fl with hk | hk | hk | hk
              · exact hk
              all_goals
                exfalso
                unfold flgF at hflg
                rw [hk] at hflg
                have hne : decide (g.ts[A].ex = -1) = false := by rw [decide_eq_false_iff_not, hU]; omega
                rw [hne] at hflg
                simp at hflg
            have hkU : kndI g (U : Int) = 0 := by
              have := ext_class F hA
              rw [exI_at hA, hU] at this
              rcases this with h2 | h2
              · exact h2
              · rw [← hU, h] at h2; cases h2
            unfold obj12
            rw [if_pos HF.out, if_pos hkA, if_pos HF.out, if_pos hkU, objL_cons (Wel.of F.wel) hAn, exI_at hA, hU]
        obtain ⟨tb, off, hla, _, hel⟩ := (HTs.out w0 (Below.refl _ _)).elAll hzl
        subst hla
        have HEl : Hid (∀ W, Below w0.heap.size w0 W → El tdE W tb (off + A * 4) g.ts[A]) := fun W hW => hel W hW A hA
        have hAi : (A : Int) < (g.ts.length : Int) := by omega
        clear hAn F hiA hel HEx
        have HO3 : Hid (∀ W t, Below w3.heap.size w3 W → Wf t → AnsT 23 #[.agg #[.slice (some ⟨tb, off, none⟩) g.ts.length g.tc, .slice g.fa g.fs.length g.fc, .slice g.ma g.ms.length g.mc, .int .i64 g.en], .int .i64 t] W (obj12 g t)) := fun W t hW ht => HOb.out W t (bstep HB3.out hW) ht
        obtain ⟨k0, k1, k2, k3⟩ := (HEl.out w3 HB3.out).cells_T
        generalize g.ts[A] = x at *
        rcases HNo.out with hn | ⟨U, hU, hwU, hob⟩
        · clear HNo
          go_wp2_with fail
          go_ret
          exact ⟨rfl, bstep HB0.out HB3.out⟩
        · have hU0 : ¬ (U : Int) < 0 := by omega
          rw [hU] at k2
          have HWu : Hid (Wf (U : Int)) := hwU
          have HOA : Hid (obj12 g (A : Int) = obj12 g (U : Int) ++ ownC g (A : Int)) := hob
          clear HNo hU hwU hob
          have HK : Hid (∀ W, Below w3.heap.size w3 W → W.cell? ⟨w.heap.size, 0, none⟩ = some (.slice (some ⟨tb, off, none⟩) g.ts.length g.tc) ∧ W.cell? ⟨w.heap.size, 1, none⟩ = some (.slice g.fa g.fs.length g.fc) ∧ W.cell? ⟨w.heap.size, 2, none⟩ = some (.slice g.ma g.ms.length g.mc) ∧ W.cell? ⟨w.heap.size, 3, none⟩ = some (.int .i64 g.en)) := fun W hW => HC4.out W (bstep HB3.out hW)
          have HO1 : Hid (∀ W, Below w3.heap.size w3 W → AnsT 23 #[.agg #[.slice (some ⟨tb, off, none⟩) g.ts.length g.tc, .slice g.fa g.fs.length g.fc, .slice g.ma g.ms.length g.mc, .int .i64 g.en], .int .i64 (A : Int)] W (obj12 g (A : Int))) := fun W hW => HO3.out W _ hW HWa.out
          have HO2 : Hid (∀ W, Below w3.heap.size w3 W → AnsT 23 #[.agg #[.slice (some ⟨tb, off, none⟩) g.ts.length g.tc, .slice g.fa g.fs.length g.fc, .slice g.ma g.ms.length g.mc, .int .i64 g.en], .int .i64 (U : Int)] W (obj12 g (U : Int))) := fun W hW => HO3.out W _ hW HWu.out
          clear HO3
          generalize obj12 g (A : Int) = OA at *
          generalize obj12 g (U : Int) = OU at *
          go_wp2_with fail
          go_region_held3 (fun W : World => W.cell? ⟨w.heap.size, 0, none⟩ = some (.slice (some ⟨tb, off, none⟩) g.ts.length g.tc) ∧ W.cell? ⟨w.heap.size, 1, none⟩ = some (.slice g.fa g.fs.length g.fc) ∧ W.cell? ⟨w.heap.size, 2, none⟩ = some (.slice g.ma g.ms.length g.mc) ∧ W.cell? ⟨w.heap.size, 3, none⟩ = some (.int .i64 g.en))
            (first | (exact HK.out _ hBd) | (exact HK.out _ hBc) | (exact HK.out _ (bdrew _)))
            (first | (go_at_call 23; refine (HO2.out _ hBc).mono ?_; rintro e w5 ⟨v5, rfl, h5, hb5⟩; have hBd : Below w3.heap.size w3 w5 := bstep hBc hb5) | (go_at_call 23; refine (HO1.out _ (bdrew _)).mono ?_; rintro e w4 ⟨v4, rfl, h4, hb4⟩; have hBc : Below w3.heap.size w3 w4 := bstep (bdrew _) hb4))
          rename_i hheld
          clear hheld
          have HB5 : Hid (Below w0.heap.size w0 w5) := bstep HB3.out hBd
          have HE4 := h4.es.later hb5
          have HE5 := h5.es
          obtain ⟨a4, p4, hv4, hq4, _⟩ := HE4.shape
          obtain ⟨a5, p5, hv5, hq5, _⟩ := HE5.shape
          subst hv4 hv5
          have hlen : OU.length ≤ OA.length := by rw [HOA.out, List.length_append]; omega
          have hli : (OU.length : Int) ≤ (OA.length : Int) := by omega
          obtain ⟨hsl, hst⟩ := slice_toE (P := Tryz.prog) HE4 OU.length hlen 39 37 Tryz.underlying39 (by kernel_rfl)
          have HSa : Hid (Calls Tryz.prog 21 #[.slice a4 OU.length p4, .slice a5 OU.length p5] w5 fun e w' => e = .returned (.bool true) ∧ ∃ n, w' = w5.drewN n) := by
            have := sameT11_any hst HE5
            rw [show decide (OA.take OU.length = OU) = true from decide_eq_true (by rw [HOA.out]; simp)] at this
            exact this
          clear h4 h5 hb4 hb5 hBc hBd HE4 HE5 hst HK HO1 HO2 c0 c1 c2 c3
          go_wp2_with fail
          refine Calls.mono HSa.out ?_
          rintro e w6 ⟨rfl, n, rfl⟩
          go_wp2_with fail
          go_ret
          exact ⟨rfl, Below.drewN (bstep HB0.out HB5.out) n⟩

end Go.Proofs.YtkjailahaopehaaGreat
