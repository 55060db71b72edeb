
/- The walk of LayoutFull. -/
import Derived.Test.YtkjailahaopehaaGreatQ47
import Derived.Test.YtkjailahaopehaaGreatQ53
import Derived.Deep.QuietTactic
import Derived.BigQuiet
namespace Go.Proofs.YtkjailahaopehaaGreat
set_option linter.unusedVariables false
set_option linter.unusedSimpArgs false
open Go.RowKit
attribute [local go_sem ↓] Go.wp_at_zero Go.wp_at_succ

set_option maxHeartbeats 8000000 in
set_option maxRecDepth 20000 in
theorem layoutFull_walk (v : Value) (g : Img) (a : Int) (w : World) (h : ImV w v g) (ha : (Lit.int .u8 a).wf = true) :
    Calls Tryz.prog 6 #[v, .int .u8 a] w fun e w' => e = .returned (.bool true) ∧ Below w.heap.size w w' := by
  obtain ⟨rfl, hg, hnm⟩ := h
  have hau := Go.bounds_u8 ha
  obtain ⟨w0, HW0, HB0, HG, HC, HI, c0, c1, c2, c3⟩ := img_head hg
  have htl := hg.ts.len
  have hfl := hg.fs.len
  unfold maxLen at htl hfl
  have HLo : Hid (∀ W, Below w0.heap.size w0 W → Ans 10 #[imA4 g] W (.bool (longI g))) := fun W hW => longI_any (HI.out W hW)
  have HFi : Hid (∀ W, Below w0.heap.size w0 W → Ans 20 #[imA4 g] W (.bool (finB g))) := fun W hW => refFine12_any (HI.out W hW) hnm
  have HWo : Hid (∀ W t, Below w0.heap.size w0 W → Ans 19 #[imA4 g, .agg #[.int .i64 t.1, .int .i64 t.2.1, .int .i64 t.2.2.1, .bool t.2.2.2]] W (.int .i64 (cel12 g t).length)) := fun W t hW => words_any t (HI.out W hW)
  have HKn : Hid (∀ W t, Below w0.heap.size w0 W → finB g = true → Ans 26 #[imA4 g, .int .i64 t] W (.int .i64 (kndI g t))) := fun W t hW hf => refKind_any t (HI.out W hW) (FlOk.of (Fin_.of hf).wu.im)
  have HOb : Hid (∀ W t, Below w0.heap.size w0 W → Wf t → AnsT 23 #[imA4 g, .int .i64 t] W (obj12 g t)) := fun W t hW ht => object_any (HI.out W hW) ht
  have HSt : Hid (∀ W, Below w0.heap.size w0 W → AnsT 24 #[imA4 g] W (sta12 g)) := fun W hW => statics_any (HI.out W hW)
  have HPl : Hid (∀ W f, Below w0.heap.size w0 W → Ans 25 #[imA4 g, .int .i64 f] W (.int .i64 (pla12 g f))) := fun W f hW => place_any (HI.out W hW)
  have HUp : Hid (∀ W t, Below w0.heap.size w0 W → finB g = true → Calls Tryz.prog 30 #[imA4 g, .int .i64 t] W fun e w' => ∃ v, e = .returned v ∧ OwnI w' W.heap.size v (upL g t) ∧ Below W.heap.size W w') := fun W t hW hf => refUp_any (HI.out W hW) (Fin_.of hf).wu.im
  have HFs : Hid (∀ W, Below w0.heap.size w0 W → Es fdE W (.slice g.fa g.fs.length g.fc) g.fs) := fun W hW => (HI.out W hW).fs
  have HC4 : Hid (∀ W, Below w0.heap.size w0 W → Im4 W w.heap.size g) := HC.out
  unfold imA4 at HLo HFi HWo HKn HOb HSt HPl HUp
  unfold Im4 at HC4
  unfold imV
  generalize g.fa = fa at *
  clear hg hnm ha HC HI HG
  go_enter Tryz.func6, Tryz.ntmps6
  go_wp2_with (rw [← HW0.out])
  refine Calls.mono (wakes12_any w0) ?_
  rintro e w1 ⟨rfl, hb1⟩
  have HB1 : Hid (Below w0.heap.size w0 w1) := hb1
  clear hb1 c0 c1 c2 c3
  obtain ⟨c0, c1, c2, c3⟩ := HC4.out w1 HB1.out
  go_wp2_with fail
  refine Calls.mono (HLo.out w1 HB1.out) ?_
  rintro e w2 ⟨rfl, hb2⟩
  have HB2 : Hid (Below w0.heap.size w0 w2) := bstep HB1.out hb2
  clear hb2 c0 c1 c2 c3
  obtain ⟨c0, c1, c2, c3⟩ := HC4.out w2 HB2.out
  cases longI g with
  | true =>
    go_wp2_with fail
    go_ret
    exact ⟨rfl, bstep HB0.out HB2.out⟩
  | false =>
    go_wp2_with fail
    refine Calls.mono (HFi.out w2 HB2.out) ?_
    rintro e w3 ⟨rfl, hb3⟩
    have HB3 : Hid (Below w0.heap.size w0 w3) := bstep HB2.out hb3
    clear hb3 c0 c1 c2 c3
    obtain ⟨c0, c1, c2, c3⟩ := HC4.out w3 HB3.out
    cases hfi : finB g with
    | false =>
      clear hfi
      go_wp2_with fail
      go_ret
      exact ⟨rfl, bstep HB0.out HB3.out⟩
    | true =>
      have HF : Hid (finB g = true) := hfi
      clear hfi
      rcases Nat.eq_zero_or_pos g.ts.length with hz | hz
      · have hzi : (g.ts.length : Int) = 0 := by omega
        clear hz
        go_wp2_with fail
        go_ret
        exact ⟨rfl, bstep HB0.out HB3.out⟩
      · have hzi : ¬ (g.ts.length : Int) = 0 := by omega
        have hzn : ¬ g.ts.length = 0 := by omega
        have hzl : ¬ g.ts = [] := by intro e; rw [e] at hz; simp at hz
        have hzd : decide ((g.ts.length : Int) = 0) = false := decide_eq_false hzi
        have hnz : ((g.ts.length : Int) == 0) = false := by rw [beq_eq_false_iff_ne]; omega
        obtain ⟨A, hA, htmA, hAn⟩ := drawn_num12 hau.1 hz
        have F := Fin_.of HF.out
        have hiA := (im_len F.wu.im).1
        have HWa : Hid (Wf (A : Int)) := wf_num (by omega) hAn
        have hol : (obj12 g (A : Int)).length ≤ 32 := by
          unfold obj12
          rw [if_pos HF.out]
          split
          · exact F.cls _ (by assumption)
          · simp
        have hsl : (sta12 g).length ≤ 512 := by unfold sta12; rw [if_pos HF.out]; exact stat_len F _
        obtain ⟨PM, HF0, HFS, HFE⟩ : ∃ PM : Nat → List Nat, Hid (PM 0 = []) ∧ Hid (∀ i (h : i < g.fs.length), PM (i + 1) = PM i ++ (if (decide (kndI g (A : Int) = 0) && ((upL g (A : Int)).contains g.fs[i].ow && !g.fs[i].st)) = true then List.range' (plcN g g.fs[i] i) (celL g g.fs[i].t).length else [])) ∧ Hid ((0 :: PM g.fs.length).Perm (List.range ((obj12 g (A : Int)).length + 1)) ∧ ∀ i, i ≤ g.fs.length → ∀ x ∈ PM i, x < (obj12 g (A : Int)).length + 1) := by
          by_cases hk : kndI g (A : Int) = 0
          · have ho : obj12 g (A : Int) = objL g (A : Int) := by unfold obj12; rw [if_pos HF.out, if_pos hk]
            refine ⟨posM g (upL g (A : Int)), (show posM _ _ 0 = [] by simp [posM]), fun i h => by rw [posM_take h, decide_eq_true hk, Bool.true_and], ?_, fun i hi x hx => ?_⟩
            · rw [ho]; exact posM_all F hk
            · have h1 := (posM_all F hk).mem_iff.1 (List.mem_cons_of_mem 0 (posM_mem hi hx))
              rw [ho]; exact List.mem_range.1 h1
          · have ho : obj12 g (A : Int) = [] := by unfold obj12; rw [if_pos HF.out, if_neg hk]
            refine ⟨fun _ => [], rfl, fun i h => by rw [decide_eq_false hk]; rfl, ?_, fun i hi x hx => absurd hx (by simp)⟩
            rw [ho]; simp
        have HSL : Hid (∀ i (h : i < g.fs.length), (statL g (i + 1)).length = (statL g i).length + (if g.fs[i].st = true then (celL g g.fs[i].t).length else 0) ∧ (statL g (i + 1)).length ≤ (sta12 g).length ∧ (g.fs[i].st = true → plcN g g.fs[i] i = (statL g i).length)) := fun i h => by
          have hall : (sta12 g).length = (statL g g.fs.length).length := by unfold sta12; rw [if_pos HF.out]
          have hmono : ∀ k, (statL g k).length ≤ (statL g g.fs.length).length := fun k => by
            unfold statL
            rw [List.take_of_length_le (Nat.le_refl g.fs.length)]
            have e : g.fs = g.fs.take k ++ g.fs.drop k := (List.take_append_drop k g.fs).symm
            have : (g.fs.filter (·.st)).flatMap (fun x => celL g x.t) = ((g.fs.take k).filter (·.st)).flatMap (fun x => celL g x.t) ++ ((g.fs.drop k).filter (·.st)).flatMap (fun x => celL g x.t) := by
              rw [← List.flatMap_append, ← List.filter_append, ← e]
            rw [this, List.length_append]; omega
          refine ⟨?_, by rw [hall]; exact hmono _, fun hst => ?_⟩
          · rw [stat_take h, List.length_append]; congr 1; split <;> rfl
          · unfold plcN begN; rw [if_pos hst, fwd_static hst, Nat.zero_add]
        have HSE : Hid ((sta12 g).length = (statL g g.fs.length).length) := by show _ = _; unfold sta12; rw [if_pos HF.out]
        have HPq : Hid (∀ i (h : i < g.fs.length), pla12 g (i : Int) = ((plcN g g.fs[i] i : Nat) : Int)) := fun i h => by unfold pla12; rw [if_pos HF.out, plcI_in h]
        have HPb : Hid (∀ i (h : i < g.fs.length), plcN g g.fs[i] i ≤ 1000) := fun i h => by
          have h1 := fwd_len F g.fs[i] i
          have h2 := beg_len F (List.getElem_mem h) (fld_own F.wu.im (List.getElem_mem h))
          unfold plcN; omega
        have HWx : Hid (∀ i (h : i < g.fs.length), cel12 g g.fs[i].t = celL g g.fs[i].t ∧ (celL g g.fs[i].t).length ≤ 8) := fun i h => ⟨cel12_used HF.out (F.used _ (List.getElem_mem h)), F.cel8 (F.used _ (List.getElem_mem h))⟩
        have HPLf : Hid (∀ i, i ≤ g.fs.length → (PM i).length ≤ 512) := by
          have h64 := (im_len F.wu.im).2.1
          have h8 : ∀ i, i ≤ g.fs.length → (PM i).length ≤ 8 * i := by
            intro i
            induction i with
            | zero => intro _; rw [HF0.out]; simp
            | succ i ih =>
              intro hi
              rw [HFS.out i (by omega), List.length_append]
              have h1 := ih (by omega)
              have h2 := F.cel8 (F.used _ (List.getElem_mem (show i < g.fs.length by omega)))
              split
              · rw [List.length_range']; omega
              · simp; omega
          exact fun i hi => by have := h8 i hi; omega
        have HOq : Hid _ := HOb.out w3 (A : Int) HB3.out HWa.out
        clear hAn F hiA HOb
        obtain ⟨up, hup⟩ : ∃ X, X = upL g (A : Int) := ⟨_, rfl⟩
        have HUq : Hid (∀ W, Below w0.heap.size w0 W → Calls Tryz.prog 30 #[.agg #[.slice g.ta g.ts.length g.tc, .slice fa g.fs.length g.fc, .slice g.ma g.ms.length g.mc, .int .i64 g.en], .int .i64 (A : Int)] W fun e w' => ∃ v, e = .returned v ∧ OwnI w' W.heap.size v up ∧ Below W.heap.size W w') := fun W hW => by rw [hup]; exact HUp.out W _ hW HF.out
        rw [← hup] at HFS
        clear hup HUp
        have HKq : Hid (∀ W, Below w0.heap.size w0 W → Ans 26 #[.agg #[.slice g.ta g.ts.length g.tc, .slice fa g.fs.length g.fc, .slice g.ma g.ms.length g.mc, .int .i64 g.en], .int .i64 (A : Int)] W (.int .i64 (kndI g (A : Int)))) := fun W hW => HKn.out W _ hW HF.out
        clear HKn
        generalize kndI g (A : Int) = kn at *
        generalize obj12 g (A : Int) = LO at *
        generalize sta12 g = LS at *
        go_wp2_with fail
        refine Calls.mono HOq.out ?_
        rintro e w4 ⟨ov, rfl, ho, hb4⟩
        have HB4 : Hid (Below w3.heap.size w3 w4) := hb4
        obtain ⟨oa, oc, hov, _, _⟩ := ho.shape
        subst hov
        have hmk : (Instr.makeSlice 47 (.int .i64 ((LO.length : Int) + 1)) (.int .i64 ((LO.length : Int) + 1))).run Tryz.prog w4 = .ok (.slice (some ⟨w4.heap.size, 0, none⟩) (LO.length + 1) (LO.length + 1)) (w4.alloc (.cells (ca (LO.length + 1) []) 3)) := by
          have := make_ca w4 (LO.length + 1) (by omega)
          rw [show ((LO.length + 1 : Nat) : Int) = (LO.length : Int) + 1 by omega] at this
          exact this
        have hmc : (w4.alloc (.cells (ca (LO.length + 1) []) 3)).cell? ⟨w4.heap.size, 0, none⟩ = some (.int .i64 0) := by rw [(At.made w4 _ 3).cell 0, ca_get (by omega)]; rfl
        have hmf : (w4.alloc (.cells (ca (LO.length + 1) []) 3)).frozen? ⟨w4.heap.size, 0, none⟩ = false := (At.made w4 _ 3).melt 0
        obtain ⟨w5, hw5⟩ : ∃ W, W = w4.alloc (.cells ((ca (LO.length + 1) []).setIfInBounds 0 (.int .i64 1)) 3) := ⟨_, rfl⟩
        have HW5 : Hid (w5 = _) := hw5
        have HB5 : Hid (Below w3.heap.size w3 w5) := by
          show Below _ _ _
          rw [hw5]
          exact bbox hb4 _
        have HM5 : Hid (At w5 w4.heap.size (ca (LO.length + 1) [0]) 3) := by
          show At _ _ _ _
          rw [hw5]
          rw [show (Value.int .i64 1) = .int .i64 (((([] : List Nat).count 0 : Nat) : Int) + 1) by simp, ca_set (by omega)]
          exact At.made _ _ _
        have HBM : Hid (w3.heap.size ≤ w4.heap.size ∧ w4.heap.size < w5.heap.size) := ⟨hb4.size, HM5.out.lt⟩
        clear hb4 ho HOq hw5 c0 c1 c2 c3
        obtain ⟨c0, c1, c2, c3⟩ := HC4.out w5 (bstep HB3.out HB5.out)
        have HSq : Hid _ := HSt.out w5 (bstep HB3.out HB5.out)
        go_wp2_with (rw [← HW5.out])
        refine Calls.mono HSq.out ?_
        rintro e w6 ⟨sv, rfl, hs, hb6⟩
        have HB6 : Hid (Below w3.heap.size w3 w6) := bstep HB5.out hb6
        have HM6 : Hid (At w6 w4.heap.size (ca (LO.length + 1) [0]) 3) := HM5.out.later hb6
        have HS6 : Hid (w5.heap.size ≤ w6.heap.size) := hb6.size
        obtain ⟨sa, sc, hsv, _, _⟩ := hs.shape
        subst hsv
        have hmk2 := make_ca w6 LS.length (by omega)
        obtain ⟨w7, hw7⟩ : ∃ W, W = w6.alloc (.cells (ca LS.length []) 3) := ⟨_, rfl⟩
        have HW7 : Hid (w7 = _) := hw7
        have HB7 : Hid (Below w3.heap.size w3 w7) := by show Below _ _ _; rw [hw7]; exact bbox HB6.out _
        have HM7 : Hid (At w7 w4.heap.size (ca (LO.length + 1) [0]) 3) := by show At _ _ _ _; rw [hw7]; exact HM6.out.next _
        have HS7 : Hid (At w7 w6.heap.size (ca LS.length []) 3) := by show At _ _ _ _; rw [hw7]; exact At.made _ _ _
        have HUu : Hid _ := HUq.out w7 (bstep HB3.out HB7.out)
        clear hs hb6 HSq hw7 c0 c1 c2 c3 HW5 hmk hmc hmf
        obtain ⟨c0, c1, c2, c3⟩ := HC4.out w6 (bstep HB3.out HB6.out)
        obtain ⟨b0, b1, b2, b3⟩ := HC4.out w7 (bstep HB3.out HB7.out)
        go_wp2_with (rw [← HW7.out])
        refine Calls.mono HUu.out ?_
        rintro e w8 ⟨uv, rfl, hu, hb8⟩
        have HB8 : Hid (Below w3.heap.size w3 w8) := bstep HB7.out hb8
        have hun : ∀ k, uv.ownBlock = some k → k ≠ w4.heap.size ∧ k ≠ w6.heap.size := fun k hk => by
          have h1 := (hu.block k hk).1
          have h2 := HS7.out.lt
          have h3 := HBM.out
          have h4 := HS6.out
          omega
        obtain ⟨ua, uc, huv, _, _⟩ := (show Is w8 uv up from hu.is).shape
        have HFl : Hid (Fl w8 w4.heap.size w6.heap.size (LO.length + 1) LS.length [0] [] uv up) := ⟨HM7.out.later hb8, HS7.out.later hb8, hu.is, hun, by have h3 := HBM.out; have h4 := HS6.out; omega⟩
        have HMs : Hid (w3.heap.size ≤ w4.heap.size ∧ w3.heap.size ≤ w6.heap.size ∧ w4.heap.size < w8.heap.size ∧ w6.heap.size < w8.heap.size) := ⟨HBM.out.1, HB6.out.size, (HM7.out.later hb8).lt, (HS7.out.later hb8).lt⟩
        subst huv
        clear hu hb8 hun c0 c1 c2 c3 b0 b1 b2 b3 HW7 hmk2 HUu HBM HM5 HM6 HM7 HS6 HS7 HUq
        generalize w4.heap.size = bm at *
        generalize w6.heap.size = bs at *
        obtain ⟨N, hN⟩ : ∃ N, N = LO.length + 1 := ⟨_, rfl⟩
        rw [← hN] at HFl HFE ⊢
        have hN1 : 1 ≤ N := by omega
        have hN2 : N ≤ 33 := by omega
        clear hN
        obtain ⟨c0, c1, c2, c3⟩ := HC4.out w8 (bstep HB3.out HB8.out)
        go_wp2_with fail
        clear c0 c1 c2 c3
        have HI8 : Hid (Fl w8 bm bs N LS.length (0 :: PM 0) (List.range (statL g 0).length) (.slice ua up.length uc) up) := by show Fl _ _ _ _ _ _ _ _ _; rw [HF0.out]; exact HFl.out
        go_loopw [9, 10, 11, 12, 13, 57] (fun _ _ _ _ _ z wr => ∃ i : Nat, i ≤ g.fs.length ∧ z = .int .i64 i ∧ Hid (Fl wr bm bs N LS.length (0 :: PM i) (List.range (statL g i).length) (.slice ua up.length uc) up) ∧ Hid (Below w3.heap.size w3 wr ∧ w8.heap.size ≤ wr.heap.size)) (fun _ _ _ _ _ z _ => g.fs.length - (intOf z).toNat)
        case atStart => exact ⟨0, Nat.zero_le _, rfl, HI8.out, HB8.out, Nat.le_refl _⟩
        case round =>
          clear HI8 HFl
          obtain ⟨i, hi, rfl, HFl, HBs⟩ := hrel
          have HB : Hid (Below w3.heap.size w3 wr) := HBs.out.1
          by_cases hil : i < g.fs.length
          · have hii : (i : Int) < (g.fs.length : Int) := by omega
            obtain ⟨tb, off, hla, _, hel⟩ := (HFs.out w0 (Below.refl _ _)).elAll (by intro e; rw [e] at hil; simp at hil)
            subst hla
            obtain ⟨k0, k1, k2, k3, k4, k5, k6⟩ := (show El fdE wr tb (off + i * 7) g.fs[i] from hel wr (bstep HB3.out HB.out) i hil).cells_F
            obtain ⟨hce, hc8⟩ := HWx.out i hil
            have HWi : Hid (∀ W, Below w0.heap.size w0 W → Ans 19 #[.agg #[.slice g.ta g.ts.length g.tc, .slice (some ⟨tb, off, none⟩) g.fs.length g.fc, .slice g.ma g.ms.length g.mc, .int .i64 g.en], .agg #[.int .i64 g.fs[i].t.1, .int .i64 g.fs[i].t.2.1, .int .i64 g.fs[i].t.2.2.1, .bool g.fs[i].t.2.2.2]] W (.int .i64 (celL g g.fs[i].t).length)) := fun W hW => by
              have := HWo.out W g.fs[i].t hW
              rw [hce] at this; exact this
            have HPi : Hid (∀ W, Below w0.heap.size w0 W → Ans 25 #[.agg #[.slice g.ta g.ts.length g.tc, .slice (some ⟨tb, off, none⟩) g.fs.length g.fc, .slice g.ma g.ms.length g.mc, .int .i64 g.en], .int .i64 (i : Int)] W (.int .i64 (plcN g g.fs[i] i : Nat))) := fun W hW => by
              have := HPl.out W (i : Int) hW
              rw [HPq.out i hil] at this; exact this
            have hpb := HPb.out i hil
            obtain ⟨hs1, hs2, hs3⟩ := HSL.out i hil
            have HS1 : Hid ((statL g (i + 1)).length = (statL g i).length + (if g.fs[i].st = true then (celL g g.fs[i].t).length else 0)) := hs1
            have HS3 : Hid (g.fs[i].st = true → plcN g g.fs[i] i = (statL g i).length) := hs3
            have HP1 : Hid (PM (i + 1) = PM i ++ (if (decide (kn = 0) && (up.contains g.fs[i].ow && !g.fs[i].st)) = true then List.range' (plcN g g.fs[i] i) (celL g g.fs[i].t).length else [])) := HFS.out i hil
            have HPm : Hid (∀ x ∈ PM (i + 1), x < N) := HFE.out.2 (i + 1) (by omega)
            clear hel hce hs1 hs3
            generalize plcN g g.fs[i] i = B at *
            generalize g.fs[i] = x at *
            generalize (celL g x.t).length = n at *
            obtain ⟨wA, hwA⟩ : ∃ W, W = wr.alloc (.cells #[.string x.nm, .int .i64 x.ow, .int .i64 x.t.1, .int .i64 x.t.2.1, .int .i64 x.t.2.2.1, .bool x.t.2.2.2, .bool x.st] 50) := ⟨_, rfl⟩
            have HWA : Hid (wA = _) := hwA
            have hbA : Below wr.heap.size wr wA := by rw [hwA]; exact made_below _ _ _
            have hAA : At wA wr.heap.size (fdA12 x) 50 := by rw [hwA]; exact At.made _ _ _
            have HFi : Hid (Fi wA bm bs N LS.length (0 :: PM i) (List.range (statL g i).length) (.slice ua up.length uc) up wr.heap.size x) := ⟨HFl.out.later hbA, hAA, by have h1 := HMs.out; have h2 := HBs.out.2; omega, by have h1 := HMs.out; have h2 := HBs.out.2; omega⟩
            have HBA : Hid (Below w3.heap.size w3 wA ∧ w8.heap.size ≤ wA.heap.size) := ⟨bstep HB.out hbA, Nat.le_trans HBs.out.2 hbA.size⟩
            obtain ⟨b0, b1, b2, b3⟩ := HC4.out wr (bstep HB3.out HB.out)
            obtain ⟨c0, c1, c2, c3⟩ := HC4.out wA (bstep HB3.out HBA.out.1)
            have hcl := hAA.cell
            unfold fdA12 at hcl
            have a2 := hcl 2
            have a3 := hcl 3
            have a4 := hcl 4
            have a5 := hcl 5
            simp at a2 a3 a4 a5
            clear hwA hbA hAA hcl HFl HBs
            go_wp2_with (rw [← HWA.out])
            generalize wr.heap.size = fb at *
            refine Calls.mono (HWi.out wA (bstep HB3.out HBA.out.1)) ?_
            rintro e wB ⟨rfl, hbB⟩
            have HBB : Hid (Below w3.heap.size w3 wB ∧ w8.heap.size ≤ wB.heap.size) := ⟨bstep HBA.out.1 hbB, Nat.le_trans HBA.out.2 hbB.size⟩
            have HFB : Hid (Fi wB bm bs N LS.length (0 :: PM i) (List.range (statL g i).length) (.slice ua up.length uc) up fb x) := HFi.out.later hbB
            clear hbB b0 b1 b2 b3 c0 c1 c2 c3 a2 a3 a4 a5 k0 k1 k2 k3 k4 k5 k6 HFi HWA HWi
            obtain ⟨c0, c1, c2, c3⟩ := HC4.out wB (bstep HB3.out HBB.out.1)
            go_wp2_with fail
            refine Calls.mono (HPi.out wB (bstep HB3.out HBB.out.1)) ?_
            rintro e wC ⟨rfl, hbC⟩
            have HBC : Hid (Below w3.heap.size w3 wC ∧ w8.heap.size ≤ wC.heap.size) := ⟨bstep HBB.out.1 hbC, Nat.le_trans HBB.out.2 hbC.size⟩
            have HFC : Hid (Fi wC bm bs N LS.length (0 :: PM i) (List.range (statL g i).length) (.slice ua up.length uc) up fb x) := HFB.out.later hbC
            clear hbC c0 c1 c2 c3 HFB HPi
            go_wp2_with fail
            cases hst : x.st with
            | true =>
              have HBS : Hid (B = (statL g i).length) := HS3.out hst
              rw [hst] at HS1 HP1
              have hn9 : B + n ≤ LS.length := by
                have h0 := HBS.out
                have h1 := HS1.out
                rw [if_pos rfl] at h1
                omega
              rw [← HBS.out] at HFC
              go_loopw [13, 73] (fun _ z wx => ∃ k : Nat, k ≤ n ∧ z = .int .i64 k ∧ Hid (Fi wx bm bs N LS.length (0 :: PM i) (List.range (B + k)) (.slice ua up.length uc) up fb x) ∧ Hid (Below w3.heap.size w3 wx ∧ w8.heap.size ≤ wx.heap.size)) (fun _ z _ => n - (intOf z).toNat)
              case atStart => exact ⟨0, Nat.zero_le _, rfl, (show Fi _ _ _ _ _ _ _ _ _ _ _ by simpa using HFC.out), HBC.out⟩
              case round =>
                clear HFC HBC
                obtain ⟨k, hk, rfl, HFk, HBk⟩ := hrel
                have a1 := HFk.out.box.cell 1
                have a6 := HFk.out.box.cell 6
                unfold fdA12 at a1 a6
                simp at a1 a6
                by_cases hkn : k < n
                · have hki : (k : Int) < (n : Int) := by omega
                  rw [hst] at a6
                  obtain ⟨X, hX⟩ : ∃ X : Nat, X = B + k := ⟨_, rfl⟩
                  have hcb2 : True := trivial
                  have HFz : Hid _ := HFk.out
                  have HBz : Hid _ := HBk.out
                  clear HFk HBk
                  generalize wr = wz at *
                  have HX : Hid (X < LS.length) := by show X < LS.length; omega
                  have hX1 : X < LS.length := HX.out
                  obtain ⟨c, hc⟩ : ∃ c : Nat, c = (List.range (B + k)).count X := ⟨_, rfl⟩
                  have hcb : c ≤ 100000 := by rw [hc]; exact Nat.le_trans List.count_le_length (by rw [List.length_range]; omega)
                  have s0 : wz.cell? ⟨bs, X, none⟩ = some (.int .i64 (c : Int)) := by rw [HFz.out.fl.still.cell X, ca_get hX1, hc]
                  have s1 : wz.frozen? ⟨bs, X, none⟩ = false := HFz.out.fl.still.melt X
                  have HFn : Hid (Fi (wz.setCell ⟨bs, X, none⟩ (.int .i64 ((c : Int) + 1))) bm bs N LS.length (0 :: PM i) (List.range (B + (k + 1))) (.slice ua up.length uc) up fb x) := by
                    show Fi _ _ _ _ _ _ _ _ _ _ _
                    have := HFz.out.setS hX1
                    rw [← hc, hX, range_snoc] at this
                    rw [hX]
                    exact this
                  have HBn : Hid (Below w3.heap.size w3 (wz.setCell ⟨bs, X, none⟩ (.int .i64 ((c : Int) + 1))) ∧ w8.heap.size ≤ (wz.setCell ⟨bs, X, none⟩ (.int .i64 ((c : Int) + 1))).heap.size) := ⟨Below.setCell HBz.out.1 HMs.out.2.1 _, by simpa using HBz.out.2⟩
                  have hXi : (B : Int) + (k : Int) = (X : Int) := by omega
                  have hX0 : (0 : Int) ≤ (B : Int) + (k : Int) := by omega
                  have hX2 : (B : Int) + (k : Int) < (LS.length : Int) := by omega
                  have hX3 : ((B : Int) + (k : Int)).toNat = X := by omega
                  have hX4 : ¬ (LS.length : Int) ≤ (B : Int) + (k : Int) := by omega
                  have hX5 : (X : Int) < (LS.length : Int) := by omega
                  have hX6 : ¬ (LS.length : Int) ≤ (X : Int) := by omega
                  clear hX hc hcb2

                  go_wp2_with fail
                  go_roundw
                  case rel => exact ⟨k + 1, by omega, by go_num, HFn.out, HBn.out⟩
                  case measure => simp [intOf]; omega
                · have hki : ¬ (k : Int) < (n : Int) := by omega
                  have hke : k = n := by omega
                  have HFn : Hid (Fl wr bm bs N LS.length (0 :: PM (i + 1)) (List.range (statL g (i + 1)).length) (.slice ua up.length uc) up) := by
                    show Fl _ _ _ _ _ _ _ _ _
                    have h1 := HFk.out.fl
                    rw [hke, HBS.out] at h1
                    rw [HS1.out, if_pos rfl, HP1.out]
                    simpa using h1
                  clear hke
                  go_wp2_with fail
                  go_roundw
                  case rel => exact ⟨i + 1, by omega, by go_num, HFn.out, HBk.out⟩
                  case measure => simp [intOf]; omega

            | false =>
              rw [hst] at HS1 HP1
              have hS9 : (statL g (i + 1)).length = (statL g i).length := by rw [HS1.out]; simp
              have HS9 : Hid ((statL g (i + 1)).length = (statL g i).length) := hS9
              by_cases hkz : kn = 0
              · have HKz : Hid (∀ W, Below w0.heap.size w0 W → Ans 26 #[.agg #[.slice g.ta g.ts.length g.tc, .slice (some ⟨tb, off, none⟩) g.fs.length g.fc, .slice g.ma g.ms.length g.mc, .int .i64 g.en], .int .i64 (A : Int)] W (.int .i64 0)) := fun W hW => by have := HKq.out W hW; rw [hkz] at this; exact this
                cases hup : up.contains x.ow with
                | true =>
                  have HP2 : Hid (PM (i + 1) = PM i ++ List.range' B n) := by show _ = _; rw [HP1.out, decide_eq_true hkz, hup]; rfl
                  have HLn : Hid ((PM i).length ≤ 512) := HPLf.out i (by omega)
                  go_loopw [13, 73] (fun _ z wx => ∃ k : Nat, k ≤ n ∧ z = .int .i64 k ∧ Hid (Fi wx bm bs N LS.length ((0 :: PM i) ++ List.range' B k) (List.range (statL g i).length) (.slice ua up.length uc) up fb x) ∧ Hid (Below w3.heap.size w3 wx ∧ w8.heap.size ≤ wx.heap.size)) (fun _ z _ => n - (intOf z).toNat)
                  case atStart => exact ⟨0, Nat.zero_le _, rfl, (show Fi _ _ _ _ _ _ _ _ _ _ _ by simpa using HFC.out), HBC.out⟩
                  case round =>
                    clear HFC HBC
                    obtain ⟨k, hk, rfl, HFk, HBk⟩ := hrel
                    have a1 := HFk.out.box.cell 1
                    have a6 := HFk.out.box.cell 6
                    unfold fdA12 at a1 a6
                    simp at a1 a6
                    by_cases hkn : k < n
                    · have hki : (k : Int) < (n : Int) := by omega
                      rw [hst] at a6
                      obtain ⟨c0, c1, c2, c3⟩ := HC4.out wr (bstep HB3.out HBk.out.1)
                      go_wp2_with fail
                      refine Calls.mono (HKz.out wr (bstep HB3.out HBk.out.1)) ?_
                      rintro e wz ⟨rfl, hbz⟩
                      have HFz : Hid _ := HFk.out.later hbz
                      have HBz : Hid (Below w3.heap.size w3 wz ∧ w8.heap.size ≤ wz.heap.size) := ⟨bstep HBk.out.1 hbz, Nat.le_trans HBk.out.2 hbz.size⟩
                      clear c0 c1 c2 c3 a1 a6 hbz HFk HBk
                      have a1 := HFz.out.box.cell 1
                      have a6 := HFz.out.box.cell 6
                      unfold fdA12 at a1 a6
                      simp at a1 a6
                      rw [hst] at a6
                      have HHas : Hid (Calls Tryz.prog 31 #[.slice ua up.length uc, .int .i64 x.ow] wz fun e w' => e = .returned (.bool (up.contains x.ow)) ∧ w' = wz) := refHas_any HFz.out.fl.up x.ow
                      go_wp2_with fail
                      refine Calls.mono HHas.out ?_
                      rintro e wy ⟨rfl, hz⟩
                      subst wy
                      rw [hup]
                      clear HHas
                      obtain ⟨X, hX⟩ : ∃ X : Nat, X = B + k := ⟨_, rfl⟩
                      have hcb2 : True := trivial
                      have HX : Hid (X < N) := HPm.out X (by rw [HP2.out]; exact List.mem_append_right _ (List.mem_range'.2 ⟨k, hkn, by omega⟩))
                      have hX1 : X < N := HX.out
                      obtain ⟨c, hc⟩ : ∃ c : Nat, c = ((0 :: PM i) ++ List.range' B k).count X := ⟨_, rfl⟩
                      have hcb : c ≤ 100000 := by rw [hc]; exact Nat.le_trans List.count_le_length (by rw [List.length_append, List.length_cons, List.length_range']; have := HLn.out; omega)
                      have s0 : wz.cell? ⟨bm, X, none⟩ = some (.int .i64 (c : Int)) := by rw [HFz.out.fl.met.cell X, ca_get hX1, hc]
                      have s1 : wz.frozen? ⟨bm, X, none⟩ = false := HFz.out.fl.met.melt X
                      have HFn : Hid (Fi (wz.setCell ⟨bm, X, none⟩ (.int .i64 ((c : Int) + 1))) bm bs N LS.length ((0 :: PM i) ++ List.range' B (k + 1)) (List.range (statL g i).length) (.slice ua up.length uc) up fb x) := by
                        show Fi _ _ _ _ _ _ _ _ _ _ _
                        have := HFz.out.setM hX1
                        rw [← hc, hX, List.append_assoc, range'_snoc] at this
                        rw [hX]
                        exact this
                      have HBn : Hid (Below w3.heap.size w3 (wz.setCell ⟨bm, X, none⟩ (.int .i64 ((c : Int) + 1))) ∧ w8.heap.size ≤ (wz.setCell ⟨bm, X, none⟩ (.int .i64 ((c : Int) + 1))).heap.size) := ⟨Below.setCell HBz.out.1 HMs.out.1 _, by simpa using HBz.out.2⟩
                      have hXi : (B : Int) + (k : Int) = (X : Int) := by omega
                      have hX0 : (0 : Int) ≤ (B : Int) + (k : Int) := by omega
                      have hX2 : (B : Int) + (k : Int) < (N : Int) := by omega
                      have hX3 : ((B : Int) + (k : Int)).toNat = X := by omega
                      have hX4 : ¬ (N : Int) ≤ (B : Int) + (k : Int) := by omega
                      have hX5 : (X : Int) < (N : Int) := by omega
                      have hX6 : ¬ (N : Int) ≤ (X : Int) := by omega
                      clear hX hc hcb2

                      go_wp2_with fail
                      go_roundw
                      case rel => exact ⟨k + 1, by omega, by go_num, HFn.out, HBn.out⟩
                      case measure => simp [intOf]; omega
                    · have hki : ¬ (k : Int) < (n : Int) := by omega
                      have hke : k = n := by omega
                      have HFn : Hid (Fl wr bm bs N LS.length (0 :: PM (i + 1)) (List.range (statL g (i + 1)).length) (.slice ua up.length uc) up) := by
                        show Fl _ _ _ _ _ _ _ _ _
                        have h1 := HFk.out.fl
                        rw [hke] at h1
                        rw [HS9.out, HP2.out]
                        exact h1
                      clear hke
                      go_wp2_with fail
                      go_roundw
                      case rel => exact ⟨i + 1, by omega, by go_num, HFn.out, HBk.out⟩
                      case measure => simp [intOf]; omega
                | false =>
                  have HP2 : Hid (PM (i + 1) = PM i) := by show _ = _; rw [HP1.out, decide_eq_true hkz, hup]; simp
                  go_loopw [13, 73] (fun _ z wx => ∃ k : Nat, k ≤ n ∧ z = .int .i64 k ∧ Hid (Fi wx bm bs N LS.length (0 :: PM i) (List.range (statL g i).length) (.slice ua up.length uc) up fb x) ∧ Hid (Below w3.heap.size w3 wx ∧ w8.heap.size ≤ wx.heap.size)) (fun _ z _ => n - (intOf z).toNat)
                  case atStart => exact ⟨0, Nat.zero_le _, rfl, (show Fi _ _ _ _ _ _ _ _ _ _ _ by simpa using HFC.out), HBC.out⟩
                  case round =>
                    clear HFC HBC
                    obtain ⟨k, hk, rfl, HFk, HBk⟩ := hrel
                    have a1 := HFk.out.box.cell 1
                    have a6 := HFk.out.box.cell 6
                    unfold fdA12 at a1 a6
                    simp at a1 a6
                    by_cases hkn : k < n
                    · have hki : (k : Int) < (n : Int) := by omega
                      rw [hst] at a6
                      obtain ⟨c0, c1, c2, c3⟩ := HC4.out wr (bstep HB3.out HBk.out.1)
                      go_wp2_with fail
                      refine Calls.mono (HKz.out wr (bstep HB3.out HBk.out.1)) ?_
                      rintro e wz ⟨rfl, hbz⟩
                      have HFz : Hid _ := HFk.out.later hbz
                      have HBz : Hid (Below w3.heap.size w3 wz ∧ w8.heap.size ≤ wz.heap.size) := ⟨bstep HBk.out.1 hbz, Nat.le_trans HBk.out.2 hbz.size⟩
                      clear c0 c1 c2 c3 a1 a6 hbz HFk HBk
                      have a1 := HFz.out.box.cell 1
                      have a6 := HFz.out.box.cell 6
                      unfold fdA12 at a1 a6
                      simp at a1 a6
                      rw [hst] at a6
                      have HHas : Hid (Calls Tryz.prog 31 #[.slice ua up.length uc, .int .i64 x.ow] wz fun e w' => e = .returned (.bool (up.contains x.ow)) ∧ w' = wz) := refHas_any HFz.out.fl.up x.ow
                      go_wp2_with fail
                      refine Calls.mono HHas.out ?_
                      rintro e wy ⟨rfl, hz⟩
                      subst wy
                      rw [hup]
                      clear HHas
                      go_wp2_with fail
                      go_roundw
                      case rel => exact ⟨k + 1, by omega, by go_num, HFz.out, HBz.out⟩
                      case measure => simp [intOf]; omega
                    · have hki : ¬ (k : Int) < (n : Int) := by omega
                      have hke : k = n := by omega
                      have HFn : Hid (Fl wr bm bs N LS.length (0 :: PM (i + 1)) (List.range (statL g (i + 1)).length) (.slice ua up.length uc) up) := by
                        show Fl _ _ _ _ _ _ _ _ _
                        rw [HS9.out, HP2.out]
                        exact HFk.out.fl
                      clear hke
                      go_wp2_with fail
                      go_roundw
                      case rel => exact ⟨i + 1, by omega, by go_num, HFn.out, HBk.out⟩
                      case measure => simp [intOf]; omega
              · have hkb : (kn == 0) = false := by simpa using hkz
                have HP2 : Hid (PM (i + 1) = PM i) := by show _ = _; rw [HP1.out, decide_eq_false hkz]; simp
                go_loopw [13, 73] (fun _ z wx => ∃ k : Nat, k ≤ n ∧ z = .int .i64 k ∧ Hid (Fi wx bm bs N LS.length (0 :: PM i) (List.range (statL g i).length) (.slice ua up.length uc) up fb x) ∧ Hid (Below w3.heap.size w3 wx ∧ w8.heap.size ≤ wx.heap.size)) (fun _ z _ => n - (intOf z).toNat)
                case atStart => exact ⟨0, Nat.zero_le _, rfl, (show Fi _ _ _ _ _ _ _ _ _ _ _ by simpa using HFC.out), HBC.out⟩
                case round =>
                  clear HFC HBC
                  obtain ⟨k, hk, rfl, HFk, HBk⟩ := hrel
                  have a1 := HFk.out.box.cell 1
                  have a6 := HFk.out.box.cell 6
                  unfold fdA12 at a1 a6
                  simp at a1 a6
                  by_cases hkn : k < n
                  · have hki : (k : Int) < (n : Int) := by omega
                    rw [hst] at a6
                    obtain ⟨c0, c1, c2, c3⟩ := HC4.out wr (bstep HB3.out HBk.out.1)
                    go_wp2_with fail
                    refine Calls.mono (HKq.out wr (bstep HB3.out HBk.out.1)) ?_
                    rintro e wz ⟨rfl, hbz⟩
                    have HFz : Hid _ := HFk.out.later hbz
                    have HBz : Hid (Below w3.heap.size w3 wz ∧ w8.heap.size ≤ wz.heap.size) := ⟨bstep HBk.out.1 hbz, Nat.le_trans HBk.out.2 hbz.size⟩
                    clear c0 c1 c2 c3 a1 a6 hbz HFk HBk
                    have a1 := HFz.out.box.cell 1
                    have a6 := HFz.out.box.cell 6
                    unfold fdA12 at a1 a6
                    simp at a1 a6
                    rw [hst] at a6
                    go_wp2_with fail
                    go_roundw
                    case rel => exact ⟨k + 1, by omega, by go_num, HFz.out, HBz.out⟩
                    case measure => simp [intOf]; omega
                  · have hki : ¬ (k : Int) < (n : Int) := by omega
                    have hke : k = n := by omega
                    have HFn : Hid (Fl wr bm bs N LS.length (0 :: PM (i + 1)) (List.range (statL g (i + 1)).length) (.slice ua up.length uc) up) := by
                      show Fl _ _ _ _ _ _ _ _ _
                      rw [HS9.out, HP2.out]
                      exact HFk.out.fl
                    clear hke
                    go_wp2_with fail
                    go_roundw
                    case rel => exact ⟨i + 1, by omega, by go_num, HFn.out, HBk.out⟩
                    case measure => simp [intOf]; omega
          · have hii : ¬ (i : Int) < (g.fs.length : Int) := by omega
            have hie : i = g.fs.length := by omega
            have HFz : Hid (Fl wr bm bs N LS.length (0 :: PM g.fs.length) (List.range LS.length) (.slice ua up.length uc) up) := by
              show Fl _ _ _ _ _ _ _ _ _
              have := HFl.out
              rw [hie, ← HSE.out] at this
              exact this
            have HBz : Hid (Below w3.heap.size w3 wr) := HB.out
            have HEM : Hid (∀ j, j < N → (0 :: PM g.fs.length).count j = 1) := fun j hj => count_range HFE.out.1 hj
            have HES : Hid (∀ j, j < LS.length → (List.range LS.length).count j = 1) := fun j hj => count_rng _ j hj
            clear hie HFl HBs HB
            obtain ⟨c0, c1, c2, c3⟩ := HC4.out wr (bstep HB3.out HBz.out)
            go_wp2_with fail
            clear c0 c1 c2 c3
            go_loopw [15, 120] (fun _ z wx => ∃ j : Nat, j ≤ LS.length ∧ z = .int .i64 j ∧ Hid (Fl wx bm bs N LS.length (0 :: PM g.fs.length) (List.range LS.length) (.slice ua up.length uc) up ∧ Below w3.heap.size w3 wx)) (fun _ z _ => LS.length - (intOf z).toNat)
            case atStart => exact ⟨0, Nat.zero_le _, rfl, HFz.out, HBz.out⟩
            case round =>
              clear HFz HBz
              obtain ⟨j, hj, rfl, HZ⟩ := hrel
              by_cases hjl : j < LS.length
              · have hji : (j : Int) < (LS.length : Int) := by omega
                have s0 : wr.cell? ⟨bs, j, none⟩ = some (.int .i64 1) := by rw [HZ.out.1.still.cell j, ca_get hjl, HES.out j hjl]; rfl
                go_wp2_with fail
                go_roundw
                case rel => exact ⟨j + 1, by omega, by go_num, HZ.out⟩
                case measure => simp [intOf]; omega
              · have hji : ¬ (j : Int) < (LS.length : Int) := by omega
                have HZ2 : Hid _ := HZ.out
                go_wp2_with fail
                go_loopw [17, 129] (fun _ z wx => ∃ j : Nat, j ≤ N ∧ z = .int .i64 j ∧ Hid (Fl wx bm bs N LS.length (0 :: PM g.fs.length) (List.range LS.length) (.slice ua up.length uc) up ∧ Below w3.heap.size w3 wx)) (fun _ z _ => N - (intOf z).toNat)
                case atStart => exact ⟨0, Nat.zero_le _, rfl, HZ2.out⟩
                case round =>
                  clear HZ HZ2
                  obtain ⟨m, hm, rfl, HZ⟩ := hrel
                  by_cases hml : m < N
                  · have hmi : (m : Int) < (N : Int) := by omega
                    have s0 : wr.cell? ⟨bm, m, none⟩ = some (.int .i64 1) := by rw [HZ.out.1.met.cell m, ca_get hml, HEM.out m hml]; rfl
                    go_wp2_with fail
                    go_roundw
                    case rel => exact ⟨m + 1, by omega, by go_num, HZ.out⟩
                    case measure => simp [intOf]; omega
                  · have hmi : ¬ (m : Int) < (N : Int) := by omega
                    go_wp2_with fail
                    go_ret
                    exact ⟨rfl, bstep HB0.out (bstep HB3.out HZ.out.2)⟩

end Go.Proofs.YtkjailahaopehaaGreat
