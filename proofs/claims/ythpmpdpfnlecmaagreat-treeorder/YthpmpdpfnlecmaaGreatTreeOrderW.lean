
/- The walk of TreeOrder. -/
import Derived.Test.YthpmpdpfnlecmaaGreatK09
import Derived.Test.YthpmpdpfnlecmaaGreatK23
import Derived.Test.YthpmpdpfnlecmaaGreatK35
import Derived.Test.YthpmpdpfnlecmaaGreatK14
import Derived.Test.YthpmpdpfnlecmaaGreatK24
import Derived.Deep.QuietTactic
import Derived.BigQuiet
namespace Go.Proofs.YthpmpdpfnlecmaaGreat
set_option linter.unusedVariables false
set_option linter.unusedSimpArgs false
open Go.RowKit
attribute [local go_sem ↓] Go.wp_at_zero Go.wp_at_succ

set_option maxHeartbeats 4000000 in
theorem treeOrder_walk (v : Value) (g : Img) (a b : Int) (w : World) (h : ImV w v g) (ha : (Lit.int .u8 a).wf = true) (hb : (Lit.int .u8 b).wf = true) :
    Calls Tryz.prog 3 #[v, .int .u8 a, .int .u8 b] w fun e w' => e = .returned (.bool true) ∧ Below w.heap.size w w' := by
  obtain ⟨rfl, hg, hnm⟩ := h
  have hau := Go.bounds_u8 ha
  have hbu := Go.bounds_u8 hb
  obtain ⟨w0, hw0⟩ : ∃ W, W = w.alloc (.cells (imC g) 26) := ⟨_, rfl⟩
  have HW0 : Hid (w0 = _) := hw0
  obtain ⟨hb0, hgb⟩ := GB.made hg hw0
  have HB0 : Hid (Below w.heap.size w w0) := hb0
  have HG : Hid (GB w0 w.heap.size g) := hgb
  have HC4 : Hid (∀ W, Below w0.heap.size w0 W → W.cell? ⟨w.heap.size, 0, none⟩ = some (.slice g.ta g.ts.length g.tc) ∧ W.cell? ⟨w.heap.size, 1, none⟩ = some (.slice g.fa g.fs.length g.fc) ∧ W.cell? ⟨w.heap.size, 2, none⟩ = some (.slice g.ma g.ms.length g.mc) ∧ W.cell? ⟨w.heap.size, 3, none⟩ = some (.int .i64 g.en)) := fun W hW => (hgb.later hW).cells
  have HLo : Hid (∀ W, Below w0.heap.size w0 W → Calls Tryz.prog 10 #[.agg (imC g)] W fun e w' => e = .returned (.bool (longI g)) ∧ Below W.heap.size W w') := fun W hW => longI_any (hgb.im.later hW)
  have HWe : Hid (∀ W, Below w0.heap.size w0 W → Calls Tryz.prog 11 #[.agg (imC g)] W fun e w' => e = .returned (.bool (welB g)) ∧ Below W.heap.size W w') := fun W hW => refWell_any (hgb.im.later hW) hnm
  have htl := hg.ts.len
  unfold maxLen at htl
  unfold imC at HW0 HLo HWe
  clear hw0 hb0 hgb hg hnm ha hb
  unfold imV
  go_enter Tryz.func3, Tryz.ntmps3
  go_wp2_with (rw [← HW0.out])
  refine Calls.mono (wakes11_any w0) ?_
  rintro e w1 ⟨rfl, hb1⟩
  have HB1 : Hid (Below w0.heap.size w0 w1) := hb1
  obtain ⟨c0, c1, c2, c3⟩ := HC4.out w1 HB1.out
  clear hb1
  go_wp2_with fail
  refine Calls.mono (HLo.out w1 HB1.out) ?_
  rintro e w2 ⟨rfl, hb2⟩
  have HB2 : Hid (Below w0.heap.size w0 w2) := bstep HB1.out hb2
  clear hb2 c0 c1 c2 c3
  obtain ⟨c0, c1, c2, c3⟩ := HC4.out w2 HB2.out
  cases hl : longI g with
  | true =>
    clear hl
    go_wp2_with fail
    go_ret
    exact ⟨rfl, bstep HB0.out HB2.out⟩
  | false =>
    clear hl
    rcases Nat.eq_zero_or_pos g.ts.length with hz | hz
    · have hzi : (g.ts.length : Int) = 0 := by omega
      clear hz
      go_wp2_with fail
      go_ret
      exact ⟨rfl, bstep HB0.out HB2.out⟩
    · have hzi : ¬ (g.ts.length : Int) = 0 := by omega
      have hzn : ¬ g.ts.length = 0 := by omega
      have hzl : ¬ g.ts = [] := by intro e; rw [e] at hz; simp at hz
      have hzd : decide ((g.ts.length : Int) = 0) = false := decide_eq_false hzi
      go_wp2_with fail
      refine Calls.mono (HWe.out w2 HB2.out) ?_
      rintro e w3 ⟨rfl, hb3⟩
      have HB3 : Hid (Below w0.heap.size w0 w3) := bstep HB2.out hb3
      clear hb3 c0 c1 c2 c3
      obtain ⟨c0, c1, c2, c3⟩ := HC4.out w3 HB3.out
      cases hwe : welB g with
      | false =>
        clear hwe
        go_wp2_with fail
        go_ret
        exact ⟨rfl, bstep HB0.out HB3.out⟩
      | true =>
        have HWl : Hid (Wel g) := Wel.of hwe
        obtain ⟨A, hA, htmA, hAn⟩ := drawn_num hau.1 hz
        obtain ⟨B, hB, htmB, hBn⟩ := drawn_num hbu.1 hz
        have hnz : ((g.ts.length : Int) == 0) = false := by rw [beq_eq_false_iff_ne]; omega
        have HAn : Hid (numB (A : Int) g.ts.length = true) := hAn
        have HBn : Hid (numB (B : Int) g.ts.length = true) := hBn
        have HWa : Hid (Wf (A : Int)) := wf_num (by have := (im_len HWl.out.im).1; omega) hAn
        have HWb : Hid (Wf (B : Int)) := wf_num (by have := (im_len HWl.out.im).1; omega) hBn
        have HBe : Hid (∀ W x y, Below w0.heap.size w0 W → Wf x → Calls Tryz.prog 12 #[.agg (imC g), .int .i64 x, .int .i64 y] W fun e w' => e = .returned (.bool (belB g x y)) ∧ Below W.heap.size W w') := fun W x y hW hx => below_any (HG.out.im.later hW) HWl.out.im hx
        have HRe : Hid (∀ W x y, Below w0.heap.size w0 W → Calls Tryz.prog 13 #[.agg (imC g), .int .i64 x, .int .i64 y] W fun e w' => e = .returned (.bool (belB g x y)) ∧ Below W.heap.size W w') := fun W x y hW => refBelow_any (HG.out.im.later hW) HWl.out.im
        unfold imC at HBe HRe
        clear hwe hAn hBn HLo HWe
        go_wp2_with fail
        go_quiet (fail)
        have HB4 : Hid (Below w0.heap.size w0 (w3.drewN nq)) := Below.drewN HB3.out nq
        clear c0 c1 c2 c3
        revert HB4
        generalize w3.drewN nq = w4
        intro HB4
        obtain ⟨c0, c1, c2, c3⟩ := HC4.out w4 HB4.out
        go_wp2_with fail
        refine Calls.mono (HBe.out w4 _ _ HB4.out HWa.out) ?_
        rintro e w5 ⟨rfl, hb5⟩
        have HB5 : Hid (Below w0.heap.size w0 w5) := bstep HB4.out hb5
        rw [bel_self HAn.out]
        clear hb5 c0 c1 c2 c3
        obtain ⟨c0, c1, c2, c3⟩ := HC4.out w5 HB5.out
        go_wp2_with fail
        refine Calls.mono (HBe.out w5 _ _ HB5.out HWa.out) ?_
        rintro e w6 ⟨rfl, hb6⟩
        have HB6 : Hid (Below w0.heap.size w0 w6) := bstep HB5.out hb6
        clear hb6 c0 c1 c2 c3
        obtain ⟨c0, c1, c2, c3⟩ := HC4.out w6 HB6.out
        cases hab : belB g (A : Int) (B : Int) with
        | false =>
          have HAB : Hid (belB g (A : Int) (B : Int) = false) := hab
          clear hab
          go_wp2_with fail
          go_loopw [9, 62] (fun _ z wr => ∃ q : Nat, q ≤ g.ts.length ∧ z = .int .i64 q ∧ Hid (Below w0.heap.size w0 wr)) (fun _ z _ => g.ts.length - (intOf z).toNat)
          case atStart => exact ⟨0, Nat.zero_le _, rfl, HB6.out⟩
          case round =>
            obtain ⟨q, hq, rfl, HB⟩ := hrel
            by_cases hql : q < g.ts.length
            · have hqi : (q : Int) < (g.ts.length : Int) := by omega
              obtain ⟨c0, c1, c2, c3⟩ := HC4.out wr HB.out
              go_wp2_with fail
              refine Calls.mono (HBe.out wr _ _ HB.out HWa.out) ?_
              rintro e w7 ⟨rfl, hb7⟩
              have HB7 : Hid (Below w0.heap.size w0 w7) := bstep HB.out hb7
              rw [HAB.out]
              obtain ⟨d0, d1, d2, d3⟩ := HC4.out w7 HB7.out
              clear hb7 c0 c1 c2 c3
              go_wp2_with fail
              go_roundw
              case rel => exact ⟨q + 1, by omega, by go_num, HB7.out⟩
              case measure => simp [intOf]; omega
            · have hqi : ¬ (q : Int) < (g.ts.length : Int) := by omega
              obtain ⟨c0, c1, c2, c3⟩ := HC4.out wr HB.out
              have HK : Hid (∀ W, Below wr.heap.size wr W → W.cell? ⟨w.heap.size, 0, none⟩ = some (.slice g.ta g.ts.length g.tc) ∧ W.cell? ⟨w.heap.size, 1, none⟩ = some (.slice g.fa g.fs.length g.fc) ∧ W.cell? ⟨w.heap.size, 2, none⟩ = some (.slice g.ma g.ms.length g.mc) ∧ W.cell? ⟨w.heap.size, 3, none⟩ = some (.int .i64 g.en)) := fun W hW => HC4.out W (bstep HB.out hW)
              go_wp2_with fail
              go_region_held3 (fun W : World => W.cell? ⟨w.heap.size, 0, none⟩ = some (.slice g.ta g.ts.length g.tc) ∧ W.cell? ⟨w.heap.size, 1, none⟩ = some (.slice g.fa g.fs.length g.fc) ∧ W.cell? ⟨w.heap.size, 2, none⟩ = some (.slice g.ma g.ms.length g.mc) ∧ W.cell? ⟨w.heap.size, 3, none⟩ = some (.int .i64 g.en))
                (first | (exact HK.out _ hBd) | (exact HK.out _ hBc) | (exact HK.out _ (bdrew _)))
                (first | (go_at_call 12; refine (HBe.out _ _ _ (bstep HB.out (bdrew _)) HWa.out).mono ?_; rintro e w6 ⟨rfl, hb6⟩; rw [HAB.out]; have hBc : Below wr.heap.size wr w6 := bstep (bdrew _) hb6) | (go_at_call 13; refine (HRe.out _ _ _ (bstep HB.out hBc)).mono ?_; rintro e w7 ⟨rfl, hb7⟩; rw [HAB.out]; have hBd : Below wr.heap.size wr w7 := bstep hBc hb7))
              rename_i hheld
              clear hheld
              have HB9 : Hid (Below w0.heap.size w0 w7) := bstep HB.out hBd
              clear hb6 hb7 hBc hBd c0 c1 c2 c3
              go_wp2_with fail
              go_ret
              exact ⟨rfl, bstep HB0.out HB9.out⟩
        | true =>
          have HAB : Hid (belB g (A : Int) (B : Int) = true) := hab
          clear hab
          go_wp2_with fail
          refine Calls.mono (HBe.out w6 _ _ HB6.out HWb.out) ?_
          rintro e w6b ⟨rfl, hb6⟩
          have HB6b : Hid (Below w0.heap.size w0 w6b) := bstep HB6.out hb6
          clear hb6 c0 c1 c2 c3
          obtain ⟨c0, c1, c2, c3⟩ := HC4.out w6b HB6b.out
          cases hba : belB g (B : Int) (A : Int) with
          | false =>
            clear hba
            go_wp2_with fail
            go_loopw [9, 62] (fun _ z wr => ∃ q : Nat, q ≤ g.ts.length ∧ z = .int .i64 q ∧ Hid (Below w0.heap.size w0 wr)) (fun _ z _ => g.ts.length - (intOf z).toNat)
            case atStart => exact ⟨0, Nat.zero_le _, rfl, HB6b.out⟩
            case round =>
              obtain ⟨q, hq, rfl, HB⟩ := hrel
              by_cases hql : q < g.ts.length
              · have hqi : (q : Int) < (g.ts.length : Int) := by omega
                obtain ⟨c0, c1, c2, c3⟩ := HC4.out wr HB.out
                go_wp2_with fail
                refine Calls.mono (HBe.out wr _ _ HB.out HWa.out) ?_
                rintro e w7 ⟨rfl, hb7⟩
                have HB7 : Hid (Below w0.heap.size w0 w7) := bstep HB.out hb7
                rw [HAB.out]
                obtain ⟨d0, d1, d2, d3⟩ := HC4.out w7 HB7.out
                clear hb7 c0 c1 c2 c3
                go_wp2_with fail
                refine Calls.mono (HBe.out w7 _ _ HB7.out HWb.out) ?_
                rintro e w8 ⟨rfl, hb8⟩
                have HB8 : Hid (Below w0.heap.size w0 w8) := bstep HB7.out hb8
                obtain ⟨c0, c1, c2, c3⟩ := HC4.out w8 HB8.out
                clear hb8 d0 d1 d2 d3
                cases hbx : belB g (B : Int) (q : Int) with
                | false =>
                  clear hbx
                  go_wp2_with fail
                  go_roundw
                  case rel => exact ⟨q + 1, by omega, by go_num, HB8.out⟩
                  case measure => simp [intOf]; omega
                | true =>
                  have HAX : Hid (belB g (A : Int) (q : Int) = true) := bel_trans HWl.out HAB.out hbx
                  clear hbx
                  go_wp2_with fail
                  refine Calls.mono (HBe.out w8 _ _ HB8.out HWa.out) ?_
                  rintro e w9 ⟨rfl, hb9⟩
                  have HB9 : Hid (Below w0.heap.size w0 w9) := bstep HB8.out hb9
                  rw [HAX.out]
                  clear hb9 c0 c1 c2 c3
                  go_wp2_with fail
                  go_roundw
                  case rel => exact ⟨q + 1, by omega, by go_num, HB9.out⟩
                  case measure => simp [intOf]; omega
              · have hqi : ¬ (q : Int) < (g.ts.length : Int) := by omega
                obtain ⟨c0, c1, c2, c3⟩ := HC4.out wr HB.out
                have HK : Hid (∀ W, Below wr.heap.size wr W → W.cell? ⟨w.heap.size, 0, none⟩ = some (.slice g.ta g.ts.length g.tc) ∧ W.cell? ⟨w.heap.size, 1, none⟩ = some (.slice g.fa g.fs.length g.fc) ∧ W.cell? ⟨w.heap.size, 2, none⟩ = some (.slice g.ma g.ms.length g.mc) ∧ W.cell? ⟨w.heap.size, 3, none⟩ = some (.int .i64 g.en)) := fun W hW => HC4.out W (bstep HB.out hW)
                go_wp2_with fail
                go_region_held3 (fun W : World => W.cell? ⟨w.heap.size, 0, none⟩ = some (.slice g.ta g.ts.length g.tc) ∧ W.cell? ⟨w.heap.size, 1, none⟩ = some (.slice g.fa g.fs.length g.fc) ∧ W.cell? ⟨w.heap.size, 2, none⟩ = some (.slice g.ma g.ms.length g.mc) ∧ W.cell? ⟨w.heap.size, 3, none⟩ = some (.int .i64 g.en))
                  (first | (exact HK.out _ hBd) | (exact HK.out _ hBc) | (exact HK.out _ (bdrew _)))
                  (first | (go_at_call 12; refine (HBe.out _ _ _ (bstep HB.out (bdrew _)) HWa.out).mono ?_; rintro e w6 ⟨rfl, hb6⟩; rw [HAB.out]; have hBc : Below wr.heap.size wr w6 := bstep (bdrew _) hb6) | (go_at_call 13; refine (HRe.out _ _ _ (bstep HB.out hBc)).mono ?_; rintro e w7 ⟨rfl, hb7⟩; rw [HAB.out]; have hBd : Below wr.heap.size wr w7 := bstep hBc hb7))
                rename_i hheld
                clear hheld
                have HB9 : Hid (Below w0.heap.size w0 w7) := bstep HB.out hBd
                clear hb6 hb7 hBc hBd c0 c1 c2 c3
                go_wp2_with fail
                go_ret
                exact ⟨rfl, bstep HB0.out HB9.out⟩
          | true =>
            have hE : (A : Int) = (B : Int) := bel_anti HWl.out HAn.out HBn.out HAB.out hba
            have hE4 : A = B := by omega
            subst hE4
            clear hE
            clear hba
            go_wp2_with fail
            go_loopw [9, 62] (fun _ z wr => ∃ q : Nat, q ≤ g.ts.length ∧ z = .int .i64 q ∧ Hid (Below w0.heap.size w0 wr)) (fun _ z _ => g.ts.length - (intOf z).toNat)
            case atStart => exact ⟨0, Nat.zero_le _, rfl, HB6b.out⟩
            case round =>
              obtain ⟨q, hq, rfl, HB⟩ := hrel
              by_cases hql : q < g.ts.length
              · have hqi : (q : Int) < (g.ts.length : Int) := by omega
                obtain ⟨c0, c1, c2, c3⟩ := HC4.out wr HB.out
                go_wp2_with fail
                refine Calls.mono (HBe.out wr _ _ HB.out HWa.out) ?_
                rintro e w7 ⟨rfl, hb7⟩
                have HB7 : Hid (Below w0.heap.size w0 w7) := bstep HB.out hb7
                rw [HAB.out]
                obtain ⟨d0, d1, d2, d3⟩ := HC4.out w7 HB7.out
                clear hb7 c0 c1 c2 c3
                go_wp2_with fail
                refine Calls.mono (HBe.out w7 _ _ HB7.out HWa.out) ?_
                rintro e w8 ⟨rfl, hb8⟩
                have HB8 : Hid (Below w0.heap.size w0 w8) := bstep HB7.out hb8
                obtain ⟨c0, c1, c2, c3⟩ := HC4.out w8 HB8.out
                clear hb8 d0 d1 d2 d3
                cases hbx : belB g (A : Int) (q : Int) with
                | false =>
                  clear hbx
                  go_wp2_with fail
                  go_roundw
                  case rel => exact ⟨q + 1, by omega, by go_num, HB8.out⟩
                  case measure => simp [intOf]; omega
                | true =>
                  have HAX : Hid (belB g (A : Int) (q : Int) = true) := bel_trans HWl.out HAB.out hbx
                  clear hbx
                  go_wp2_with fail
                  refine Calls.mono (HBe.out w8 _ _ HB8.out HWa.out) ?_
                  rintro e w9 ⟨rfl, hb9⟩
                  have HB9 : Hid (Below w0.heap.size w0 w9) := bstep HB8.out hb9
                  rw [HAX.out]
                  clear hb9 c0 c1 c2 c3
                  go_wp2_with fail
                  go_roundw
                  case rel => exact ⟨q + 1, by omega, by go_num, HB9.out⟩
                  case measure => simp [intOf]; omega
              · have hqi : ¬ (q : Int) < (g.ts.length : Int) := by omega
                obtain ⟨c0, c1, c2, c3⟩ := HC4.out wr HB.out
                have HK : Hid (∀ W, Below wr.heap.size wr W → W.cell? ⟨w.heap.size, 0, none⟩ = some (.slice g.ta g.ts.length g.tc) ∧ W.cell? ⟨w.heap.size, 1, none⟩ = some (.slice g.fa g.fs.length g.fc) ∧ W.cell? ⟨w.heap.size, 2, none⟩ = some (.slice g.ma g.ms.length g.mc) ∧ W.cell? ⟨w.heap.size, 3, none⟩ = some (.int .i64 g.en)) := fun W hW => HC4.out W (bstep HB.out hW)
                go_wp2_with fail
                go_region_held3 (fun W : World => W.cell? ⟨w.heap.size, 0, none⟩ = some (.slice g.ta g.ts.length g.tc) ∧ W.cell? ⟨w.heap.size, 1, none⟩ = some (.slice g.fa g.fs.length g.fc) ∧ W.cell? ⟨w.heap.size, 2, none⟩ = some (.slice g.ma g.ms.length g.mc) ∧ W.cell? ⟨w.heap.size, 3, none⟩ = some (.int .i64 g.en))
                  (first | (exact HK.out _ hBd) | (exact HK.out _ hBc) | (exact HK.out _ (bdrew _)))
                  (first | (go_at_call 12; refine (HBe.out _ _ _ (bstep HB.out (bdrew _)) HWa.out).mono ?_; rintro e w6 ⟨rfl, hb6⟩; rw [HAB.out]; have hBc : Below wr.heap.size wr w6 := bstep (bdrew _) hb6) | (go_at_call 13; refine (HRe.out _ _ _ (bstep HB.out hBc)).mono ?_; rintro e w7 ⟨rfl, hb7⟩; rw [HAB.out]; have hBd : Below wr.heap.size wr w7 := bstep hBc hb7))
                rename_i hheld
                clear hheld
                have HB9 : Hid (Below w0.heap.size w0 w7) := bstep HB.out hBd
                clear hb6 hb7 hBc hBd c0 c1 c2 c3
                go_wp2_with fail
                go_ret
                exact ⟨rfl, bstep HB0.out HB9.out⟩

end Go.Proofs.YthpmpdpfnlecmaaGreat
