
/- The walk of LayoutCheck. -/
import Derived.Test.YtkjailahaopehaaGreatQ47
import Derived.Test.YtkjailahaopehaaGreatQ48
import Derived.Test.YtkjailahaopehaaGreatQ50
import Derived.Deep.QuietTactic
import Derived.BigQuiet
namespace Go.Proofs.YtkjailahaopehaaGreat
set_option linter.unusedVariables false
set_option linter.unusedSimpArgs false
open Go.RowKit
attribute [local go_sem ↓] Go.wp_at_zero Go.wp_at_succ

set_option maxHeartbeats 8000000 in
set_option maxRecDepth 20000 in
theorem layoutCheck_walk (v : Value) (g : Img) (w : World) (h : ImV w v g) :
    Calls Tryz.prog 3 #[v] w fun e w' => e = .returned (.bool true) ∧ Below w.heap.size w w' := by
  obtain ⟨rfl, hg, hnm⟩ := h
  obtain ⟨w0, HW0, HB0, HG, HC, HI, c0, c1, c2, c3⟩ := img_head hg
  have HLo : Hid (∀ W, Below w0.heap.size w0 W → Ans 10 #[imA4 g] W (.bool (longI g))) := fun W hW => longI_any (HI.out W hW)
  have HCo : Hid (∀ W, Below w0.heap.size w0 W → longI g = false → Calls Tryz.prog 11 #[imA4 g] W fun e w' => ∃ h, e = .returned (imV h) ∧ Im w' h ∧ g.like h ∧ Below W.heap.size W w') := fun W hW hl => copied10_any (HI.out W hW) hl
  have HCk : Hid (∀ W h, Im W h → g.like h → Ans 12 #[imA4 h] W (.tuple #[.int .i64 (lchI g).1, .int .i64 (lchI g).2])) := fun W h hh hl => by rw [like_lch hl]; exact check12_any hh
  have HRk : Hid (∀ W, Below w0.heap.size w0 W → Ans 13 #[imA4 g] W (.tuple #[.int .i64 (lchI g).1, .int .i64 (lchI g).2])) := fun W hW => refCheck12_any (HI.out W hW) hnm
  have HSa : Hid (∀ W h, Below w0.heap.size w0 W → Im W h → g.like h → Ans 14 #[imA4 h, imA4 g] W (.bool true)) := fun W h hW hh hl => same10_yes hh (HI.out W hW) (like_symm hl)
  have HC4 : Hid (∀ W, Below w0.heap.size w0 W → Im4 W w.heap.size g) := HC.out
  unfold imA4 at HLo HCo HCk HRk HSa
  unfold Im4 at HC4
  unfold imV
  clear hg hnm HC HI HG
  generalize (lchI g).1 = k1 at *
  generalize (lchI g).2 = k2 at *
  go_enter Tryz.func3, Tryz.ntmps3
  go_wp2_with (rw [← HW0.out])
  refine Calls.mono (wakes12_any w0) ?_
  rintro e w1 ⟨rfl, hb1⟩
  have HB1 : Hid (Below w0.heap.size w0 w1) := hb1
  clear hb1 c0 c1 c2 c3
  obtain ⟨c0, c1, c2, c3⟩ := HC4.out w1 HB1.out
  go_wp2_with fail
  refine Calls.mono (HLo.out w1 HB1.out) ?_
  rintro e w2 ⟨rfl, hb2⟩
  have HB2 : Hid (Below w0.heap.size w0 w2) := bstep HB1.out hb2
  clear hb2 c0 c1 c2 c3
  obtain ⟨c0, c1, c2, c3⟩ := HC4.out w2 HB2.out
  cases hlo : longI g with
  | true =>
    clear hlo
    go_wp2_with fail
    go_ret
    exact ⟨rfl, bstep HB0.out HB2.out⟩
  | false =>
    have HCp : Hid _ := HCo.out w2 HB2.out hlo
    clear hlo HCo
    go_wp2_with fail
    refine Calls.mono HCp.out ?_
    rintro e w3 ⟨h, rfl, hh, hlk, hb3⟩
    have HB3 : Hid (Below w0.heap.size w0 w3) := bstep HB2.out hb3
    obtain ⟨w4, hw4⟩ : ∃ W, W = w3.alloc (.cells (imC h) 26) := ⟨_, rfl⟩
    obtain ⟨hb4, hgb⟩ := GB.made hh hw4
    have HW4 : Hid (w4 = _) := hw4
    have HB4 : Hid (Below w0.heap.size w0 w4) := bstep HB3.out hb4
    have HH : Hid (∀ W, Below w4.heap.size w4 W → Im W h) := fun W hW => hgb.im.later hW
    have HX : Hid (∀ W, Below w4.heap.size w4 W → Im4 W w3.heap.size h) := fun W hW => (hgb.later hW).cells
    have HLk : Hid (g.like h) := hlk
    have HCq : Hid _ := HCk.out w4 h hgb.im hlk
    unfold imC at HW4
    unfold Im4 at HX
    unfold imV
    clear hw4 hb4 hgb hb3 hh hlk c0 c1 c2 c3 HCp
    obtain ⟨x0, x1, x2, x3⟩ := HX.out w4 (Below.refl _ _)
    go_wp2_with (rw [← HW4.out])
    refine Calls.mono HCq.out ?_
    rintro e w5 ⟨rfl, hb5⟩
    have HB5 : Hid (Below w4.heap.size w4 w5) := hb5
    clear hb5 x0 x1 x2 x3 HCq
    obtain ⟨c0, c1, c2, c3⟩ := HC4.out w5 (bstep HB4.out HB5.out)
    go_wp2_with fail
    refine Calls.mono (HRk.out w5 (bstep HB4.out HB5.out)) ?_
    rintro e w6 ⟨rfl, hb6⟩
    have HB6 : Hid (Below w4.heap.size w4 w6) := bstep HB5.out hb6
    clear hb6 c0 c1 c2 c3
    obtain ⟨c0, c1, c2, c3⟩ := HC4.out w6 (bstep HB4.out HB6.out)
    obtain ⟨x0, x1, x2, x3⟩ := HX.out w6 HB6.out
    have HSq : Hid _ := HSa.out w6 h (bstep HB4.out HB6.out) (HH.out w6 HB6.out) HLk.out
    go_wp2_with fail
    refine Calls.mono HSq.out ?_
    rintro e w7 ⟨rfl, hb7⟩
    have HB7 : Hid (Below w4.heap.size w4 w7) := bstep HB6.out hb7
    clear hb7 c0 c1 c2 c3 x0 x1 x2 x3 HSq
    go_wp2_with fail
    go_ret
    exact ⟨rfl, bstep HB0.out (bstep HB4.out HB7.out)⟩

end Go.Proofs.YtkjailahaopehaaGreat
