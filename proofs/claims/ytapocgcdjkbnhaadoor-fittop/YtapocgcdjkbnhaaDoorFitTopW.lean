
/- The walk of FitTop. -/
import Derived.Test.YtapocgcdjkbnhaaDoorQ12
import Derived.Test.YtapocgcdjkbnhaaDoorQ13
import Derived.Test.YtapocgcdjkbnhaaDoorQ24
import Derived.Deep.QuietTactic
import Derived.BigQuiet
import Derived.Deep.RegionHeld3
namespace Go.Proofs.YtapocgcdjkbnhaaDoor
set_option linter.unusedVariables false
set_option linter.unusedSimpArgs false
open Go.RowKit
attribute [local go_sem ↓] Go.wp_at_zero Go.wp_at_succ

abbrev fT6_0 : Oper := { dst := some 19, op := Op.load 26 (Operand.tmp 3), type := 26, pos := "law.go:92", after := #[], guard := none }
abbrev fT6_1 : Oper := { dst := some 20, op := Op.load 28 (Operand.tmp 4), type := 28, pos := "law.go:92", after := #[], guard := none }
abbrev fT6_2 : Oper := { dst := some 21, op := Op.load 28 (Operand.tmp 5), type := 28, pos := "law.go:92", after := #[], guard := none }
abbrev fT6_3 : Oper := { dst := some 22, op := Op.call { callee := Callee.value (Operand.func 10), args := #[Operand.tmp 19, Operand.tmp 20, Operand.tmp 21], argTypes := #[26, 28, 28] }, type := 4, pos := "law.go:92", after := #[{ on := 0, ground := Ground.data }, { on := 1, ground := Ground.data }, { on := 2, ground := Ground.data }], guard := none }
abbrev fT6_4 : Oper := { dst := some 23, op := Op.load 28 (Operand.tmp 4), type := 28, pos := "law.go:92", after := #[], guard := none }
abbrev fT6_5 : Oper := { dst := some 24, op := Op.load 28 (Operand.tmp 5), type := 28, pos := "law.go:92", after := #[], guard := none }
abbrev fT6_6 : Oper := { dst := some 25, op := Op.binOp BinOp.eql 28 (Operand.tmp 23) (Operand.tmp 24) 28, type := 4, pos := "law.go:92", after := #[{ on := 4, ground := Ground.data }, { on := 5, ground := Ground.data }], guard := none }
abbrev fT6_7 : Oper := { dst := some 26, op := Op.binOp BinOp.eql 4 (Operand.tmp 22) (Operand.tmp 25) 4, type := 4, pos := "law.go:92", after := #[{ on := 3, ground := Ground.data }, { on := 6, ground := Ground.data }], guard := none }
abbrev fT6_8 : Oper := { dst := some 27, op := Op.move (Operand.tmp 26), type := 4, pos := "law.go:92", after := #[{ on := 7, ground := Ground.data }, { on := 3, ground := Ground.chain }], guard := none }
abbrev fT6_9 : Oper := { dst := some 28, op := Op.load 26 (Operand.tmp 3), type := 26, pos := "law.go:92", after := #[{ on := 8, ground := Ground.guard }], guard := some (8, true) }
abbrev fT6_10 : Oper := { dst := some 29, op := Op.load 28 (Operand.tmp 5), type := 28, pos := "law.go:92", after := #[{ on := 8, ground := Ground.guard }], guard := some (8, true) }
abbrev fT6_11 : Oper := { dst := some 30, op := Op.load 28 (Operand.tmp 4), type := 28, pos := "law.go:92", after := #[{ on := 8, ground := Ground.guard }], guard := some (8, true) }
abbrev fT6_12 : Oper := { dst := some 31, op := Op.call { callee := Callee.value (Operand.func 10), args := #[Operand.tmp 28, Operand.tmp 29, Operand.tmp 30], argTypes := #[26, 28, 28] }, type := 4, pos := "law.go:92", after := #[{ on := 9, ground := Ground.data }, { on := 10, ground := Ground.data }, { on := 11, ground := Ground.data }, { on := 8, ground := Ground.chain }, { on := 8, ground := Ground.guard }], guard := some (8, true) }
abbrev fT6_13 : Oper := { dst := some 32, op := Op.load 28 (Operand.tmp 4), type := 28, pos := "law.go:92", after := #[{ on := 8, ground := Ground.guard }], guard := some (8, true) }
abbrev fT6_14 : Oper := { dst := some 33, op := Op.load 28 (Operand.tmp 5), type := 28, pos := "law.go:92", after := #[{ on := 8, ground := Ground.guard }], guard := some (8, true) }
abbrev fT6_15 : Oper := { dst := some 34, op := Op.binOp BinOp.eql 28 (Operand.tmp 32) (Operand.tmp 33) 28, type := 4, pos := "law.go:92", after := #[{ on := 13, ground := Ground.data }, { on := 14, ground := Ground.data }, { on := 8, ground := Ground.guard }], guard := some (8, true) }
abbrev fT6_16 : Oper := { dst := some 35, op := Op.binOp BinOp.eql 4 (Operand.tmp 31) (Operand.tmp 34) 4, type := 4, pos := "law.go:92", after := #[{ on := 12, ground := Ground.data }, { on := 15, ground := Ground.data }, { on := 8, ground := Ground.guard }], guard := some (8, true) }
abbrev fT6_17 : Oper := { dst := some 36, op := Op.pick (Operand.tmp 27) (Operand.tmp 35) (Operand.const (Value.bool false)), type := 4, pos := "law.go:92", after := #[{ on := 8, ground := Ground.data }, { on := 16, ground := Ground.data }], guard := none }
abbrev fT6_18 : Oper := { dst := some 6, op := Op.assign (Operand.tmp 36), type := 4, pos := "law.go:92", after := #[{ on := 17, ground := Ground.data }, { on := 12, ground := Ground.chain }, { on := 0, ground := Ground.phase }, { on := 1, ground := Ground.phase }, { on := 2, ground := Ground.phase }, { on := 3, ground := Ground.phase }, { on := 4, ground := Ground.phase }, { on := 5, ground := Ground.phase }, { on := 6, ground := Ground.phase }, { on := 7, ground := Ground.phase }, { on := 8, ground := Ground.phase }, { on := 9, ground := Ground.phase }, { on := 10, ground := Ground.phase }, { on := 11, ground := Ground.phase }, { on := 12, ground := Ground.phase }, { on := 13, ground := Ground.phase }, { on := 14, ground := Ground.phase }, { on := 15, ground := Ground.phase }, { on := 16, ground := Ground.phase }, { on := 17, ground := Ground.phase }], guard := none }
set_option maxHeartbeats 4000000 in
set_option maxRecDepth 20000 in
theorem fitTop_walk (v : Value) (g : Img) (va : Value) (a : Ty) (vb : Value) (b : Ty) (w : World) (hd : Wd14 w) (h : ImV w v g) (hva : va = tv a) (hvb : vb = tv b) :
    Calls Tryd.prog 5 #[v, va, vb] w fun e w' => e = .returned (.bool true) ∧ Below w.heap.size w w' := by
  obtain ⟨rfl, hg, hnm⟩ := h
  subst hva hvb
  obtain ⟨w0, HW0, HB0, HC, HI⟩ := fit_head hg a b
  have HWk : Hid (Ans 6 #[] w0 (.bool true)) := wakes14_any (hd.later HB0.out)
  have HLo : Hid (∀ W, Below w0.heap.size w0 W → Ans 7 #[imA4 g] W (.bool (longI g))) := fun W hW => longI_any (HI.out W hW)
  have HWe : Hid (∀ W, Below w0.heap.size w0 W → Ans 8 #[imA4 g] W (.bool (welB g))) := fun W hW => refWell_any (HI.out W hW) hnm
  have HOa : Hid (∀ W, Ans 15 #[.agg #[.int .i64 a.1, .int .i64 a.2.1, .int .i64 a.2.2.1, .bool a.2.2.2]] W (.bool (objT a))) := fun W => object14_any a W
  have hn5 : objT a = false → ¬ (a.2.2.1 = 0 ∧ a.1 = 5 ∧ a.2.2.2 = false) := fun h ⟨h1, h2, h3⟩ => by unfold objT at h; rw [h2, h3] at h; simp at h
  have HFa : Hid (∀ W, Below w0.heap.size w0 W → welB g = true → objT a = false → Ans 10 #[imA4 g, .agg #[.int .i64 a.1, .int .i64 a.2.1, .int .i64 a.2.2.1, .bool a.2.2.2], .agg #[.int .i64 b.1, .int .i64 b.2.1, .int .i64 b.2.2.1, .bool b.2.2.2]] W (.bool (decide (a = b)))) := fun W hW hw ho => by
    have := fits14_not (b := b) (Or.inl ho) (HI.out W hW) (Wel.of hw).im ((hd.later HB0.out).later hW)
    rwa [(fit_not (g := g) ho b).1] at this
  have HFb : Hid (∀ W, Below w0.heap.size w0 W → welB g = true → objT a = false → Ans 10 #[imA4 g, .agg #[.int .i64 b.1, .int .i64 b.2.1, .int .i64 b.2.2.1, .bool b.2.2.2], .agg #[.int .i64 a.1, .int .i64 a.2.1, .int .i64 a.2.2.1, .bool a.2.2.2]] W (.bool (decide (a = b)))) := fun W hW hw ho => by
    have := fits14_not (a := b) (Or.inr (Or.inl ho)) (HI.out W hW) (Wel.of hw).im ((hd.later HB0.out).later hW)
    rwa [(fit_not (g := g) ho b).2] at this
  have HF4 : Hid (∀ W, Below w0.heap.size w0 W → welB g = true → objT a = true → Ans 10 #[imA4 g, .agg #[.int .i64 a.1, .int .i64 a.2.1, .int .i64 a.2.2.1, .bool a.2.2.2], .agg #[.int .i64 4, .int .i64 0, .int .i64 0, .bool false]] W (.bool true)) := fun W hW hw ho => by
    have := fits14_not (a := a) (b := (4, 0, 0, false)) (Or.inr (Or.inr (Or.inr (by decide)))) (HI.out W hW) (Wel.of hw).im ((hd.later HB0.out).later hW)
    rwa [fit_iff.2 (Or.inr ⟨ho, obj4, Or.inl (Or.inr is44)⟩)] at this
  have HF8 : Hid (∀ W, Below w0.heap.size w0 W → welB g = true → objT a = true → Ans 10 #[imA4 g, .agg #[.int .i64 8, .int .i64 0, .int .i64 0, .bool false], .agg #[.int .i64 a.1, .int .i64 a.2.1, .int .i64 a.2.2.1, .bool a.2.2.2]] W (.bool true)) := fun W hW hw ho => by
    have := fits14_not (a := (8, 0, 0, false)) (b := a) (Or.inr (Or.inr (Or.inl (by decide)))) (HI.out W hW) (Wel.of hw).im ((hd.later HB0.out).later hW)
    rwa [fit_iff.2 (Or.inr ⟨by decide, ho, Or.inl (Or.inl (by decide))⟩)] at this
  have hq : ∀ W : World, (binOp .eql 28 (.agg #[.int .i64 a.1, .int .i64 a.2.1, .int .i64 a.2.2.1, .bool a.2.2.2]) (.agg #[.int .i64 b.1, .int .i64 b.2.1, .int .i64 b.2.2.1, .bool b.2.2.2])).run Tryd.prog W = .ok (.bool (decide (a = b))) W := fun W => eq_ty2 W a b
  obtain ⟨⟨c0, c1, c2, c3⟩, ⟨d0, d1, d2, d3⟩, ⟨e0, e1, e2, e3⟩⟩ := HC.out w0 (Below.refl _ _)
  have HCw : Hid (∀ W, Below w0.heap.size w0 W → (W.cell? ⟨w.heap.size, 0, none⟩ = some (.slice g.ta g.ts.length g.tc) ∧ W.cell? ⟨w.heap.size, 1, none⟩ = some (.slice g.fa g.fs.length g.fc) ∧ W.cell? ⟨w.heap.size, 2, none⟩ = some (.slice g.ma g.ms.length g.mc) ∧ W.cell? ⟨w.heap.size, 3, none⟩ = some (.int .i64 g.en)) ∧ (W.cell? ⟨w.heap.size + 1, 0, none⟩ = some (.int .i64 a.1) ∧ W.cell? ⟨w.heap.size + 1, 1, none⟩ = some (.int .i64 a.2.1) ∧ W.cell? ⟨w.heap.size + 1, 2, none⟩ = some (.int .i64 a.2.2.1) ∧ W.cell? ⟨w.heap.size + 1, 3, none⟩ = some (.bool a.2.2.2)) ∧ (W.cell? ⟨w.heap.size + 2, 0, none⟩ = some (.int .i64 b.1) ∧ W.cell? ⟨w.heap.size + 2, 1, none⟩ = some (.int .i64 b.2.1) ∧ W.cell? ⟨w.heap.size + 2, 2, none⟩ = some (.int .i64 b.2.2.1) ∧ W.cell? ⟨w.heap.size + 2, 3, none⟩ = some (.bool b.2.2.2))) := HC.out
  unfold imA4 at HLo HWe HFa HFb HF4 HF8
  unfold imV tv
  clear hg hnm hd HI hn5 HC
  generalize decide (a = b) = ab at *
  generalize objT a = oa at *
  obtain ⟨ak, ai, ad, ar⟩ := a
  obtain ⟨bk, bi, bd, br⟩ := b
  simp only at HW0 HOa HFa HFb HF4 HF8 HCw hq d0 d1 d2 d3 e0 e1 e2 e3 ⊢
  go_enter Tryd.func5, Tryd.ntmps5
  go_wp2_with (rw [← HW0.out])
  refine Calls.mono HWk.out ?_
  rintro e w1 ⟨rfl, hb1⟩
  have HB1 : Hid (Below w0.heap.size w0 w1) := hb1
  clear hb1 c0 c1 c2 c3 d0 d1 d2 d3 e0 e1 e2 e3 HWk
  obtain ⟨⟨c0, c1, c2, c3⟩, ⟨d0, d1, d2, d3⟩, ⟨e0, e1, e2, e3⟩⟩ := HCw.out w1 HB1.out
  go_wp2_with fail
  refine Calls.mono (HLo.out w1 HB1.out) ?_
  rintro e w2 ⟨rfl, hb2⟩
  have HB2 : Hid (Below w0.heap.size w0 w2) := bstep HB1.out hb2
  clear hb2 c0 c1 c2 c3 d0 d1 d2 d3 e0 e1 e2 e3
  obtain ⟨⟨c0, c1, c2, c3⟩, ⟨d0, d1, d2, d3⟩, ⟨e0, e1, e2, e3⟩⟩ := HCw.out w2 HB2.out
  cases hl : longI g with
  | true =>
    clear hl
    go_wp2_with fail
    go_ret
    exact ⟨rfl, bstep HB0.out HB2.out⟩
  | false =>
  clear hl
  go_wp2_with fail
  refine Calls.mono (HWe.out w2 HB2.out) ?_
  rintro e w3 ⟨rfl, hb3⟩
  have HB3 : Hid (Below w0.heap.size w0 w3) := bstep HB2.out hb3
  clear hb3 c0 c1 c2 c3 d0 d1 d2 d3 e0 e1 e2 e3
  obtain ⟨⟨c0, c1, c2, c3⟩, ⟨d0, d1, d2, d3⟩, ⟨e0, e1, e2, e3⟩⟩ := HCw.out w3 HB3.out
  cases hwe : welB g with
  | false =>
    clear hwe
    go_wp2_with fail
    go_ret
    exact ⟨rfl, bstep HB0.out HB3.out⟩
  | true =>
  have HFa2 : Hid _ := fun (W : World) (hW : Below w0.heap.size w0 W) => HFa.out W hW hwe
  have HFb2 : Hid _ := fun (W : World) (hW : Below w0.heap.size w0 W) => HFb.out W hW hwe
  have HF42 : Hid _ := fun (W : World) (hW : Below w0.heap.size w0 W) => HF4.out W hW hwe
  have HF82 : Hid _ := fun (W : World) (hW : Below w0.heap.size w0 W) => HF8.out W hW hwe
  clear hwe HLo HWe HFa HFb HF4 HF8
  go_wp2_with fail
  refine Calls.mono (HOa.out w3) ?_
  rintro e w4 ⟨rfl, hb4⟩
  have HB4 : Hid (Below w0.heap.size w0 w4) := bstep HB3.out hb4
  clear hb4 c0 c1 c2 c3 d0 d1 d2 d3 e0 e1 e2 e3
  obtain ⟨⟨c0, c1, c2, c3⟩, ⟨d0, d1, d2, d3⟩, ⟨e0, e1, e2, e3⟩⟩ := HCw.out w4 HB4.out
  cases oa with
  | true =>
    go_wp2_with fail
    refine Calls.mono (HF42.out w4 HB4.out (by trivial)) ?_
    rintro e w5 ⟨rfl, hb5⟩
    have HB5 : Hid (Below w0.heap.size w0 w5) := bstep HB4.out hb5
    clear hb5 c0 c1 c2 c3 d0 d1 d2 d3 e0 e1 e2 e3
    obtain ⟨⟨c0, c1, c2, c3⟩, ⟨d0, d1, d2, d3⟩, ⟨e0, e1, e2, e3⟩⟩ := HCw.out w5 HB5.out
    go_wp2_with fail
    refine Calls.mono (HF82.out w5 HB5.out (by trivial)) ?_
    rintro e w6 ⟨rfl, hb6⟩
    have HB6 : Hid (Below w0.heap.size w0 w6) := bstep HB5.out hb6
    clear hb6 c0 c1 c2 c3 d0 d1 d2 d3 e0 e1 e2 e3
    go_wp2_with fail
    go_ret
    exact ⟨rfl, bstep HB0.out HB6.out⟩
  | false =>
    have HA : Hid _ := fun (W : World) (hW : Below w0.heap.size w0 W) => HFa2.out W hW (by trivial)
    have HBb : Hid _ := fun (W : World) (hW : Below w0.heap.size w0 W) => HFb2.out W hW (by trivial)
    have HK : Hid (∀ W, Below w4.heap.size w4 W → (W.cell? ⟨w.heap.size, 0, none⟩ = some (.slice g.ta g.ts.length g.tc) ∧ W.cell? ⟨w.heap.size, 1, none⟩ = some (.slice g.fa g.fs.length g.fc) ∧ W.cell? ⟨w.heap.size, 2, none⟩ = some (.slice g.ma g.ms.length g.mc) ∧ W.cell? ⟨w.heap.size, 3, none⟩ = some (.int .i64 g.en)) ∧ (W.cell? ⟨w.heap.size + 1, 0, none⟩ = some (.int .i64 ak) ∧ W.cell? ⟨w.heap.size + 1, 1, none⟩ = some (.int .i64 ai) ∧ W.cell? ⟨w.heap.size + 1, 2, none⟩ = some (.int .i64 ad) ∧ W.cell? ⟨w.heap.size + 1, 3, none⟩ = some (.bool ar)) ∧ (W.cell? ⟨w.heap.size + 2, 0, none⟩ = some (.int .i64 bk) ∧ W.cell? ⟨w.heap.size + 2, 1, none⟩ = some (.int .i64 bi) ∧ W.cell? ⟨w.heap.size + 2, 2, none⟩ = some (.int .i64 bd) ∧ W.cell? ⟨w.heap.size + 2, 3, none⟩ = some (.bool br))) := fun W hW => HCw.out W (bstep HB4.out hW)
    clear HFa2 HFb2 HF42 HF82 HOa
    clear c0 c1 c2 c3 d0 d1 d2 d3 e0 e1 e2 e3
    cases ab with
    | false =>
      go_wp2_with fail
      refine wp_region_held_drew (S := (fun W : World => (W.cell? ⟨w.heap.size, 0, none⟩ = some (.slice g.ta g.ts.length g.tc) ∧ W.cell? ⟨w.heap.size, 1, none⟩ = some (.slice g.fa g.fs.length g.fc) ∧ W.cell? ⟨w.heap.size, 2, none⟩ = some (.slice g.ma g.ms.length g.mc) ∧ W.cell? ⟨w.heap.size, 3, none⟩ = some (.int .i64 g.en)) ∧ (W.cell? ⟨w.heap.size + 1, 0, none⟩ = some (.int .i64 ak) ∧ W.cell? ⟨w.heap.size + 1, 1, none⟩ = some (.int .i64 ai) ∧ W.cell? ⟨w.heap.size + 1, 2, none⟩ = some (.int .i64 ad) ∧ W.cell? ⟨w.heap.size + 1, 3, none⟩ = some (.bool ar)) ∧ (W.cell? ⟨w.heap.size + 2, 0, none⟩ = some (.int .i64 bk) ∧ W.cell? ⟨w.heap.size + 2, 1, none⟩ = some (.int .i64 bi) ∧ W.cell? ⟨w.heap.size + 2, 2, none⟩ = some (.int .i64 bd) ∧ W.cell? ⟨w.heap.size + 2, 3, none⟩ = some (.bool br)))) (by kernel_rfl) (HK.out _ (bdrew _)) (fun hHeld => ?_)
      refine tY 0 fT6_0 (.agg #[.slice g.ta g.ts.length g.tc, .slice g.fa g.fs.length g.fc, .slice g.ma g.ms.length g.mc, .int .i64 g.en]) hHeld ?_
      refine tY 1 fT6_1 (.agg #[.int .i64 ak, .int .i64 ai, .int .i64 ad, .bool ar]) hHeld ?_
      refine tY 2 fT6_2 (.agg #[.int .i64 bk, .int .i64 bi, .int .i64 bd, .bool br]) hHeld ?_
      refine tY 4 fT6_4 (.agg #[.int .i64 ak, .int .i64 ai, .int .i64 ad, .bool ar]) hHeld ?_
      refine tY 5 fT6_5 (.agg #[.int .i64 bk, .int .i64 bi, .int .i64 bd, .bool br]) hHeld ?_
      refine tY 6 fT6_6 (.bool false) hHeld ?_
      refine wpAnyH_ready (rs := [3]) (by kernel_rfl) (by simp) ?_
      refine AllReadyH.cons (o := fT6_3) rfl (fun K hK => ?_) AllReadyH.nil
      go_simp
      refine (HA.out _ (bstep HB4.out (bdrew _))).mono ?_
      rintro e w6 ⟨rfl, hb6⟩
      have hB6 : Below w4.heap.size w4 w6 := bstep (bdrew _) hb6
      try go_wp2_with fail
      refine hK.out _ _ (HK.out _ hB6) (fun hHeld => ?_)
      clear hK K
      try simp only [Act.put, sA, s0, sS]
      refine tY 7 fT6_7 (.bool true) hHeld ?_
      refine tY 8 fT6_8 (.bool true) hHeld ?_
      refine tY 9 fT6_9 (.agg #[.slice g.ta g.ts.length g.tc, .slice g.fa g.fs.length g.fc, .slice g.ma g.ms.length g.mc, .int .i64 g.en]) hHeld ?_
      refine tY 10 fT6_10 (.agg #[.int .i64 bk, .int .i64 bi, .int .i64 bd, .bool br]) hHeld ?_
      refine tY 11 fT6_11 (.agg #[.int .i64 ak, .int .i64 ai, .int .i64 ad, .bool ar]) hHeld ?_
      refine tY 13 fT6_13 (.agg #[.int .i64 ak, .int .i64 ai, .int .i64 ad, .bool ar]) hHeld ?_
      refine tY 14 fT6_14 (.agg #[.int .i64 bk, .int .i64 bi, .int .i64 bd, .bool br]) hHeld ?_
      refine tY 15 fT6_15 (.bool false) hHeld ?_
      refine wpAnyH_ready (rs := [12]) (by kernel_rfl) (by simp) ?_
      refine AllReadyH.cons (o := fT6_12) rfl (fun K hK => ?_) AllReadyH.nil
      go_simp
      refine (HBb.out _ (bstep HB4.out hB6)).mono ?_
      rintro e w7 ⟨rfl, hb7⟩
      have hB7 : Below w4.heap.size w4 w7 := bstep hB6 hb7
      try go_wp2_with fail
      refine hK.out _ _ (HK.out _ hB7) (fun hHeld => ?_)
      clear hK K
      try simp only [Act.put, sA, s0, sS]
      refine tY 16 fT6_16 (.bool true) hHeld ?_
      refine tY 17 fT6_17 (.bool true) hHeld ?_
      refine tY 18 fT6_18 (.bool true) hHeld ?_
      refine wpAnyH_done (by kernel_rfl) ?_ _
      have HB9 : Hid (Below w0.heap.size w0 w7) := bstep HB4.out hB7
      clear hb6 hb7 hB6 hB7
      go_wp2_with fail
      go_ret
      exact ⟨rfl, bstep HB0.out HB9.out⟩
    | true =>
      go_wp2_with fail
      refine wp_region_held_drew (S := (fun W : World => (W.cell? ⟨w.heap.size, 0, none⟩ = some (.slice g.ta g.ts.length g.tc) ∧ W.cell? ⟨w.heap.size, 1, none⟩ = some (.slice g.fa g.fs.length g.fc) ∧ W.cell? ⟨w.heap.size, 2, none⟩ = some (.slice g.ma g.ms.length g.mc) ∧ W.cell? ⟨w.heap.size, 3, none⟩ = some (.int .i64 g.en)) ∧ (W.cell? ⟨w.heap.size + 1, 0, none⟩ = some (.int .i64 ak) ∧ W.cell? ⟨w.heap.size + 1, 1, none⟩ = some (.int .i64 ai) ∧ W.cell? ⟨w.heap.size + 1, 2, none⟩ = some (.int .i64 ad) ∧ W.cell? ⟨w.heap.size + 1, 3, none⟩ = some (.bool ar)) ∧ (W.cell? ⟨w.heap.size + 2, 0, none⟩ = some (.int .i64 bk) ∧ W.cell? ⟨w.heap.size + 2, 1, none⟩ = some (.int .i64 bi) ∧ W.cell? ⟨w.heap.size + 2, 2, none⟩ = some (.int .i64 bd) ∧ W.cell? ⟨w.heap.size + 2, 3, none⟩ = some (.bool br)))) (by kernel_rfl) (HK.out _ (bdrew _)) (fun hHeld => ?_)
      refine tY 0 fT6_0 (.agg #[.slice g.ta g.ts.length g.tc, .slice g.fa g.fs.length g.fc, .slice g.ma g.ms.length g.mc, .int .i64 g.en]) hHeld ?_
      refine tY 1 fT6_1 (.agg #[.int .i64 ak, .int .i64 ai, .int .i64 ad, .bool ar]) hHeld ?_
      refine tY 2 fT6_2 (.agg #[.int .i64 bk, .int .i64 bi, .int .i64 bd, .bool br]) hHeld ?_
      refine tY 4 fT6_4 (.agg #[.int .i64 ak, .int .i64 ai, .int .i64 ad, .bool ar]) hHeld ?_
      refine tY 5 fT6_5 (.agg #[.int .i64 bk, .int .i64 bi, .int .i64 bd, .bool br]) hHeld ?_
      refine tY 6 fT6_6 (.bool true) hHeld ?_
      refine wpAnyH_ready (rs := [3]) (by kernel_rfl) (by simp) ?_
      refine AllReadyH.cons (o := fT6_3) rfl (fun K hK => ?_) AllReadyH.nil
      go_simp
      refine (HA.out _ (bstep HB4.out (bdrew _))).mono ?_
      rintro e w6 ⟨rfl, hb6⟩
      have hB6 : Below w4.heap.size w4 w6 := bstep (bdrew _) hb6
      try go_wp2_with fail
      refine hK.out _ _ (HK.out _ hB6) (fun hHeld => ?_)
      clear hK K
      try simp only [Act.put, sA, s0, sS]
      refine tY 7 fT6_7 (.bool true) hHeld ?_
      refine tY 8 fT6_8 (.bool true) hHeld ?_
      refine tY 9 fT6_9 (.agg #[.slice g.ta g.ts.length g.tc, .slice g.fa g.fs.length g.fc, .slice g.ma g.ms.length g.mc, .int .i64 g.en]) hHeld ?_
      refine tY 10 fT6_10 (.agg #[.int .i64 bk, .int .i64 bi, .int .i64 bd, .bool br]) hHeld ?_
      refine tY 11 fT6_11 (.agg #[.int .i64 ak, .int .i64 ai, .int .i64 ad, .bool ar]) hHeld ?_
      refine tY 13 fT6_13 (.agg #[.int .i64 ak, .int .i64 ai, .int .i64 ad, .bool ar]) hHeld ?_
      refine tY 14 fT6_14 (.agg #[.int .i64 bk, .int .i64 bi, .int .i64 bd, .bool br]) hHeld ?_
      refine tY 15 fT6_15 (.bool true) hHeld ?_
      refine wpAnyH_ready (rs := [12]) (by kernel_rfl) (by simp) ?_
      refine AllReadyH.cons (o := fT6_12) rfl (fun K hK => ?_) AllReadyH.nil
      go_simp
      refine (HBb.out _ (bstep HB4.out hB6)).mono ?_
      rintro e w7 ⟨rfl, hb7⟩
      have hB7 : Below w4.heap.size w4 w7 := bstep hB6 hb7
      try go_wp2_with fail
      refine hK.out _ _ (HK.out _ hB7) (fun hHeld => ?_)
      clear hK K
      try simp only [Act.put, sA, s0, sS]
      refine tY 16 fT6_16 (.bool true) hHeld ?_
      refine tY 17 fT6_17 (.bool true) hHeld ?_
      refine tY 18 fT6_18 (.bool true) hHeld ?_
      refine wpAnyH_done (by kernel_rfl) ?_ _
      have HB9 : Hid (Below w0.heap.size w0 w7) := bstep HB4.out hB7
      clear hb6 hb7 hB6 hB7
      go_wp2_with fail
      go_ret
      exact ⟨rfl, bstep HB0.out HB9.out⟩

end Go.Proofs.YtapocgcdjkbnhaaDoor
