
/- The walk of LayoutCells. -/
import Derived.Test.YtkjailahaopehaaGreatQ47
import Derived.Test.YtkjailahaopehaaGreatQ23
import Derived.Test.YtkjailahaopehaaGreatQ28
import Derived.Deep.QuietTactic
import Derived.BigQuiet
namespace Go.Proofs.YtkjailahaopehaaGreat
set_option linter.unusedVariables false
set_option linter.unusedSimpArgs false
open Go.RowKit
attribute [local go_sem ↓] Go.wp_at_zero Go.wp_at_succ

abbrev opLC0 : Oper := { dst := some 10, op := Op.load 26 (Operand.tmp 2), type := 26, pos := "law.go:42", after := #[], guard := none }
abbrev opLC1 : Oper := { dst := some 11, op := Op.load 37 (Operand.tmp 3), type := 37, pos := "law.go:42", after := #[], guard := none }
abbrev opLC2 : Oper := { dst := some 12, op := Op.call { callee := Callee.value (Operand.func 15), args := #[Operand.tmp 10, Operand.tmp 11], argTypes := #[26, 37] }, type := 4, pos := "law.go:42", after := #[{ on := 0, ground := Ground.data }, { on := 1, ground := Ground.data }], guard := none }
abbrev opLC3 : Oper := { dst := some 13, op := Op.load 26 (Operand.tmp 2), type := 26, pos := "law.go:42", after := #[], guard := none }
abbrev opLC4 : Oper := { dst := some 14, op := Op.call { callee := Callee.value (Operand.func 16), args := #[Operand.tmp 13], argTypes := #[26] }, type := 4, pos := "law.go:42", after := #[{ on := 3, ground := Ground.data }, { on := 2, ground := Ground.chain }], guard := none }
abbrev opLC5 : Oper := { dst := some 15, op := Op.move (Operand.tmp 14), type := 4, pos := "law.go:42", after := #[{ on := 4, ground := Ground.data }, { on := 4, ground := Ground.chain }], guard := none }
abbrev opLC6 : Oper := { dst := some 16, op := Op.load 26 (Operand.tmp 2), type := 26, pos := "law.go:42", after := #[{ on := 5, ground := Ground.guard }], guard := some (5, true) }
abbrev opLC7 : Oper := { dst := some 17, op := Op.load 37 (Operand.tmp 3), type := 37, pos := "law.go:42", after := #[{ on := 5, ground := Ground.guard }], guard := some (5, true) }
abbrev opLC8 : Oper := { dst := some 18, op := Op.call { callee := Callee.value (Operand.func 17), args := #[Operand.tmp 16, Operand.tmp 17], argTypes := #[26, 37] }, type := 4, pos := "law.go:42", after := #[{ on := 6, ground := Ground.data }, { on := 7, ground := Ground.data }, { on := 5, ground := Ground.chain }, { on := 5, ground := Ground.guard }], guard := some (5, true) }
abbrev opLC9 : Oper := { dst := some 19, op := Op.pick (Operand.tmp 15) (Operand.tmp 18) (Operand.const (Value.bool false)), type := 4, pos := "law.go:42", after := #[{ on := 5, ground := Ground.data }, { on := 8, ground := Ground.data }], guard := none }
abbrev opLC10 : Oper := { dst := some 20, op := Op.binOp BinOp.neq 4 (Operand.tmp 12) (Operand.tmp 19) 4, type := 4, pos := "law.go:42", after := #[{ on := 2, ground := Ground.data }, { on := 9, ground := Ground.data }], guard := none }

set_option maxHeartbeats 8000000 in
set_option maxRecDepth 20000 in
theorem layoutCells_walk (v : Value) (g : Img) (u : Value) (t : Ty) (w : World) (h : ImV w v g) (hu : u = tv t) :
    Calls Tryz.prog 4 #[v, u] w fun e w' => e = .returned (.bool true) ∧ Below w.heap.size w w' := by
  obtain ⟨rfl, hg, hnm⟩ := h
  subst hu
  obtain ⟨w0, HW0, HB0, HC, HI⟩ := img_type_head hg t
  have HLo : Hid (∀ W, Below w0.heap.size w0 W → Ans 10 #[imA4 g] W (.bool (longI g))) := fun W hW => longI_any (HI.out W hW)
  have HUs : Hid (∀ W, Below w0.heap.size w0 W → Ans 15 #[imA4 g, .agg #[.int .i64 t.1, .int .i64 t.2.1, .int .i64 t.2.2.1, .bool t.2.2.2]] W (.bool (welB g && usdB g t))) := fun W hW => used12_any t (HI.out W hW)
  have HWe : Hid (∀ W, Below w0.heap.size w0 W → Ans 16 #[imA4 g] W (.bool (welB g))) := fun W hW => refWell_any (HI.out W hW) hnm
  have HRu : Hid (∀ W, Below w0.heap.size w0 W → welB g = true → Ans 17 #[imA4 g, .agg #[.int .i64 t.1, .int .i64 t.2.1, .int .i64 t.2.2.1, .bool t.2.2.2]] W (.bool (usdB g t))) := fun W hW hw => refUsed_any t (HI.out W hW) (Wel.of hw).im
  have HCe : Hid (∀ W, Below w0.heap.size w0 W → AnsT 18 #[imA4 g, .agg #[.int .i64 t.1, .int .i64 t.2.1, .int .i64 t.2.2.1, .bool t.2.2.2]] W (cel12 g t)) := fun W hW => cellsT_any t (HI.out W hW)
  have HWo : Hid (∀ W, Below w0.heap.size w0 W → Ans 19 #[imA4 g, .agg #[.int .i64 t.1, .int .i64 t.2.1, .int .i64 t.2.2.1, .bool t.2.2.2]] W (.int .i64 (cel12 g t).length)) := fun W hW => words_any t (HI.out W hW)
  have HFi : Hid (∀ W, Below w0.heap.size w0 W → Ans 20 #[imA4 g] W (.bool (finB g))) := fun W hW => refFine12_any (HI.out W hW) hnm
  have HRc : Hid (∀ W, Below w0.heap.size w0 W → finB g = true → usdB g t = true → AnsT 22 #[imA4 g, .agg #[.int .i64 t.1, .int .i64 t.2.1, .int .i64 t.2.2.1, .bool t.2.2.2]] W (celL g t)) := fun W hW hf hu => refCells_any (Fin_.of hf) (HI.out W hW) hu
  have HFW : Hid (finB g = true → welB g = true) := fun h => (Fin_.of h).wel
  have HR : Hid (cel12 g t = if finB g = true then (if usdB g t = true then celL g t else []) else []) := rfl
  have HC4 : Hid (∀ W, Below w0.heap.size w0 W → (W.cell? ⟨w.heap.size, 0, none⟩ = some (.slice g.ta g.ts.length g.tc) ∧ W.cell? ⟨w.heap.size, 1, none⟩ = some (.slice g.fa g.fs.length g.fc) ∧ W.cell? ⟨w.heap.size, 2, none⟩ = some (.slice g.ma g.ms.length g.mc) ∧ W.cell? ⟨w.heap.size, 3, none⟩ = some (.int .i64 g.en)) ∧ W.cell? ⟨w.heap.size + 1, 0, none⟩ = some (.int .i64 t.1) ∧ W.cell? ⟨w.heap.size + 1, 1, none⟩ = some (.int .i64 t.2.1) ∧ W.cell? ⟨w.heap.size + 1, 2, none⟩ = some (.int .i64 t.2.2.1) ∧ W.cell? ⟨w.heap.size + 1, 3, none⟩ = some (.bool t.2.2.2)) := HC.out
  obtain ⟨⟨c0, c1, c2, c3⟩, d0, d1, d2, d3⟩ := HC4.out w0 (Below.refl _ _)
  unfold imA4 at HLo HUs HWe HRu HCe HWo HFi HRc
  unfold imV tv
  clear hg hnm HC HI
  generalize celL g t = C at *
  generalize cel12 g t = L at *
  generalize welB g = bw at *
  generalize usdB g t = bu at *
  generalize finB g = bf at *
  generalize longI g = bl at *
  go_enter Tryz.func4, Tryz.ntmps4
  go_wp2_with (rw [← HW0.out])
  refine Calls.mono (wakes12_any w0) ?_
  rintro e w1 ⟨rfl, hb1⟩
  have HB1 : Hid (Below w0.heap.size w0 w1) := hb1
  clear hb1 c0 c1 c2 c3 d0 d1 d2 d3
  obtain ⟨⟨c0, c1, c2, c3⟩, d0, d1, d2, d3⟩ := HC4.out w1 HB1.out
  go_wp2_with fail
  refine Calls.mono (HLo.out w1 HB1.out) ?_
  rintro e w2 ⟨rfl, hb2⟩
  have HB2 : Hid (Below w0.heap.size w0 w2) := bstep HB1.out hb2
  clear hb2 c0 c1 c2 c3 d0 d1 d2 d3
  have HK : Hid (∀ W, Below w2.heap.size w2 W → (W.cell? ⟨w.heap.size, 0, none⟩ = some (.slice g.ta g.ts.length g.tc) ∧ W.cell? ⟨w.heap.size, 1, none⟩ = some (.slice g.fa g.fs.length g.fc) ∧ W.cell? ⟨w.heap.size, 2, none⟩ = some (.slice g.ma g.ms.length g.mc) ∧ W.cell? ⟨w.heap.size, 3, none⟩ = some (.int .i64 g.en)) ∧ W.cell? ⟨w.heap.size + 1, 0, none⟩ = some (.int .i64 t.1) ∧ W.cell? ⟨w.heap.size + 1, 1, none⟩ = some (.int .i64 t.2.1) ∧ W.cell? ⟨w.heap.size + 1, 2, none⟩ = some (.int .i64 t.2.2.1) ∧ W.cell? ⟨w.heap.size + 1, 3, none⟩ = some (.bool t.2.2.2)) := fun W hW => HC4.out W (bstep HB2.out hW)
  obtain ⟨⟨c0, c1, c2, c3⟩, d0, d1, d2, d3⟩ := HK.out w2 (Below.refl _ _)
  cases bl with
  | true =>
    go_wp2_with fail
    go_ret
    exact ⟨rfl, bstep HB0.out HB2.out⟩
  | false =>
    cases bw with
    | true =>
      have HUq : Hid (∀ W, Below w2.heap.size w2 W → Ans 15 #[.agg #[.slice g.ta g.ts.length g.tc, .slice g.fa g.fs.length g.fc, .slice g.ma g.ms.length g.mc, .int .i64 g.en], .agg #[.int .i64 t.1, .int .i64 t.2.1, .int .i64 t.2.2.1, .bool t.2.2.2]] W (.bool bu)) := fun W hW => HUs.out W (bstep HB2.out hW)
      have HWq : Hid (∀ W, Below w2.heap.size w2 W → Ans 16 #[.agg #[.slice g.ta g.ts.length g.tc, .slice g.fa g.fs.length g.fc, .slice g.ma g.ms.length g.mc, .int .i64 g.en]] W (.bool true)) := fun W hW => HWe.out W (bstep HB2.out hW)
      have HRq : Hid (∀ W, Below w2.heap.size w2 W → Ans 17 #[.agg #[.slice g.ta g.ts.length g.tc, .slice g.fa g.fs.length g.fc, .slice g.ma g.ms.length g.mc, .int .i64 g.en], .agg #[.int .i64 t.1, .int .i64 t.2.1, .int .i64 t.2.2.1, .bool t.2.2.2]] W (.bool bu)) := fun W hW => HRu.out W (bstep HB2.out hW) (by trivial)
      have hbb : (bu != bu) = false := by simp
      go_wp2_with fail
      go_region_held3 (fun W : World => (W.cell? ⟨w.heap.size, 0, none⟩ = some (.slice g.ta g.ts.length g.tc) ∧ W.cell? ⟨w.heap.size, 1, none⟩ = some (.slice g.fa g.fs.length g.fc) ∧ W.cell? ⟨w.heap.size, 2, none⟩ = some (.slice g.ma g.ms.length g.mc) ∧ W.cell? ⟨w.heap.size, 3, none⟩ = some (.int .i64 g.en)) ∧ W.cell? ⟨w.heap.size + 1, 0, none⟩ = some (.int .i64 t.1) ∧ W.cell? ⟨w.heap.size + 1, 1, none⟩ = some (.int .i64 t.2.1) ∧ W.cell? ⟨w.heap.size + 1, 2, none⟩ = some (.int .i64 t.2.2.1) ∧ W.cell? ⟨w.heap.size + 1, 3, none⟩ = some (.bool t.2.2.2))
        (first | (exact HK.out _ hBe) | (exact HK.out _ hBd) | (exact HK.out _ hBc) | (exact HK.out _ (bdrew _)))
        (first | (go_at_call 15; refine (HUq.out _ (bdrew _)).mono ?_; rintro e w3 ⟨rfl, hb3⟩; have hBc : Below w2.heap.size w2 w3 := bstep (bdrew _) hb3) | (go_at_call 16; refine (HWq.out _ hBc).mono ?_; rintro e w4 ⟨rfl, hb4⟩; have hBd : Below w2.heap.size w2 w4 := bstep hBc hb4) | (go_at_call 17; refine (HRq.out _ hBd).mono ?_; rintro e w5 ⟨rfl, hb5⟩; have hBe : Below w2.heap.size w2 w5 := bstep hBd hb5))
      rename_i hheld
      clear hheld
      have HB5 : Hid (Below w0.heap.size w0 w5) := bstep HB2.out hBe
      clear hb3 hb4 hb5 hBc hBd hBe c0 c1 c2 c3 d0 d1 d2 d3 HK HUq HWq HRq
      obtain ⟨⟨c0, c1, c2, c3⟩, d0, d1, d2, d3⟩ := HC4.out w5 HB5.out
      go_wp2_with fail
      refine Calls.mono (HCe.out w5 HB5.out) ?_
      rintro e w6 ⟨lv, rfl, hl, hb6⟩
      have HB6 : Hid (Below w0.heap.size w0 w6) := bstep HB5.out hb6
      have HL6 : Hid (∀ W, Below w6.heap.size w6 W → Es tyE W lv L) := fun W hW => hl.es.later hW
      obtain ⟨la, lc, hlv, _, _⟩ := hl.shape
      subst hlv
      clear hl hb6 c0 c1 c2 c3 d0 d1 d2 d3
      obtain ⟨⟨c0, c1, c2, c3⟩, d0, d1, d2, d3⟩ := HC4.out w6 HB6.out
      go_wp2_with fail
      refine Calls.mono (HWo.out w6 HB6.out) ?_
      rintro e w7 ⟨rfl, hb7⟩
      have HB7 : Hid (Below w0.heap.size w0 w7) := bstep HB6.out hb7
      have HL7 : Hid (∀ W, Below w7.heap.size w7 W → Es tyE W (.slice la L.length lc) L) := fun W hW => HL6.out W (bstep hb7 hW)
      have hnl : ((L.length : Int) != (L.length : Int)) = false := by simp
      clear hb7 c0 c1 c2 c3 d0 d1 d2 d3 HL6
      obtain ⟨⟨c0, c1, c2, c3⟩, d0, d1, d2, d3⟩ := HC4.out w7 HB7.out
      go_wp2_with fail
      refine Calls.mono (HFi.out w7 HB7.out) ?_
      rintro e w8 ⟨rfl, hb8⟩
      have HB8 : Hid (Below w0.heap.size w0 w8) := bstep HB7.out hb8
      have HL8 : Hid (∀ W, Below w8.heap.size w8 W → Es tyE W (.slice la L.length lc) L) := fun W hW => HL7.out W (bstep hb8 hW)
      clear hb8 c0 c1 c2 c3 d0 d1 d2 d3 HL7
      obtain ⟨⟨c0, c1, c2, c3⟩, d0, d1, d2, d3⟩ := HC4.out w8 HB8.out
      cases bf with
      | false =>
        have h0 : L = [] := HR.out
        subst h0
        go_wp2_with fail
        go_ret
        exact ⟨rfl, bstep HB0.out HB8.out⟩
      | true =>
        go_wp2_with fail
        refine Calls.mono (HRu.out w8 HB8.out (by trivial)) ?_
        rintro e w9 ⟨rfl, hb9⟩
        have HB9 : Hid (Below w0.heap.size w0 w9) := bstep HB8.out hb9
        have HL9 : Hid (∀ W, Below w9.heap.size w9 W → Es tyE W (.slice la L.length lc) L) := fun W hW => HL8.out W (bstep hb9 hW)
        clear hb9 c0 c1 c2 c3 d0 d1 d2 d3 HL8
        obtain ⟨⟨c0, c1, c2, c3⟩, d0, d1, d2, d3⟩ := HC4.out w9 HB9.out
        cases bu with
        | false =>
          have h0 : L = [] := HR.out
          subst h0
          go_wp2_with fail
          go_ret
          exact ⟨rfl, bstep HB0.out HB9.out⟩
        | true =>
          have h0 : L = C := HR.out
          subst h0
          go_wp2_with fail
          refine Calls.mono (HRc.out w9 HB9.out (by trivial) (by trivial)) ?_
          rintro e wa ⟨rv, rfl, hr, hba⟩
          have HBa : Hid (Below w0.heap.size w0 wa) := bstep HB9.out hba
          obtain ⟨ra, rc, hrv, _, _⟩ := hr.shape
          subst hrv
          have HSa : Hid (Calls Tryz.prog 21 #[.slice la L.length lc, .slice ra L.length rc] wa fun e w' => e = .returned (.bool true) ∧ ∃ n, w' = wa.drewN n) := by
            have := sameT11_any (HL9.out wa hba) hr.es
            rw [show decide (L = L) = true from decide_eq_true rfl] at this
            exact this
          clear hr hba c0 c1 c2 c3 d0 d1 d2 d3
          go_wp2_with fail
          refine Calls.mono HSa.out ?_
          rintro e wb ⟨rfl, n, rfl⟩
          go_wp2_with fail
          go_ret
          exact ⟨rfl, Below.drewN (bstep HB0.out HBa.out) n⟩
    | false =>
      have HUq : Hid (∀ W, Below w2.heap.size w2 W → Ans 15 #[.agg #[.slice g.ta g.ts.length g.tc, .slice g.fa g.fs.length g.fc, .slice g.ma g.ms.length g.mc, .int .i64 g.en], .agg #[.int .i64 t.1, .int .i64 t.2.1, .int .i64 t.2.2.1, .bool t.2.2.2]] W (.bool false)) := fun W hW => HUs.out W (bstep HB2.out hW)
      have HWq : Hid (∀ W, Below w2.heap.size w2 W → Ans 16 #[.agg #[.slice g.ta g.ts.length g.tc, .slice g.fa g.fs.length g.fc, .slice g.ma g.ms.length g.mc, .int .i64 g.en]] W (.bool false)) := fun W hW => HWe.out W (bstep HB2.out hW)
      have hbf : bf = false := by
        cases bf with
        | false => rfl
        | true => have := HFW.out (by trivial); exact absurd this (by decide)
      subst hbf
      have h0 : L = [] := HR.out
      subst h0
      go_wp2_with fail
      refine wp_region_held_drew (S := fun W : World => (W.cell? ⟨w.heap.size, 0, none⟩ = some (.slice g.ta g.ts.length g.tc) ∧ W.cell? ⟨w.heap.size, 1, none⟩ = some (.slice g.fa g.fs.length g.fc) ∧ W.cell? ⟨w.heap.size, 2, none⟩ = some (.slice g.ma g.ms.length g.mc) ∧ W.cell? ⟨w.heap.size, 3, none⟩ = some (.int .i64 g.en)) ∧ W.cell? ⟨w.heap.size + 1, 0, none⟩ = some (.int .i64 t.1) ∧ W.cell? ⟨w.heap.size + 1, 1, none⟩ = some (.int .i64 t.2.1) ∧ W.cell? ⟨w.heap.size + 1, 2, none⟩ = some (.int .i64 t.2.2.1) ∧ W.cell? ⟨w.heap.size + 1, 3, none⟩ = some (.bool t.2.2.2)) (by kernel_rfl) (HK.out _ (bdrew _)) (fun hHeld => ?_)
      refine tY 0 opLC0 (.agg #[.slice g.ta g.ts.length g.tc, .slice g.fa g.fs.length g.fc, .slice g.ma g.ms.length g.mc, .int .i64 g.en]) hHeld ?_
      refine tY 1 opLC1 (.agg #[.int .i64 t.1, .int .i64 t.2.1, .int .i64 t.2.2.1, .bool t.2.2.2]) hHeld ?_
      refine tY 3 opLC3 (.agg #[.slice g.ta g.ts.length g.tc, .slice g.fa g.fs.length g.fc, .slice g.ma g.ms.length g.mc, .int .i64 g.en]) hHeld ?_
      refine wpAnyH_ready (rs := [2]) (by kernel_rfl) (by simp) ?_
      refine AllReadyH.cons (o := opLC2) rfl (fun K hK => ?_) AllReadyH.nil
      go_simp
      refine (HUq.out _ (bdrew _)).mono ?_
      rintro e w3 ⟨rfl, hb3⟩
      have hBc : Below w2.heap.size w2 w3 := bstep (bdrew _) hb3
      try go_wp2_with fail
      refine hK.out _ _ (HK.out _ hBc) (fun hHeld => ?_)
      clear hK K
      try simp only [Act.put, sA, s0, sS]
      refine wpAnyH_ready (rs := [4]) (by kernel_rfl) (by simp) ?_
      refine AllReadyH.cons (o := opLC4) rfl (fun K hK => ?_) AllReadyH.nil
      go_simp
      refine (HWq.out _ hBc).mono ?_
      rintro e w4 ⟨rfl, hb4⟩
      have hBd : Below w2.heap.size w2 w4 := bstep hBc hb4
      try go_wp2_with fail
      refine hK.out _ _ (HK.out _ hBd) (fun hHeld => ?_)
      clear hK K
      try simp only [Act.put, sA, s0, sS]
      refine tY 5 opLC5 (.bool false) hHeld ?_
      refine tN 6 opLC6 hHeld ?_
      refine tN 7 opLC7 hHeld ?_
      refine tN 8 opLC8 hHeld ?_
      refine tY 9 opLC9 (.bool false) hHeld ?_
      refine tY 10 opLC10 (.bool false) hHeld ?_
      refine wpAnyH_done (by kernel_rfl) ?_ _
      have HB4 : Hid (Below w0.heap.size w0 w4) := bstep HB2.out hBd
      clear hb3 hb4 hBc hBd hHeld c0 c1 c2 c3 d0 d1 d2 d3 HK HUq HWq
      obtain ⟨⟨c0, c1, c2, c3⟩, d0, d1, d2, d3⟩ := HC4.out w4 HB4.out
      go_wp2_with fail
      refine Calls.mono (HCe.out w4 HB4.out) ?_
      rintro e w6 ⟨lv, rfl, hl, hb6⟩
      have HB6 : Hid (Below w0.heap.size w0 w6) := bstep HB4.out hb6
      obtain ⟨la, lc, hlv, _, _⟩ := hl.shape
      subst hlv
      clear hl hb6 c0 c1 c2 c3 d0 d1 d2 d3
      obtain ⟨⟨c0, c1, c2, c3⟩, d0, d1, d2, d3⟩ := HC4.out w6 HB6.out
      go_wp2_with fail
      refine Calls.mono (HWo.out w6 HB6.out) ?_
      rintro e w7 ⟨rfl, hb7⟩
      have HB7 : Hid (Below w0.heap.size w0 w7) := bstep HB6.out hb7
      clear hb7 c0 c1 c2 c3 d0 d1 d2 d3
      obtain ⟨⟨c0, c1, c2, c3⟩, d0, d1, d2, d3⟩ := HC4.out w7 HB7.out
      go_wp2_with fail
      refine Calls.mono (HFi.out w7 HB7.out) ?_
      rintro e w8 ⟨rfl, hb8⟩
      have HB8 : Hid (Below w0.heap.size w0 w8) := bstep HB7.out hb8
      clear hb8 c0 c1 c2 c3 d0 d1 d2 d3
      go_wp2_with fail
      go_ret
      exact ⟨rfl, bstep HB0.out HB8.out⟩

end Go.Proofs.YtkjailahaopehaaGreat
