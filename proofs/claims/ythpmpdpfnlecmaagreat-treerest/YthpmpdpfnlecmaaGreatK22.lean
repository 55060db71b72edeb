/- Texts joined: Plain11. -/
import Derived.Test.YthpmpdpfnlecmaaGreatK14
import Derived.Test.YthpmpdpfnlecmaaGreatK21
namespace Go.Proofs.YthpmpdpfnlecmaaGreat
set_option linter.unusedVariables false
set_option linter.unusedSimpArgs false
open Go.RowKit
attribute [local go_sem ↓] Go.wp_at_zero Go.wp_at_succ
abbrev opF60 : Oper := { dst := some 18, op := Op.load 26 (Operand.tmp 2), type := 26, pos := "check.go:77", after := #[], guard := none }
abbrev opF61 : Oper := { dst := some 19, op := Op.move (Operand.tmp 1), type := 3, pos := "check.go:77", after := #[], guard := none }
abbrev opF62 : Oper := { dst := some 20, op := Op.call { callee := Callee.value (Operand.func 16), args := #[Operand.tmp 18, Operand.tmp 19], argTypes := #[26, 3] }, type := 3, pos := "check.go:77", after := #[{ on := 0, ground := Ground.data }, { on := 1, ground := Ground.data }], guard := none }
abbrev opF63 : Oper := { dst := some 21, op := Op.binOp BinOp.neq 3 (Operand.tmp 20) (Operand.const (Value.int IntKind.i64 2)) 3, type := 4, pos := "check.go:77", after := #[{ on := 2, ground := Ground.data }], guard := none }
abbrev opF64 : Oper := { dst := some 22, op := Op.move (Operand.tmp 21), type := 4, pos := "check.go:77", after := #[{ on := 3, ground := Ground.data }, { on := 2, ground := Ground.chain }], guard := none }
abbrev opF65 : Oper := { dst := some 23, op := Op.load 26 (Operand.tmp 2), type := 26, pos := "check.go:77", after := #[{ on := 4, ground := Ground.guard }], guard := some (4, false) }
abbrev opF66 : Oper := { dst := some 24, op := Op.move (Operand.tmp 1), type := 3, pos := "check.go:77", after := #[{ on := 4, ground := Ground.guard }], guard := some (4, false) }
abbrev opF67 : Oper := { dst := some 25, op := Op.load 26 (Operand.tmp 2), type := 26, pos := "check.go:77", after := #[{ on := 4, ground := Ground.guard }], guard := some (4, false) }
abbrev opF68 : Oper := { dst := some 26, op := Op.call { callee := Callee.value (Operand.func 38), args := #[Operand.tmp 25], argTypes := #[26] }, type := 61, pos := "check.go:77", after := #[{ on := 7, ground := Ground.data }, { on := 4, ground := Ground.chain }, { on := 4, ground := Ground.guard }], guard := some (4, false) }
abbrev opF69 : Oper := { dst := some 27, op := Op.call { callee := Callee.value (Operand.func 162), args := #[Operand.tmp 23, Operand.tmp 24, Operand.tmp 26], argTypes := #[26, 3, 61] }, type := 4, pos := "check.go:77", after := #[{ on := 5, ground := Ground.data }, { on := 6, ground := Ground.data }, { on := 8, ground := Ground.data }, { on := 8, ground := Ground.chain }, { on := 4, ground := Ground.guard }], guard := some (4, false) }
abbrev opF610 : Oper := { dst := some 28, op := Op.unOp UnOp.not 4 (Operand.tmp 27), type := 4, pos := "check.go:77", after := #[{ on := 9, ground := Ground.data }, { on := 4, ground := Ground.guard }], guard := some (4, false) }
abbrev opF611 : Oper := { dst := some 29, op := Op.pick (Operand.tmp 22) (Operand.const (Value.bool true)) (Operand.tmp 28), type := 4, pos := "check.go:77", after := #[{ on := 4, ground := Ground.data }, { on := 10, ground := Ground.data }], guard := none }
abbrev opF612 : Oper := { dst := some 4, op := Op.assign (Operand.tmp 29), type := 4, pos := "check.go:77", after := #[{ on := 11, ground := Ground.data }, { on := 9, ground := Ground.chain }, { on := 0, ground := Ground.phase }, { on := 1, ground := Ground.phase }, { on := 2, ground := Ground.phase }, { on := 3, ground := Ground.phase }, { on := 4, ground := Ground.phase }, { on := 5, ground := Ground.phase }, { on := 6, ground := Ground.phase }, { on := 7, ground := Ground.phase }, { on := 8, ground := Ground.phase }, { on := 9, ground := Ground.phase }, { on := 10, ground := Ground.phase }, { on := 11, ground := Ground.phase }], guard := none }

/-- An image of classes that have nothing. -/
structure Pl (g : Img) : Prop where
 im : imB g = true
 ty : ∀ x ∈ g.ts, x.fs = [] ∧ x.fl = 0
 fs : g.fs = []
 ms : g.ms = []
theorem Pl.knd {g : Img} (h : Pl g) {q : Nat} (hq : q < g.ts.length) : kndI g (q : Int) = 0 := by rw [knd_at hq, (h.ty _ (List.getElem_mem hq)).2]; decide

set_option maxHeartbeats 2000000 in
theorem plKind_any {g : Img} {q : Nat} {w : World} (hg : Im w g) (hp : Pl g) (hq : q < g.ts.length) :
  Calls Tryz.prog 108 #[imV g, .int .i64 q] w fun e w' => e = .returned (.bool true) ∧ Below w.heap.size w w' := by
 obtain ⟨w0, hw0⟩ : ∃ W, W = w.alloc (.cells (imC g) 26) := ⟨_, rfl⟩
 have HW0 : Hid (w0 = _) := hw0
 obtain ⟨hb0, hgb⟩ := GB.made hg hw0
 have HB0 : Hid (Below w.heap.size w w0) := hb0
 have HG : Hid (GB w0 w.heap.size g) := hgb
 have HI : Hid (imB g = true) := hp.im
 have hln := im_len hp.im
 obtain ⟨tb, off, hta, h8, h9, hty⟩ := hgb.ty (by intro e; rw [e] at hq; simp at hq)
 have HTA : Hid (g.ta = some ⟨tb, off, none⟩) := hta
 have HTY : Hid (∀ W, Below w0.heap.size w0 W → ∀ k (hk : k < g.ts.length), W.cell? ⟨tb, off + k * 4, none⟩ = some (.string g.ts[k].nm) ∧ W.cell? ⟨tb, off + k * 4 + 1, none⟩ = some (.int .i64 g.ts[k].fl) ∧ W.cell? ⟨tb, off + k * 4 + 2, none⟩ = some (.int .i64 g.ts[k].ex) ∧ W.cell? ⟨tb, off + k * 4 + 3, none⟩ = some (.slice g.ts[k].fa g.ts[k].fs.length g.ts[k].fc)) := fun W hW k hk => (hty W hW).2 k hk
 have HC4 : Hid (∀ W, Below w0.heap.size w0 W → W.cell? ⟨w.heap.size, 0, none⟩ = some (.slice (some ⟨tb, off, none⟩) g.ts.length g.tc) ∧ W.cell? ⟨w.heap.size, 1, none⟩ = some (.slice g.fa g.fs.length g.fc) ∧ W.cell? ⟨w.heap.size, 2, none⟩ = some (.slice g.ma g.ms.length g.mc) ∧ W.cell? ⟨w.heap.size, 3, none⟩ = some (.int .i64 g.en)) := fun W hW => by
  have := (HG.out.later hW).cells
  rw [HTA.out] at this
  exact this
 have HKd : Hid (∀ W, Below w0.heap.size w0 W → Calls Tryz.prog 16 #[.agg #[.slice (some ⟨tb, off, none⟩) g.ts.length g.tc, .slice g.fa g.fs.length g.fc, .slice g.ma g.ms.length g.mc, .int .i64 g.en], .int .i64 q] W fun e w' => e = .returned (.int .i64 0) ∧ Below W.heap.size W w') := fun W hW => by
  have := kind_any (q : Int) (HG.out.im.later hW) (FlOk.of HI.out)
  rw [hp.knd hq] at this
  unfold imV at this
  rw [HTA.out] at this
  exact this
 obtain ⟨c0, c1, c2, c3⟩ := HC4.out w0 (Below.refl _ _)
 have hqi : (q : Int) < (g.ts.length : Int) := by omega
 unfold maxLen at h9
 unfold imC at HW0
 rw [hta] at HW0
 clear hw0 hb0 hgb hty hta
 unfold imV
 rw [HTA.out]
 go_enter Tryz.func108, Tryz.ntmps108
 go_wp2_with (rw [← HW0.out])
 refine Calls.mono (HKd.out _ (Below.refl _ _)) ?_
 rintro e w1 ⟨rfl, hb1⟩
 have HB1 : Hid (Below w.heap.size w w1) := bstep HB0.out hb1
 clear hb1 c0 c1 c2 c3
 go_wp2_with fail
 go_ret
 exact ⟨rfl, HB1.out⟩

set_option maxHeartbeats 2000000 in
theorem plOpen_any {g : Img} {q : Nat} {w : World} (hg : Im w g) (hp : Pl g) (hq : q < g.ts.length) :
  Calls Tryz.prog 157 #[imV g, .int .i64 q] w fun e w' => e = .returned (.bool true) ∧ Below w.heap.size w w' := by
 obtain ⟨w0, hw0⟩ : ∃ W, W = w.alloc (.cells (imC g) 26) := ⟨_, rfl⟩
 have HW0 : Hid (w0 = _) := hw0
 obtain ⟨hb0, hgb⟩ := GB.made hg hw0
 have HB0 : Hid (Below w.heap.size w w0) := hb0
 have HG : Hid (GB w0 w.heap.size g) := hgb
 have HI : Hid (imB g = true) := hp.im
 have hln := im_len hp.im
 obtain ⟨tb, off, hta, h8, h9, hty⟩ := hgb.ty (by intro e; rw [e] at hq; simp at hq)
 have HTA : Hid (g.ta = some ⟨tb, off, none⟩) := hta
 have HTY : Hid (∀ W, Below w0.heap.size w0 W → ∀ k (hk : k < g.ts.length), W.cell? ⟨tb, off + k * 4, none⟩ = some (.string g.ts[k].nm) ∧ W.cell? ⟨tb, off + k * 4 + 1, none⟩ = some (.int .i64 g.ts[k].fl) ∧ W.cell? ⟨tb, off + k * 4 + 2, none⟩ = some (.int .i64 g.ts[k].ex) ∧ W.cell? ⟨tb, off + k * 4 + 3, none⟩ = some (.slice g.ts[k].fa g.ts[k].fs.length g.ts[k].fc)) := fun W hW k hk => (hty W hW).2 k hk
 have HC4 : Hid (∀ W, Below w0.heap.size w0 W → W.cell? ⟨w.heap.size, 0, none⟩ = some (.slice (some ⟨tb, off, none⟩) g.ts.length g.tc) ∧ W.cell? ⟨w.heap.size, 1, none⟩ = some (.slice g.fa g.fs.length g.fc) ∧ W.cell? ⟨w.heap.size, 2, none⟩ = some (.slice g.ma g.ms.length g.mc) ∧ W.cell? ⟨w.heap.size, 3, none⟩ = some (.int .i64 g.en)) := fun W hW => by
  have := (HG.out.later hW).cells
  rw [HTA.out] at this
  exact this
 have HKd : Hid (∀ W, Below w0.heap.size w0 W → Calls Tryz.prog 16 #[.agg #[.slice (some ⟨tb, off, none⟩) g.ts.length g.tc, .slice g.fa g.fs.length g.fc, .slice g.ma g.ms.length g.mc, .int .i64 g.en], .int .i64 q] W fun e w' => e = .returned (.int .i64 0) ∧ Below W.heap.size W w') := fun W hW => by
  have := kind_any (q : Int) (HG.out.im.later hW) (FlOk.of HI.out)
  rw [hp.knd hq] at this
  unfold imV at this
  rw [HTA.out] at this
  exact this
 obtain ⟨c0, c1, c2, c3⟩ := HC4.out w0 (Below.refl _ _)
 have hqi : (q : Int) < (g.ts.length : Int) := by omega
 unfold maxLen at h9
 unfold imC at HW0
 rw [hta] at HW0
 have HF0 : Hid (g.ts[q].fl = 0) := (hp.ty _ (List.getElem_mem hq)).2
 have hbz : bits .and .i64 0 8 = 0 := by decide +kernel
 clear hw0 hb0 hgb hty hta
 unfold imV
 rw [HTA.out]
 go_enter Tryz.func157, Tryz.ntmps157
 go_wp2_with (rw [← HW0.out])
 refine Calls.mono (HKd.out _ (Below.refl _ _)) ?_
 rintro e w1 ⟨rfl, hb1⟩
 have HB1 : Hid (Below w0.heap.size w0 w1) := hb1
 clear hb1 c0 c1 c2 c3
 obtain ⟨c0, c1, c2, c3⟩ := HC4.out w1 HB1.out
 obtain ⟨_, k1, _, _⟩ := HTY.out w1 HB1.out q hq
 rw [HF0.out] at k1
 go_wp2_with fail
 go_ret
 exact ⟨rfl, bstep HB0.out HB1.out⟩

set_option maxHeartbeats 4000000 in
theorem plExt_any {g : Img} {q : Nat} {w : World} (hg : Im w g) (hp : Pl g) (hq : q < g.ts.length) :
  Calls Tryz.prog 109 #[imV g, .int .i64 q] w fun e w' => e = .returned (.bool (extB g (q : Int))) ∧ Below w.heap.size w w' := by
 have hexq := (im_type hp.im hq).1
 have HE : Hid (extB g (q : Int) = (match (upL g (q : Int)).getLast? with | some u => decide (exI g u = -1) | none => true)) := by
  show _ = _
  unfold extB
  rw [exI_at hq]
  rcases hexq with h | h
  ·rw [h]; rfl
  ·obtain ⟨j, hj, hjl⟩ := num_nat h
   rw [hj, hp.knd hjl, flI_at hjl, (hp.ty _ (List.getElem_mem hjl)).2]
   simp [bitB]
   try (cases (upL g (q : Int)).getLast? <;> rfl)
 obtain ⟨w0, hw0⟩ : ∃ W, W = w.alloc (.cells (imC g) 26) := ⟨_, rfl⟩
 have HW0 : Hid (w0 = _) := hw0
 obtain ⟨hb0, hgb⟩ := GB.made hg hw0
 have HB0 : Hid (Below w.heap.size w w0) := hb0
 have HG : Hid (GB w0 w.heap.size g) := hgb
 have HI : Hid (imB g = true) := hp.im
 have hln := im_len hp.im
 obtain ⟨tb, off, hta, h8, h9, hty⟩ := hgb.ty (by intro e; rw [e] at hq; simp at hq)
 have HTA : Hid (g.ta = some ⟨tb, off, none⟩) := hta
 have HTY : Hid (∀ W, Below w0.heap.size w0 W → ∀ k (hk : k < g.ts.length), W.cell? ⟨tb, off + k * 4, none⟩ = some (.string g.ts[k].nm) ∧ W.cell? ⟨tb, off + k * 4 + 1, none⟩ = some (.int .i64 g.ts[k].fl) ∧ W.cell? ⟨tb, off + k * 4 + 2, none⟩ = some (.int .i64 g.ts[k].ex) ∧ W.cell? ⟨tb, off + k * 4 + 3, none⟩ = some (.slice g.ts[k].fa g.ts[k].fs.length g.ts[k].fc)) := fun W hW k hk => (hty W hW).2 k hk
 have HC4 : Hid (∀ W, Below w0.heap.size w0 W → W.cell? ⟨w.heap.size, 0, none⟩ = some (.slice (some ⟨tb, off, none⟩) g.ts.length g.tc) ∧ W.cell? ⟨w.heap.size, 1, none⟩ = some (.slice g.fa g.fs.length g.fc) ∧ W.cell? ⟨w.heap.size, 2, none⟩ = some (.slice g.ma g.ms.length g.mc) ∧ W.cell? ⟨w.heap.size, 3, none⟩ = some (.int .i64 g.en)) := fun W hW => by
  have := (HG.out.later hW).cells
  rw [HTA.out] at this
  exact this
 have HKd : Hid (∀ W, Below w0.heap.size w0 W → Calls Tryz.prog 16 #[.agg #[.slice (some ⟨tb, off, none⟩) g.ts.length g.tc, .slice g.fa g.fs.length g.fc, .slice g.ma g.ms.length g.mc, .int .i64 g.en], .int .i64 q] W fun e w' => e = .returned (.int .i64 0) ∧ Below W.heap.size W w') := fun W hW => by
  have := kind_any (q : Int) (HG.out.im.later hW) (FlOk.of HI.out)
  rw [hp.knd hq] at this
  unfold imV at this
  rw [HTA.out] at this
  exact this
 obtain ⟨c0, c1, c2, c3⟩ := HC4.out w0 (Below.refl _ _)
 have hqi : (q : Int) < (g.ts.length : Int) := by omega
 unfold maxLen at h9
 unfold imC at HW0
 rw [hta] at HW0
 have HUp : Hid (∀ W, Below w0.heap.size w0 W → Calls Tryz.prog 14 #[.agg #[.slice (some ⟨tb, off, none⟩) g.ts.length g.tc, .slice g.fa g.fs.length g.fc, .slice g.ma g.ms.length g.mc, .int .i64 g.en], .int .i64 q] W fun e w' => ∃ v, e = .returned v ∧ OwnI w' W.heap.size v (upL g (q : Int)) ∧ Below W.heap.size W w') := fun W hW => by
  have := up_any (t := (q : Int)) (HG.out.im.later hW) HI.out (wf_num (n := g.ts.length) (by omega) (by rw [numB_iff]; omega))
  unfold imV at this
  rw [HTA.out] at this
  exact this
 have HOp : Hid (∀ W, Below w0.heap.size w0 W → ∀ j, j < g.ts.length → Calls Tryz.prog 157 #[.agg #[.slice (some ⟨tb, off, none⟩) g.ts.length g.tc, .slice g.fa g.fs.length g.fc, .slice g.ma g.ms.length g.mc, .int .i64 g.en], .int .i64 (j : Int)] W fun e w' => e = .returned (.bool true) ∧ Below W.heap.size W w') := fun W hW j hj => by
  have := plOpen_any (HG.out.im.later hW) hp hj
  unfold imV at this
  rw [HTA.out] at this
  exact this
 obtain ⟨_, _, k2, _⟩ := HTY.out w0 (Below.refl _ _) q hq
 generalize g.ts[q].ex = ex at *
 clear hw0 hb0 hgb hty hta
 unfold imV
 rw [HTA.out]
 go_enter Tryz.func109, Tryz.ntmps109
 have HT : Hid (∀ (w1 : World), Below w0.heap.size w0 w1 → True) := fun _ _ => trivial
 by_cases hex : ex = -1
 ·subst hex
  go_wp2_with (rw [← HW0.out])
  refine Calls.mono (HUp.out w0 (Below.refl _ _)) ?_
  rintro e w2 ⟨uv, rfl, hu, hb2⟩
  have HB2 : Hid (Below w0.heap.size w0 w2) := hb2
  have hne : upL g (q : Int) ≠ [] := by intro e; have := upL_self (g := g) (t := (q : Int)) (by rw [numB_iff]; omega); rw [e] at this; simp at this
  obtain ⟨m, hm⟩ : ∃ m, (upL g (q : Int)).length = m + 1 := ⟨(upL g (q : Int)).length - 1, by have := List.length_pos_iff.2 hne; omega⟩
  obtain ⟨gl, capl, hlv, p1, p2, p3, p4, p5⟩ := hu.parts hne
  have cz := p5 m (by omega)
  obtain ⟨z, hz, hzl⟩ := num_nat ((upL_nd g (q : Int)).1 _ (List.getElem_mem (show m < (upL g (q : Int)).length by omega)))
  rw [hz] at cz
  have HE4 : Hid (extB g (q : Int) = decide (g.ts[z].ex = -1)) := by
   show _ = _
   rw [HE.out, List.getLast?_eq_getElem?, show (upL g (q : Int)).length - 1 = m by omega, List.getElem?_eq_getElem (by omega), hz]
   simp only [exI_at hzl]
  obtain ⟨_, _, kz, _⟩ := HTY.out w2 HB2.out z hzl
  have hzi : (z : Int) < (g.ts.length : Int) := by omega
  rw [hm] at hlv p1
  subst hlv
  unfold maxLen at p2
  clear hb2 c0 c1 c2 c3 hu hne p5 HE hm hz k2
  obtain ⟨c0, c1, c2, c3⟩ := HC4.out w2 HB2.out
  generalize g.ts[z].ex = ez at *
  have HR : Hid (extB g (q : Int) = (ez == -1)) := by show _ = _; rw [HE4.out, Bool.eq_iff_iff]; simp
  go_wp2_with fail
  go_quiet (fail)
  go_wp2_with fail
  go_ret
  exact ⟨ret_bool HR.out.symm, bstep HB0.out (Below.drewN HB2.out _)⟩
 ·obtain ⟨j, rfl, hjl⟩ := num_nat (hexq.resolve_left hex)
  have hjb : ((j : Int) != -1) = true := by rw [bne_iff_ne]; omega
  go_wp2_with (rw [← HW0.out])
  refine Calls.mono (HOp.out w0 (Below.refl _ _) j hjl) ?_
  rintro e w1 ⟨rfl, hb1⟩
  have HB1 : Hid (Below w0.heap.size w0 w1) := hb1
  clear hb1 c0 c1 c2 c3
  obtain ⟨c0, c1, c2, c3⟩ := HC4.out w1 HB1.out
  go_wp2_with fail
  refine Calls.mono (HUp.out w1 HB1.out) ?_
  rintro e w2 ⟨uv, rfl, hu, hb2⟩
  have HB2 : Hid (Below w0.heap.size w0 w2) := bstep HB1.out hb2
  have hne : upL g (q : Int) ≠ [] := by intro e; have := upL_self (g := g) (t := (q : Int)) (by rw [numB_iff]; omega); rw [e] at this; simp at this
  obtain ⟨m, hm⟩ : ∃ m, (upL g (q : Int)).length = m + 1 := ⟨(upL g (q : Int)).length - 1, by have := List.length_pos_iff.2 hne; omega⟩
  obtain ⟨gl, capl, hlv, p1, p2, p3, p4, p5⟩ := hu.parts hne
  have cz := p5 m (by omega)
  obtain ⟨z, hz, hzl⟩ := num_nat ((upL_nd g (q : Int)).1 _ (List.getElem_mem (show m < (upL g (q : Int)).length by omega)))
  rw [hz] at cz
  have HE4 : Hid (extB g (q : Int) = decide (g.ts[z].ex = -1)) := by
   show _ = _
   rw [HE.out, List.getLast?_eq_getElem?, show (upL g (q : Int)).length - 1 = m by omega, List.getElem?_eq_getElem (by omega), hz]
   simp only [exI_at hzl]
  obtain ⟨_, _, kz, _⟩ := HTY.out w2 HB2.out z hzl
  have hzi : (z : Int) < (g.ts.length : Int) := by omega
  rw [hm] at hlv p1
  subst hlv
  unfold maxLen at p2
  clear hb2 c0 c1 c2 c3 hu hne p5 HE hm hz k2
  obtain ⟨c0, c1, c2, c3⟩ := HC4.out w2 HB2.out
  generalize g.ts[z].ex = ez at *
  have HR : Hid (extB g (q : Int) = (ez == -1)) := by show _ = _; rw [HE4.out, Bool.eq_iff_iff]; simp
  go_wp2_with fail
  go_quiet (fail)
  go_wp2_with fail
  go_ret
  exact ⟨ret_bool HR.out.symm, bstep HB0.out (Below.drewN HB2.out _)⟩

theorem differ_none (a : Option Addr) (cap : Nat) (f : FuncId) (bs cs : Array Value) (w : World) :
  Calls Tryz.prog 160 #[.slice a 0 cap, .func (.func f) bs cs] w fun e w' => e = .returned (.bool true) ∧ Below w.heap.size w w' := by
 go_enter Tryz.func160, Tryz.ntmps160
 go_wp2
 refine wp_loop_rounds 1 ?_; rw [rounds_succ]
 go_wp2
 go_ret
 exact ⟨rfl, made_below _ _ _⟩
theorem contN_none (a : Option Addr) (cap : Nat) (f : Value) (w : World) :
  Calls Tryz.prog 158 #[.slice a 0 cap, f] w fun e w' => e = .returned (.bool false) ∧ w' = w := by
 go_enter Tryz.func158, Tryz.ntmps158
 go_wp2_with fail
 refine (indexN10_none a cap f w).mono ?_
 rintro e wz ⟨rfl, hz⟩
 subst wz
 go_wp2
 go_ret
 exact ⟨rfl, rfl⟩

set_option maxHeartbeats 4000000 in
theorem plFac_any {g : Img} {q : Nat} {w : World} (hg : Im w g) (hp : Pl g) (hq : q < g.ts.length) :
  Calls Tryz.prog 110 #[imV g, .int .i64 q] w fun e w' => e = .returned (.bool true) ∧ Below w.heap.size w w' := by
 obtain ⟨w0, hw0⟩ : ∃ W, W = w.alloc (.cells (imC g) 26) := ⟨_, rfl⟩
 have HW0 : Hid (w0 = _) := hw0
 obtain ⟨hb0, hgb⟩ := GB.made hg hw0
 have HB0 : Hid (Below w.heap.size w w0) := hb0
 have HG : Hid (GB w0 w.heap.size g) := hgb
 have HI : Hid (imB g = true) := hp.im
 have hln := im_len hp.im
 obtain ⟨tb, off, hta, h8, h9, hty⟩ := hgb.ty (by intro e; rw [e] at hq; simp at hq)
 have HTA : Hid (g.ta = some ⟨tb, off, none⟩) := hta
 have HTY : Hid (∀ W, Below w0.heap.size w0 W → ∀ k (hk : k < g.ts.length), W.cell? ⟨tb, off + k * 4, none⟩ = some (.string g.ts[k].nm) ∧ W.cell? ⟨tb, off + k * 4 + 1, none⟩ = some (.int .i64 g.ts[k].fl) ∧ W.cell? ⟨tb, off + k * 4 + 2, none⟩ = some (.int .i64 g.ts[k].ex) ∧ W.cell? ⟨tb, off + k * 4 + 3, none⟩ = some (.slice g.ts[k].fa g.ts[k].fs.length g.ts[k].fc)) := fun W hW k hk => (hty W hW).2 k hk
 have HC4 : Hid (∀ W, Below w0.heap.size w0 W → W.cell? ⟨w.heap.size, 0, none⟩ = some (.slice (some ⟨tb, off, none⟩) g.ts.length g.tc) ∧ W.cell? ⟨w.heap.size, 1, none⟩ = some (.slice g.fa g.fs.length g.fc) ∧ W.cell? ⟨w.heap.size, 2, none⟩ = some (.slice g.ma g.ms.length g.mc) ∧ W.cell? ⟨w.heap.size, 3, none⟩ = some (.int .i64 g.en)) := fun W hW => by
  have := (HG.out.later hW).cells
  rw [HTA.out] at this
  exact this
 have HKd : Hid (∀ W, Below w0.heap.size w0 W → Calls Tryz.prog 16 #[.agg #[.slice (some ⟨tb, off, none⟩) g.ts.length g.tc, .slice g.fa g.fs.length g.fc, .slice g.ma g.ms.length g.mc, .int .i64 g.en], .int .i64 q] W fun e w' => e = .returned (.int .i64 0) ∧ Below W.heap.size W w') := fun W hW => by
  have := kind_any (q : Int) (HG.out.im.later hW) (FlOk.of HI.out)
  rw [hp.knd hq] at this
  unfold imV at this
  rw [HTA.out] at this
  exact this
 obtain ⟨c0, c1, c2, c3⟩ := HC4.out w0 (Below.refl _ _)
 have hqi : (q : Int) < (g.ts.length : Int) := by omega
 unfold maxLen at h9
 unfold imC at HW0
 rw [hta] at HW0
 have HF0 : Hid (g.ts[q].fs = []) := (hp.ty _ (List.getElem_mem hq)).1
 obtain ⟨_, _, _, k3⟩ := HTY.out w0 (Below.refl _ _) q hq
 rw [HF0.out] at k3
 generalize g.ts[q].fa = xa at *
 generalize g.ts[q].fc = xc at *
 clear hw0 hb0 hgb hty hta
 unfold imV
 rw [HTA.out]
 go_enter Tryz.func110, Tryz.ntmps110
 go_wp2_with (rw [← HW0.out])
 refine (contN_none _ _ _ _).mono ?_
 rintro e wz ⟨rfl, hz⟩
 subst wz
 go_wp2_with fail
 refine (differ_none _ _ _ _ _ _).mono ?_
 rintro e wx ⟨rfl, hbx⟩
 have HBx : Hid (Below w0.heap.size w0 wx) := hbx
 have HK : Hid (∀ W, Below wx.heap.size wx W → W.cell? ⟨w.heap.size, 0, none⟩ = some (.slice (some ⟨tb, off, none⟩) g.ts.length g.tc) ∧ W.cell? ⟨w.heap.size, 1, none⟩ = some (.slice g.fa g.fs.length g.fc) ∧ W.cell? ⟨w.heap.size, 2, none⟩ = some (.slice g.ma g.ms.length g.mc) ∧ W.cell? ⟨w.heap.size, 3, none⟩ = some (.int .i64 g.en)) := fun W hW => HC4.out W (bstep HBx.out hW)
 clear hbx c0 c1 c2 c3 k3
 obtain ⟨c0, c1, c2, c3⟩ := HK.out wx (Below.refl _ _)
 go_wp2_with fail
 refine wp_region_held_drew (S := (fun W : World => W.cell? ⟨w.heap.size, 0, none⟩ = some (.slice (some ⟨tb, off, none⟩) g.ts.length g.tc) ∧ W.cell? ⟨w.heap.size, 1, none⟩ = some (.slice g.fa g.fs.length g.fc) ∧ W.cell? ⟨w.heap.size, 2, none⟩ = some (.slice g.ma g.ms.length g.mc) ∧ W.cell? ⟨w.heap.size, 3, none⟩ = some (.int .i64 g.en))) (by kernel_rfl) (HK.out _ (bdrew _)) (fun hHeld => ?_)
 refine wpAnyH_take (i := 0) (oi := opF60) (v := .agg #[.slice (some ⟨tb, off, none⟩) g.ts.length g.tc, .slice g.fa g.fs.length g.fc, .slice g.ma g.ms.length g.mc, .int .i64 g.en]) rfl (by kernel_rfl) (by kernel_rfl) (by kernel_rfl) (fun _ _ _ h => h) (Or.inl ⟨by rfl, by intro w' hSw; (try dsimp only at hSw); go_simp⟩) hHeld ?_
 try simp only [Act.put, List.setIfInBounds_toArray, List.set_cons_zero, List.set_cons_succ]
 refine wpAnyH_take (i := 1) (oi := opF61) (v := .int .i64 q) rfl (by kernel_rfl) (by kernel_rfl) (by kernel_rfl) (fun _ _ _ h => h) (Or.inl ⟨by rfl, by intro w' hSw; (try dsimp only at hSw); go_simp⟩) hHeld ?_
 try simp only [Act.put, List.setIfInBounds_toArray, List.set_cons_zero, List.set_cons_succ]
 refine wpAnyH_ready (rs := [2]) (by kernel_rfl) (by simp) ?_
 refine AllReadyH.cons (o := opF62) rfl (fun K hK => ?_) AllReadyH.nil
 go_simp
 refine (HKd.out _ (bstep HBx.out (bdrew _))).mono ?_
 rintro e w2 ⟨rfl, hb2⟩
 have hBc : Below wx.heap.size wx w2 := bstep (bdrew _) hb2
 try go_wp2_with fail
 refine hK.out _ _ (HK.out _ hBc) (fun hHeld => ?_)
 clear hK K
 try simp only [Act.put, List.setIfInBounds_toArray, List.set_cons_zero, List.set_cons_succ]
 refine wpAnyH_take (i := 3) (oi := opF63) (v := .bool true) rfl (by kernel_rfl) (by kernel_rfl) (by kernel_rfl) (fun _ _ _ h => h) (Or.inl ⟨by rfl, by intro w' hSw; (try dsimp only at hSw); go_simp⟩) hHeld ?_
 try simp only [Act.put, List.setIfInBounds_toArray, List.set_cons_zero, List.set_cons_succ]
 refine wpAnyH_take (i := 4) (oi := opF64) (v := .bool true) rfl (by kernel_rfl) (by kernel_rfl) (by kernel_rfl) (fun _ _ _ h => h) (Or.inl ⟨by rfl, by intro w' hSw; (try dsimp only at hSw); go_simp⟩) hHeld ?_
 try simp only [Act.put, List.setIfInBounds_toArray, List.set_cons_zero, List.set_cons_succ]
 refine wpAnyH_take (i := 5) (oi := opF65) (v := undef) rfl (by kernel_rfl) (by kernel_rfl) (by kernel_rfl) (fun _ _ _ h => h) (Or.inr ⟨by rfl, rfl⟩) hHeld ?_
 try simp only [Act.put, List.setIfInBounds_toArray, List.set_cons_zero, List.set_cons_succ]
 refine wpAnyH_take (i := 6) (oi := opF66) (v := undef) rfl (by kernel_rfl) (by kernel_rfl) (by kernel_rfl) (fun _ _ _ h => h) (Or.inr ⟨by rfl, rfl⟩) hHeld ?_
 try simp only [Act.put, List.setIfInBounds_toArray, List.set_cons_zero, List.set_cons_succ]
 refine wpAnyH_take (i := 7) (oi := opF67) (v := undef) rfl (by kernel_rfl) (by kernel_rfl) (by kernel_rfl) (fun _ _ _ h => h) (Or.inr ⟨by rfl, rfl⟩) hHeld ?_
 try simp only [Act.put, List.setIfInBounds_toArray, List.set_cons_zero, List.set_cons_succ]
 refine wpAnyH_take (i := 8) (oi := opF68) (v := undef) rfl (by kernel_rfl) (by kernel_rfl) (by kernel_rfl) (fun _ _ _ h => h) (Or.inr ⟨by rfl, rfl⟩) hHeld ?_
 try simp only [Act.put, List.setIfInBounds_toArray, List.set_cons_zero, List.set_cons_succ]
 refine wpAnyH_take (i := 9) (oi := opF69) (v := undef) rfl (by kernel_rfl) (by kernel_rfl) (by kernel_rfl) (fun _ _ _ h => h) (Or.inr ⟨by rfl, rfl⟩) hHeld ?_
 try simp only [Act.put, List.setIfInBounds_toArray, List.set_cons_zero, List.set_cons_succ]
 refine wpAnyH_take (i := 10) (oi := opF610) (v := undef) rfl (by kernel_rfl) (by kernel_rfl) (by kernel_rfl) (fun _ _ _ h => h) (Or.inr ⟨by rfl, rfl⟩) hHeld ?_
 try simp only [Act.put, List.setIfInBounds_toArray, List.set_cons_zero, List.set_cons_succ]
 refine wpAnyH_take (i := 11) (oi := opF611) (v := .bool true) rfl (by kernel_rfl) (by kernel_rfl) (by kernel_rfl) (fun _ _ _ h => h) (Or.inl ⟨by rfl, by intro w' hSw; (try dsimp only at hSw); go_simp⟩) hHeld ?_
 try simp only [Act.put, List.setIfInBounds_toArray, List.set_cons_zero, List.set_cons_succ]
 refine wpAnyH_take (i := 12) (oi := opF612) (v := .bool true) rfl (by kernel_rfl) (by kernel_rfl) (by kernel_rfl) (fun _ _ _ h => h) (Or.inl ⟨by rfl, by intro w' hSw; (try dsimp only at hSw); go_simp⟩) hHeld ?_
 try simp only [Act.put, List.setIfInBounds_toArray, List.set_cons_zero, List.set_cons_succ]
 refine wpAnyH_done (by kernel_rfl) ?_ _
 have HBe : Hid (Below w0.heap.size w0 w2) := bstep HBx.out hBc
 clear hBc hb2
 go_wp2_with fail
 go_ret
 exact ⟨rfl, bstep HB0.out HBe.out⟩

set_option maxHeartbeats 4000000 in
theorem plOwn_any {g : Img} {q : Nat} {f : Value} {w : World} (hg : Im w g) (hp : Pl g) (hq : q < g.ts.length) :
  Calls Tryz.prog 85 #[imV g, .int .i64 q, .int .i64 0, f] w fun e w' => e = .returned (.slice none 0 0) ∧ Below w.heap.size w w' := by
 obtain ⟨w0, hw0⟩ : ∃ W, W = w.alloc (.cells (imC g) 26) := ⟨_, rfl⟩
 have HW0 : Hid (w0 = _) := hw0
 obtain ⟨hb0, hgb⟩ := GB.made hg hw0
 have HB0 : Hid (Below w.heap.size w w0) := hb0
 have HG : Hid (GB w0 w.heap.size g) := hgb
 have HI : Hid (imB g = true) := hp.im
 have hln := im_len hp.im
 obtain ⟨tb, off, hta, h8, h9, hty⟩ := hgb.ty (by intro e; rw [e] at hq; simp at hq)
 have HTA : Hid (g.ta = some ⟨tb, off, none⟩) := hta
 have HTY : Hid (∀ W, Below w0.heap.size w0 W → ∀ k (hk : k < g.ts.length), W.cell? ⟨tb, off + k * 4, none⟩ = some (.string g.ts[k].nm) ∧ W.cell? ⟨tb, off + k * 4 + 1, none⟩ = some (.int .i64 g.ts[k].fl) ∧ W.cell? ⟨tb, off + k * 4 + 2, none⟩ = some (.int .i64 g.ts[k].ex) ∧ W.cell? ⟨tb, off + k * 4 + 3, none⟩ = some (.slice g.ts[k].fa g.ts[k].fs.length g.ts[k].fc)) := fun W hW k hk => (hty W hW).2 k hk
 have HC4 : Hid (∀ W, Below w0.heap.size w0 W → W.cell? ⟨w.heap.size, 0, none⟩ = some (.slice (some ⟨tb, off, none⟩) g.ts.length g.tc) ∧ W.cell? ⟨w.heap.size, 1, none⟩ = some (.slice g.fa g.fs.length g.fc) ∧ W.cell? ⟨w.heap.size, 2, none⟩ = some (.slice g.ma g.ms.length g.mc) ∧ W.cell? ⟨w.heap.size, 3, none⟩ = some (.int .i64 g.en)) := fun W hW => by
  have := (HG.out.later hW).cells
  rw [HTA.out] at this
  exact this
 have HKd : Hid (∀ W, Below w0.heap.size w0 W → Calls Tryz.prog 16 #[.agg #[.slice (some ⟨tb, off, none⟩) g.ts.length g.tc, .slice g.fa g.fs.length g.fc, .slice g.ma g.ms.length g.mc, .int .i64 g.en], .int .i64 q] W fun e w' => e = .returned (.int .i64 0) ∧ Below W.heap.size W w') := fun W hW => by
  have := kind_any (q : Int) (HG.out.im.later hW) (FlOk.of HI.out)
  rw [hp.knd hq] at this
  unfold imV at this
  rw [HTA.out] at this
  exact this
 obtain ⟨c0, c1, c2, c3⟩ := HC4.out w0 (Below.refl _ _)
 have hqi : (q : Int) < (g.ts.length : Int) := by omega
 unfold maxLen at h9
 unfold imC at HW0
 rw [hta] at HW0
 have HTh : Hid (Calls Tryz.prog 40 #[.agg #[.slice (some ⟨tb, off, none⟩) g.ts.length g.tc, .slice g.fa g.fs.length g.fc, .slice g.ma g.ms.length g.mc, .int .i64 g.en], .int .i64 q] w0 fun e w' => e = .returned (.bool true) ∧ Below w0.heap.size w0 w') := by
  have := isThere_any (q : Int) HG.out.im
  rw [show numB (q : Int) g.ts.length = true by rw [numB_iff]; omega] at this
  unfold imV at this
  rw [HTA.out] at this
  exact this
 clear hw0 hb0 hgb hty hta
 unfold imV
 rw [HTA.out]
 go_enter Tryz.func85, Tryz.ntmps85
 go_wp2_with (rw [← HW0.out])
 refine Calls.mono HTh.out ?_
 rintro e w1 ⟨rfl, hb1⟩
 have HB1 : Hid (Below w.heap.size w w1) := bstep HB0.out hb1
 clear hb1 c0 c1 c2 c3
 go_wp2_with fail
 refine wp_loop_rounds 1 ?_; rw [rounds_succ]
 go_wp2_with fail
 go_ret
 exact ⟨rfl, HB1.out⟩

set_option maxHeartbeats 4000000 in
theorem plFields_any {g : Img} {q : Nat} {w : World} (hg : Im w g) (hp : Pl g) (hq : q < g.ts.length) :
  Calls Tryz.prog 163 #[imV g, .int .i64 q] w fun e w' => e = .returned (.slice none 0 0) ∧ Below w.heap.size w w' := by
 obtain ⟨w0, hw0⟩ : ∃ W, W = w.alloc (.cells (imC g) 26) := ⟨_, rfl⟩
 have HW0 : Hid (w0 = _) := hw0
 obtain ⟨hb0, hgb⟩ := GB.made hg hw0
 have HB0 : Hid (Below w.heap.size w w0) := hb0
 have HG : Hid (GB w0 w.heap.size g) := hgb
 have HI : Hid (imB g = true) := hp.im
 have hln := im_len hp.im
 obtain ⟨tb, off, hta, h8, h9, hty⟩ := hgb.ty (by intro e; rw [e] at hq; simp at hq)
 have HTA : Hid (g.ta = some ⟨tb, off, none⟩) := hta
 have HTY : Hid (∀ W, Below w0.heap.size w0 W → ∀ k (hk : k < g.ts.length), W.cell? ⟨tb, off + k * 4, none⟩ = some (.string g.ts[k].nm) ∧ W.cell? ⟨tb, off + k * 4 + 1, none⟩ = some (.int .i64 g.ts[k].fl) ∧ W.cell? ⟨tb, off + k * 4 + 2, none⟩ = some (.int .i64 g.ts[k].ex) ∧ W.cell? ⟨tb, off + k * 4 + 3, none⟩ = some (.slice g.ts[k].fa g.ts[k].fs.length g.ts[k].fc)) := fun W hW k hk => (hty W hW).2 k hk
 have HC4 : Hid (∀ W, Below w0.heap.size w0 W → W.cell? ⟨w.heap.size, 0, none⟩ = some (.slice (some ⟨tb, off, none⟩) g.ts.length g.tc) ∧ W.cell? ⟨w.heap.size, 1, none⟩ = some (.slice g.fa g.fs.length g.fc) ∧ W.cell? ⟨w.heap.size, 2, none⟩ = some (.slice g.ma g.ms.length g.mc) ∧ W.cell? ⟨w.heap.size, 3, none⟩ = some (.int .i64 g.en)) := fun W hW => by
  have := (HG.out.later hW).cells
  rw [HTA.out] at this
  exact this
 have HKd : Hid (∀ W, Below w0.heap.size w0 W → Calls Tryz.prog 16 #[.agg #[.slice (some ⟨tb, off, none⟩) g.ts.length g.tc, .slice g.fa g.fs.length g.fc, .slice g.ma g.ms.length g.mc, .int .i64 g.en], .int .i64 q] W fun e w' => e = .returned (.int .i64 0) ∧ Below W.heap.size W w') := fun W hW => by
  have := kind_any (q : Int) (HG.out.im.later hW) (FlOk.of HI.out)
  rw [hp.knd hq] at this
  unfold imV at this
  rw [HTA.out] at this
  exact this
 obtain ⟨c0, c1, c2, c3⟩ := HC4.out w0 (Below.refl _ _)
 have hqi : (q : Int) < (g.ts.length : Int) := by omega
 unfold maxLen at h9
 unfold imC at HW0
 rw [hta] at HW0
 have HOw : Hid (∀ f, Calls Tryz.prog 85 #[.agg #[.slice (some ⟨tb, off, none⟩) g.ts.length g.tc, .slice g.fa g.fs.length g.fc, .slice g.ma g.ms.length g.mc, .int .i64 g.en], .int .i64 q, .int .i64 (g.fs.length : Int), f] w0 fun e w' => e = .returned (.slice none 0 0) ∧ Below w0.heap.size w0 w') := fun f => by
  have := plOwn_any (f := f) HG.out.im hp hq
  unfold imV at this
  rw [HTA.out] at this
  rw [show ((g.fs.length : Nat) : Int) = 0 by rw [hp.fs]; rfl]
  exact this
 clear hw0 hb0 hgb hty hta
 unfold imV
 rw [HTA.out]
 go_enter Tryz.func163, Tryz.ntmps163
 go_wp2_with (rw [← HW0.out])
 refine Calls.mono (HOw.out _) ?_
 rintro e w1 ⟨rfl, hb1⟩
 have HB1 : Hid (Below w.heap.size w w1) := bstep HB0.out hb1
 clear hb1 c0 c1 c2 c3
 go_wp2_with fail
 go_ret
 exact ⟨rfl, HB1.out⟩

set_option maxHeartbeats 4000000 in
theorem plMethods_any {g : Img} {q : Nat} {w : World} (hg : Im w g) (hp : Pl g) (hq : q < g.ts.length) :
  Calls Tryz.prog 47 #[imV g, .int .i64 q] w fun e w' => e = .returned (.slice none 0 0) ∧ Below w.heap.size w w' := by
 obtain ⟨w0, hw0⟩ : ∃ W, W = w.alloc (.cells (imC g) 26) := ⟨_, rfl⟩
 have HW0 : Hid (w0 = _) := hw0
 obtain ⟨hb0, hgb⟩ := GB.made hg hw0
 have HB0 : Hid (Below w.heap.size w w0) := hb0
 have HG : Hid (GB w0 w.heap.size g) := hgb
 have HI : Hid (imB g = true) := hp.im
 have hln := im_len hp.im
 obtain ⟨tb, off, hta, h8, h9, hty⟩ := hgb.ty (by intro e; rw [e] at hq; simp at hq)
 have HTA : Hid (g.ta = some ⟨tb, off, none⟩) := hta
 have HTY : Hid (∀ W, Below w0.heap.size w0 W → ∀ k (hk : k < g.ts.length), W.cell? ⟨tb, off + k * 4, none⟩ = some (.string g.ts[k].nm) ∧ W.cell? ⟨tb, off + k * 4 + 1, none⟩ = some (.int .i64 g.ts[k].fl) ∧ W.cell? ⟨tb, off + k * 4 + 2, none⟩ = some (.int .i64 g.ts[k].ex) ∧ W.cell? ⟨tb, off + k * 4 + 3, none⟩ = some (.slice g.ts[k].fa g.ts[k].fs.length g.ts[k].fc)) := fun W hW k hk => (hty W hW).2 k hk
 have HC4 : Hid (∀ W, Below w0.heap.size w0 W → W.cell? ⟨w.heap.size, 0, none⟩ = some (.slice (some ⟨tb, off, none⟩) g.ts.length g.tc) ∧ W.cell? ⟨w.heap.size, 1, none⟩ = some (.slice g.fa g.fs.length g.fc) ∧ W.cell? ⟨w.heap.size, 2, none⟩ = some (.slice g.ma g.ms.length g.mc) ∧ W.cell? ⟨w.heap.size, 3, none⟩ = some (.int .i64 g.en)) := fun W hW => by
  have := (HG.out.later hW).cells
  rw [HTA.out] at this
  exact this
 have HKd : Hid (∀ W, Below w0.heap.size w0 W → Calls Tryz.prog 16 #[.agg #[.slice (some ⟨tb, off, none⟩) g.ts.length g.tc, .slice g.fa g.fs.length g.fc, .slice g.ma g.ms.length g.mc, .int .i64 g.en], .int .i64 q] W fun e w' => e = .returned (.int .i64 0) ∧ Below W.heap.size W w') := fun W hW => by
  have := kind_any (q : Int) (HG.out.im.later hW) (FlOk.of HI.out)
  rw [hp.knd hq] at this
  unfold imV at this
  rw [HTA.out] at this
  exact this
 obtain ⟨c0, c1, c2, c3⟩ := HC4.out w0 (Below.refl _ _)
 have hqi : (q : Int) < (g.ts.length : Int) := by omega
 unfold maxLen at h9
 unfold imC at HW0
 rw [hta] at HW0
 have HOw : Hid (∀ f, Calls Tryz.prog 85 #[.agg #[.slice (some ⟨tb, off, none⟩) g.ts.length g.tc, .slice g.fa g.fs.length g.fc, .slice g.ma g.ms.length g.mc, .int .i64 g.en], .int .i64 q, .int .i64 (g.ms.length : Int), f] w0 fun e w' => e = .returned (.slice none 0 0) ∧ Below w0.heap.size w0 w') := fun f => by
  have := plOwn_any (f := f) HG.out.im hp hq
  unfold imV at this
  rw [HTA.out] at this
  rw [show ((g.ms.length : Nat) : Int) = 0 by rw [hp.ms]; rfl]
  exact this
 clear hw0 hb0 hgb hty hta
 unfold imV
 rw [HTA.out]
 go_enter Tryz.func47, Tryz.ntmps47
 go_wp2_with (rw [← HW0.out])
 refine Calls.mono (HOw.out _) ?_
 rintro e w1 ⟨rfl, hb1⟩
 have HB1 : Hid (Below w.heap.size w w1) := bstep HB0.out hb1
 clear hb1 c0 c1 c2 c3
 go_wp2_with fail
 go_ret
 exact ⟨rfl, HB1.out⟩

/-- No other type has a type's name. -/
def NmOk (g : Img) : Prop := ∀ i (hi : i < g.ts.length) j (hj : j < g.ts.length), i ≠ j → g.ts[i].nm ≠ g.ts[j].nm

set_option maxHeartbeats 4000000 in
theorem plNamed_any {g : Img} {q : Nat} {w : World} (hg : Im w g) (hp : Pl g) (hn : NmOk g) (hq : q < g.ts.length) :
  Calls Tryz.prog 111 #[imV g, .int .i64 q] w fun e w' => e = .returned (.bool true) ∧ Below w.heap.size w w' := by
 obtain ⟨w0, hw0⟩ : ∃ W, W = w.alloc (.cells (imC g) 26) := ⟨_, rfl⟩
 have HW0 : Hid (w0 = _) := hw0
 obtain ⟨hb0, hgb⟩ := GB.made hg hw0
 have HB0 : Hid (Below w.heap.size w w0) := hb0
 have HG : Hid (GB w0 w.heap.size g) := hgb
 have HI : Hid (imB g = true) := hp.im
 have hln := im_len hp.im
 obtain ⟨tb, off, hta, h8, h9, hty⟩ := hgb.ty (by intro e; rw [e] at hq; simp at hq)
 have HTA : Hid (g.ta = some ⟨tb, off, none⟩) := hta
 have HTY : Hid (∀ W, Below w0.heap.size w0 W → ∀ k (hk : k < g.ts.length), W.cell? ⟨tb, off + k * 4, none⟩ = some (.string g.ts[k].nm) ∧ W.cell? ⟨tb, off + k * 4 + 1, none⟩ = some (.int .i64 g.ts[k].fl) ∧ W.cell? ⟨tb, off + k * 4 + 2, none⟩ = some (.int .i64 g.ts[k].ex) ∧ W.cell? ⟨tb, off + k * 4 + 3, none⟩ = some (.slice g.ts[k].fa g.ts[k].fs.length g.ts[k].fc)) := fun W hW k hk => (hty W hW).2 k hk
 have HC4 : Hid (∀ W, Below w0.heap.size w0 W → W.cell? ⟨w.heap.size, 0, none⟩ = some (.slice (some ⟨tb, off, none⟩) g.ts.length g.tc) ∧ W.cell? ⟨w.heap.size, 1, none⟩ = some (.slice g.fa g.fs.length g.fc) ∧ W.cell? ⟨w.heap.size, 2, none⟩ = some (.slice g.ma g.ms.length g.mc) ∧ W.cell? ⟨w.heap.size, 3, none⟩ = some (.int .i64 g.en)) := fun W hW => by
  have := (HG.out.later hW).cells
  rw [HTA.out] at this
  exact this
 have HKd : Hid (∀ W, Below w0.heap.size w0 W → Calls Tryz.prog 16 #[.agg #[.slice (some ⟨tb, off, none⟩) g.ts.length g.tc, .slice g.fa g.fs.length g.fc, .slice g.ma g.ms.length g.mc, .int .i64 g.en], .int .i64 q] W fun e w' => e = .returned (.int .i64 0) ∧ Below W.heap.size W w') := fun W hW => by
  have := kind_any (q : Int) (HG.out.im.later hW) (FlOk.of HI.out)
  rw [hp.knd hq] at this
  unfold imV at this
  rw [HTA.out] at this
  exact this
 obtain ⟨c0, c1, c2, c3⟩ := HC4.out w0 (Below.refl _ _)
 have hqi : (q : Int) < (g.ts.length : Int) := by omega
 unfold maxLen at h9
 unfold imC at HW0
 rw [hta] at HW0
 have HFields : Hid (∀ W, Below w0.heap.size w0 W → Calls Tryz.prog 163 #[.agg #[.slice (some ⟨tb, off, none⟩) g.ts.length g.tc, .slice g.fa g.fs.length g.fc, .slice g.ma g.ms.length g.mc, .int .i64 g.en], .int .i64 q] W fun e w' => e = .returned (.slice none 0 0) ∧ Below W.heap.size W w') := fun W hW => by
  have := plFields_any (HG.out.im.later hW) hp hq
  unfold imV at this
  rw [HTA.out] at this
  exact this
 have HMethods : Hid (∀ W, Below w0.heap.size w0 W → Calls Tryz.prog 47 #[.agg #[.slice (some ⟨tb, off, none⟩) g.ts.length g.tc, .slice g.fa g.fs.length g.fc, .slice g.ma g.ms.length g.mc, .int .i64 g.en], .int .i64 q] W fun e w' => e = .returned (.slice none 0 0) ∧ Below W.heap.size W w') := fun W hW => by
  have := plMethods_any (HG.out.im.later hW) hp hq
  unfold imV at this
  rw [HTA.out] at this
  exact this
 have HNm : Hid (∀ k (hk : k < g.ts.length), k ≠ q → g.ts[k].nm ≠ g.ts[q].nm) := fun k hk hne => hn k hk q hq hne
 obtain ⟨k0, _, _, _⟩ := HTY.out w0 (Below.refl _ _) q hq
 clear hw0 hb0 hgb hty hta
 unfold imV
 rw [HTA.out]
 go_enter Tryz.func111, Tryz.ntmps111
 go_wp2_with (rw [← HW0.out])
 clear c0 c1 c2 c3 k0
 go_loopw [6, 7, 17] (fun _ _ z wr => ∃ k : Nat, k ≤ g.ts.length ∧ z = .int .i64 k ∧ Hid (Below w0.heap.size w0 wr)) (fun _ _ z _ => g.ts.length - (intOf z).toNat)
 case atStart => exact ⟨0, Nat.zero_le _, rfl, Below.refl _ _⟩
 case round =>
  obtain ⟨k, hk, rfl, HB⟩ := hrel
  by_cases hkl : k < g.ts.length
  ·have hki : (k : Int) < (g.ts.length : Int) := by omega
   obtain ⟨c0, c1, c2, c3⟩ := HC4.out wr HB.out
   obtain ⟨k0, k1, k2, k3⟩ := HTY.out wr HB.out k hkl
   have hstr := str_eq g.ts[k].nm g.ts[q].nm
   by_cases hkq : k = q
   ·have hne : ((k : Int) != (q : Int)) = false := by simp; omega
    clear hkq hstr
    generalize g.ts[k] = x at *
    go_wp2_with fail
    go_roundw
    case rel => exact ⟨k + 1, by omega, by go_num, bbox HB.out _⟩
    case measure => simp [intOf]; omega
   ·have hne : ((k : Int) != (q : Int)) = true := by simp; omega
    have hnm := HNm.out k hkl hkq
    rw [decide_eq_false (fun h => hnm (by cases hx : g.ts[k].nm; cases hy : g.ts[q].nm; rw [hx, hy] at h; simp only [ByteArray.mk.injEq]; exact Array.toList_inj.1 h))] at hstr
    clear hkq hnm
    generalize g.ts[q].nm = n2 at *
    generalize g.ts[k] = x at *
    go_wp2_with fail
    go_roundw
    case rel => exact ⟨k + 1, by omega, by go_num, bbox HB.out _⟩
    case measure => simp [intOf]; omega
  ·have hki : ¬ (k : Int) < (g.ts.length : Int) := by omega
   obtain ⟨c0, c1, c2, c3⟩ := HC4.out wr HB.out
   go_wp2_with fail
   refine Calls.mono (HFields.out wr HB.out) ?_
   rintro e w2 ⟨rfl, hb2⟩
   have HB2 : Hid (Below w0.heap.size w0 w2) := bstep HB.out hb2
   clear hb2 c0 c1 c2 c3
   go_wp2_with fail
   refine (differ_none _ _ _ _ _ _).mono ?_
   rintro e w3 ⟨rfl, hb3⟩
   have HB3 : Hid (Below w0.heap.size w0 w3) := bstep HB2.out hb3
   clear hb3
   obtain ⟨c0, c1, c2, c3⟩ := HC4.out w3 HB3.out
   go_wp2_with fail
   refine Calls.mono (HMethods.out w3 HB3.out) ?_
   rintro e w4 ⟨rfl, hb4⟩
   have HB4 : Hid (Below w0.heap.size w0 w4) := bstep HB3.out hb4
   clear hb4 c0 c1 c2 c3
   go_wp2_with fail
   refine (differ_none _ _ _ _ _ _).mono ?_
   rintro e w5 ⟨rfl, hb5⟩
   have HB5 : Hid (Below w0.heap.size w0 w5) := bstep HB4.out hb5
   clear hb5
   go_wp2_with fail
   go_ret
   exact ⟨rfl, bstep HB0.out HB5.out⟩

set_option maxHeartbeats 4000000 in
theorem plHolds_any {g : Img} {q : Nat} {w : World} (hg : Im w g) (hp : Pl g) (hq : q < g.ts.length) :
  Calls Tryz.prog 112 #[imV g, .int .i64 q] w fun e w' => e = .returned (.bool true) ∧ Below w.heap.size w w' := by
 obtain ⟨w0, hw0⟩ : ∃ W, W = w.alloc (.cells (imC g) 26) := ⟨_, rfl⟩
 have HW0 : Hid (w0 = _) := hw0
 obtain ⟨hb0, hgb⟩ := GB.made hg hw0
 have HB0 : Hid (Below w.heap.size w w0) := hb0
 have HG : Hid (GB w0 w.heap.size g) := hgb
 have HI : Hid (imB g = true) := hp.im
 have hln := im_len hp.im
 obtain ⟨tb, off, hta, h8, h9, hty⟩ := hgb.ty (by intro e; rw [e] at hq; simp at hq)
 have HTA : Hid (g.ta = some ⟨tb, off, none⟩) := hta
 have HTY : Hid (∀ W, Below w0.heap.size w0 W → ∀ k (hk : k < g.ts.length), W.cell? ⟨tb, off + k * 4, none⟩ = some (.string g.ts[k].nm) ∧ W.cell? ⟨tb, off + k * 4 + 1, none⟩ = some (.int .i64 g.ts[k].fl) ∧ W.cell? ⟨tb, off + k * 4 + 2, none⟩ = some (.int .i64 g.ts[k].ex) ∧ W.cell? ⟨tb, off + k * 4 + 3, none⟩ = some (.slice g.ts[k].fa g.ts[k].fs.length g.ts[k].fc)) := fun W hW k hk => (hty W hW).2 k hk
 have HC4 : Hid (∀ W, Below w0.heap.size w0 W → W.cell? ⟨w.heap.size, 0, none⟩ = some (.slice (some ⟨tb, off, none⟩) g.ts.length g.tc) ∧ W.cell? ⟨w.heap.size, 1, none⟩ = some (.slice g.fa g.fs.length g.fc) ∧ W.cell? ⟨w.heap.size, 2, none⟩ = some (.slice g.ma g.ms.length g.mc) ∧ W.cell? ⟨w.heap.size, 3, none⟩ = some (.int .i64 g.en)) := fun W hW => by
  have := (HG.out.later hW).cells
  rw [HTA.out] at this
  exact this
 have HKd : Hid (∀ W, Below w0.heap.size w0 W → Calls Tryz.prog 16 #[.agg #[.slice (some ⟨tb, off, none⟩) g.ts.length g.tc, .slice g.fa g.fs.length g.fc, .slice g.ma g.ms.length g.mc, .int .i64 g.en], .int .i64 q] W fun e w' => e = .returned (.int .i64 0) ∧ Below W.heap.size W w') := fun W hW => by
  have := kind_any (q : Int) (HG.out.im.later hW) (FlOk.of HI.out)
  rw [hp.knd hq] at this
  unfold imV at this
  rw [HTA.out] at this
  exact this
 obtain ⟨c0, c1, c2, c3⟩ := HC4.out w0 (Below.refl _ _)
 have hqi : (q : Int) < (g.ts.length : Int) := by omega
 unfold maxLen at h9
 unfold imC at HW0
 rw [hta] at HW0
 have HFields : Hid (∀ W, Below w0.heap.size w0 W → Calls Tryz.prog 163 #[.agg #[.slice (some ⟨tb, off, none⟩) g.ts.length g.tc, .slice g.fa g.fs.length g.fc, .slice g.ma g.ms.length g.mc, .int .i64 g.en], .int .i64 q] W fun e w' => e = .returned (.slice none 0 0) ∧ Below W.heap.size W w') := fun W hW => by
  have := plFields_any (HG.out.im.later hW) hp hq
  unfold imV at this
  rw [HTA.out] at this
  exact this
 clear hw0 hb0 hgb hty hta
 unfold imV
 rw [HTA.out]
 go_enter Tryz.func112, Tryz.ntmps112
 go_wp2_with (rw [← HW0.out])
 refine Calls.mono (HFields.out w0 (Below.refl _ _)) ?_
 rintro e w1 ⟨rfl, hb1⟩
 have HB1 : Hid (Below w0.heap.size w0 w1) := hb1
 clear hb1 c0 c1 c2 c3
 obtain ⟨c0, c1, c2, c3⟩ := HC4.out w1 HB1.out
 go_wp2_with fail
 refine Calls.mono (HKd.out w1 HB1.out) ?_
 rintro e w2 ⟨rfl, hb2⟩
 have HB2 : Hid (Below w0.heap.size w0 w2) := bstep HB1.out hb2
 clear hb2 c0 c1 c2 c3
 go_wp2_with fail
 go_ret
 exact ⟨rfl, bstep HB0.out HB2.out⟩

set_option maxHeartbeats 4000000 in
theorem plWrong_bad {g : Img} {q : Nat} {w : World} (hg : Im w g) (hp : Pl g) (hx : extB g (q : Int) = false) (hq : q < g.ts.length) :
  Calls Tryz.prog 63 #[imV g, .int .i64 q] w fun e w' => e = .returned (.int .i64 7) ∧ Below w.heap.size w w' := by
 obtain ⟨w0, hw0⟩ : ∃ W, W = w.alloc (.cells (imC g) 26) := ⟨_, rfl⟩
 have HW0 : Hid (w0 = _) := hw0
 obtain ⟨hb0, hgb⟩ := GB.made hg hw0
 have HB0 : Hid (Below w.heap.size w w0) := hb0
 have HG : Hid (GB w0 w.heap.size g) := hgb
 have HI : Hid (imB g = true) := hp.im
 have hln := im_len hp.im
 obtain ⟨tb, off, hta, h8, h9, hty⟩ := hgb.ty (by intro e; rw [e] at hq; simp at hq)
 have HTA : Hid (g.ta = some ⟨tb, off, none⟩) := hta
 have HTY : Hid (∀ W, Below w0.heap.size w0 W → ∀ k (hk : k < g.ts.length), W.cell? ⟨tb, off + k * 4, none⟩ = some (.string g.ts[k].nm) ∧ W.cell? ⟨tb, off + k * 4 + 1, none⟩ = some (.int .i64 g.ts[k].fl) ∧ W.cell? ⟨tb, off + k * 4 + 2, none⟩ = some (.int .i64 g.ts[k].ex) ∧ W.cell? ⟨tb, off + k * 4 + 3, none⟩ = some (.slice g.ts[k].fa g.ts[k].fs.length g.ts[k].fc)) := fun W hW k hk => (hty W hW).2 k hk
 have HC4 : Hid (∀ W, Below w0.heap.size w0 W → W.cell? ⟨w.heap.size, 0, none⟩ = some (.slice (some ⟨tb, off, none⟩) g.ts.length g.tc) ∧ W.cell? ⟨w.heap.size, 1, none⟩ = some (.slice g.fa g.fs.length g.fc) ∧ W.cell? ⟨w.heap.size, 2, none⟩ = some (.slice g.ma g.ms.length g.mc) ∧ W.cell? ⟨w.heap.size, 3, none⟩ = some (.int .i64 g.en)) := fun W hW => by
  have := (HG.out.later hW).cells
  rw [HTA.out] at this
  exact this
 have HKd : Hid (∀ W, Below w0.heap.size w0 W → Calls Tryz.prog 16 #[.agg #[.slice (some ⟨tb, off, none⟩) g.ts.length g.tc, .slice g.fa g.fs.length g.fc, .slice g.ma g.ms.length g.mc, .int .i64 g.en], .int .i64 q] W fun e w' => e = .returned (.int .i64 0) ∧ Below W.heap.size W w') := fun W hW => by
  have := kind_any (q : Int) (HG.out.im.later hW) (FlOk.of HI.out)
  rw [hp.knd hq] at this
  unfold imV at this
  rw [HTA.out] at this
  exact this
 obtain ⟨c0, c1, c2, c3⟩ := HC4.out w0 (Below.refl _ _)
 have hqi : (q : Int) < (g.ts.length : Int) := by omega
 unfold maxLen at h9
 unfold imC at HW0
 rw [hta] at HW0
 have HisOfItsKind : Hid (∀ W, Below w0.heap.size w0 W → Calls Tryz.prog 108 #[.agg #[.slice (some ⟨tb, off, none⟩) g.ts.length g.tc, .slice g.fa g.fs.length g.fc, .slice g.ma g.ms.length g.mc, .int .i64 g.en], .int .i64 q] W fun e w' => e = .returned (.bool true) ∧ Below W.heap.size W w') := fun W hW => by
  have := plKind_any (HG.out.im.later hW) hp hq
  unfold imV at this
  rw [HTA.out] at this
  exact this
 have HextendsWell : Hid (∀ W, Below w0.heap.size w0 W → Calls Tryz.prog 109 #[.agg #[.slice (some ⟨tb, off, none⟩) g.ts.length g.tc, .slice g.fa g.fs.length g.fc, .slice g.ma g.ms.length g.mc, .int .i64 g.en], .int .i64 q] W fun e w' => e = .returned (.bool (extB g (q : Int))) ∧ Below W.heap.size W w') := fun W hW => by
  have := plExt_any (HG.out.im.later hW) hp hq
  unfold imV at this
  rw [HTA.out] at this
  exact this
 rw [hx] at HextendsWell
 clear hw0 hb0 hgb hty hta
 unfold imV
 rw [HTA.out]
 go_enter Tryz.func63, Tryz.ntmps63
 go_wp2_with (rw [← HW0.out])
 refine Calls.mono (HisOfItsKind.out w0 (Below.refl _ _)) ?_
 rintro e w1 ⟨rfl, hb1⟩
 have HBw1 : Hid (Below w0.heap.size w0 w1) := hb1
 clear hb1 c0 c1 c2 c3
 obtain ⟨c0, c1, c2, c3⟩ := HC4.out w1 HBw1.out
 go_wp2_with fail
 refine Calls.mono (HextendsWell.out w1 HBw1.out) ?_
 rintro e w2 ⟨rfl, hb2⟩
 have HBw2 : Hid (Below w0.heap.size w0 w2) := bstep HBw1.out hb2
 clear hb2 c0 c1 c2 c3
 go_wp2_with fail
 go_ret
 exact ⟨rfl, bstep HB0.out HBw2.out⟩

set_option maxHeartbeats 4000000 in
theorem plWrong_ok {g : Img} {q : Nat} {w : World} (hg : Im w g) (hp : Pl g) (hn : NmOk g) (hx : extB g (q : Int) = true) (hq : q < g.ts.length) :
  Calls Tryz.prog 63 #[imV g, .int .i64 q] w fun e w' => e = .returned (.int .i64 0) ∧ Below w.heap.size w w' := by
 obtain ⟨w0, hw0⟩ : ∃ W, W = w.alloc (.cells (imC g) 26) := ⟨_, rfl⟩
 have HW0 : Hid (w0 = _) := hw0
 obtain ⟨hb0, hgb⟩ := GB.made hg hw0
 have HB0 : Hid (Below w.heap.size w w0) := hb0
 have HG : Hid (GB w0 w.heap.size g) := hgb
 have HI : Hid (imB g = true) := hp.im
 have hln := im_len hp.im
 obtain ⟨tb, off, hta, h8, h9, hty⟩ := hgb.ty (by intro e; rw [e] at hq; simp at hq)
 have HTA : Hid (g.ta = some ⟨tb, off, none⟩) := hta
 have HTY : Hid (∀ W, Below w0.heap.size w0 W → ∀ k (hk : k < g.ts.length), W.cell? ⟨tb, off + k * 4, none⟩ = some (.string g.ts[k].nm) ∧ W.cell? ⟨tb, off + k * 4 + 1, none⟩ = some (.int .i64 g.ts[k].fl) ∧ W.cell? ⟨tb, off + k * 4 + 2, none⟩ = some (.int .i64 g.ts[k].ex) ∧ W.cell? ⟨tb, off + k * 4 + 3, none⟩ = some (.slice g.ts[k].fa g.ts[k].fs.length g.ts[k].fc)) := fun W hW k hk => (hty W hW).2 k hk
 have HC4 : Hid (∀ W, Below w0.heap.size w0 W → W.cell? ⟨w.heap.size, 0, none⟩ = some (.slice (some ⟨tb, off, none⟩) g.ts.length g.tc) ∧ W.cell? ⟨w.heap.size, 1, none⟩ = some (.slice g.fa g.fs.length g.fc) ∧ W.cell? ⟨w.heap.size, 2, none⟩ = some (.slice g.ma g.ms.length g.mc) ∧ W.cell? ⟨w.heap.size, 3, none⟩ = some (.int .i64 g.en)) := fun W hW => by
  have := (HG.out.later hW).cells
  rw [HTA.out] at this
  exact this
 have HKd : Hid (∀ W, Below w0.heap.size w0 W → Calls Tryz.prog 16 #[.agg #[.slice (some ⟨tb, off, none⟩) g.ts.length g.tc, .slice g.fa g.fs.length g.fc, .slice g.ma g.ms.length g.mc, .int .i64 g.en], .int .i64 q] W fun e w' => e = .returned (.int .i64 0) ∧ Below W.heap.size W w') := fun W hW => by
  have := kind_any (q : Int) (HG.out.im.later hW) (FlOk.of HI.out)
  rw [hp.knd hq] at this
  unfold imV at this
  rw [HTA.out] at this
  exact this
 obtain ⟨c0, c1, c2, c3⟩ := HC4.out w0 (Below.refl _ _)
 have hqi : (q : Int) < (g.ts.length : Int) := by omega
 unfold maxLen at h9
 unfold imC at HW0
 rw [hta] at HW0
 have HisOfItsKind : Hid (∀ W, Below w0.heap.size w0 W → Calls Tryz.prog 108 #[.agg #[.slice (some ⟨tb, off, none⟩) g.ts.length g.tc, .slice g.fa g.fs.length g.fc, .slice g.ma g.ms.length g.mc, .int .i64 g.en], .int .i64 q] W fun e w' => e = .returned (.bool true) ∧ Below W.heap.size W w') := fun W hW => by
  have := plKind_any (HG.out.im.later hW) hp hq
  unfold imV at this
  rw [HTA.out] at this
  exact this
 have HextendsWell : Hid (∀ W, Below w0.heap.size w0 W → Calls Tryz.prog 109 #[.agg #[.slice (some ⟨tb, off, none⟩) g.ts.length g.tc, .slice g.fa g.fs.length g.fc, .slice g.ma g.ms.length g.mc, .int .i64 g.en], .int .i64 q] W fun e w' => e = .returned (.bool (extB g (q : Int))) ∧ Below W.heap.size W w') := fun W hW => by
  have := plExt_any (HG.out.im.later hW) hp hq
  unfold imV at this
  rw [HTA.out] at this
  exact this
 rw [hx] at HextendsWell
 have HhasFacesWell : Hid (∀ W, Below w0.heap.size w0 W → Calls Tryz.prog 110 #[.agg #[.slice (some ⟨tb, off, none⟩) g.ts.length g.tc, .slice g.fa g.fs.length g.fc, .slice g.ma g.ms.length g.mc, .int .i64 g.en], .int .i64 q] W fun e w' => e = .returned (.bool true) ∧ Below W.heap.size W w') := fun W hW => by
  have := plFac_any (HG.out.im.later hW) hp hq
  unfold imV at this
  rw [HTA.out] at this
  exact this
 have HisNamedWell : Hid (∀ W, Below w0.heap.size w0 W → Calls Tryz.prog 111 #[.agg #[.slice (some ⟨tb, off, none⟩) g.ts.length g.tc, .slice g.fa g.fs.length g.fc, .slice g.ma g.ms.length g.mc, .int .i64 g.en], .int .i64 q] W fun e w' => e = .returned (.bool true) ∧ Below W.heap.size W w') := fun W hW => by
  have := plNamed_any (HG.out.im.later hW) hp hn hq
  unfold imV at this
  rw [HTA.out] at this
  exact this
 have HholdsWell : Hid (∀ W, Below w0.heap.size w0 W → Calls Tryz.prog 112 #[.agg #[.slice (some ⟨tb, off, none⟩) g.ts.length g.tc, .slice g.fa g.fs.length g.fc, .slice g.ma g.ms.length g.mc, .int .i64 g.en], .int .i64 q] W fun e w' => e = .returned (.bool true) ∧ Below W.heap.size W w') := fun W hW => by
  have := plHolds_any (HG.out.im.later hW) hp hq
  unfold imV at this
  rw [HTA.out] at this
  exact this
 clear hw0 hb0 hgb hty hta
 unfold imV
 rw [HTA.out]
 go_enter Tryz.func63, Tryz.ntmps63
 go_wp2_with (rw [← HW0.out])
 refine Calls.mono (HisOfItsKind.out w0 (Below.refl _ _)) ?_
 rintro e w1 ⟨rfl, hb1⟩
 have HBw1 : Hid (Below w0.heap.size w0 w1) := hb1
 clear hb1 c0 c1 c2 c3
 obtain ⟨c0, c1, c2, c3⟩ := HC4.out w1 HBw1.out
 go_wp2_with fail
 refine Calls.mono (HextendsWell.out w1 HBw1.out) ?_
 rintro e w2 ⟨rfl, hb2⟩
 have HBw2 : Hid (Below w0.heap.size w0 w2) := bstep HBw1.out hb2
 clear hb2 c0 c1 c2 c3
 obtain ⟨c0, c1, c2, c3⟩ := HC4.out w2 HBw2.out
 go_wp2_with fail
 refine Calls.mono (HhasFacesWell.out w2 HBw2.out) ?_
 rintro e w3 ⟨rfl, hb3⟩
 have HBw3 : Hid (Below w0.heap.size w0 w3) := bstep HBw2.out hb3
 clear hb3 c0 c1 c2 c3
 obtain ⟨c0, c1, c2, c3⟩ := HC4.out w3 HBw3.out
 go_wp2_with fail
 refine Calls.mono (HisNamedWell.out w3 HBw3.out) ?_
 rintro e w4 ⟨rfl, hb4⟩
 have HBw4 : Hid (Below w0.heap.size w0 w4) := bstep HBw3.out hb4
 clear hb4 c0 c1 c2 c3
 obtain ⟨c0, c1, c2, c3⟩ := HC4.out w4 HBw4.out
 go_wp2_with fail
 refine Calls.mono (HholdsWell.out w4 HBw4.out) ?_
 rintro e w5 ⟨rfl, hb5⟩
 have HBw5 : Hid (Below w0.heap.size w0 w5) := bstep HBw4.out hb5
 clear hb5 c0 c1 c2 c3
 go_wp2_with fail
 go_ret
 exact ⟨rfl, bstep HB0.out HBw5.out⟩

set_option maxHeartbeats 4000000 in
theorem plCheck_bad {g : Img} {w : World} (hg : Im w g) (hp : Pl g) (hx : extB g 0 = false) (hq0 : 0 < g.ts.length) :
  Calls Tryz.prog 31 #[imV g] w fun e w' => e = .returned (.tuple #[.int .i64 0, .int .i64 7]) ∧ Below w.heap.size w w' := by
 obtain ⟨q, hqq⟩ : ∃ q : Nat, q = 0 := ⟨0, rfl⟩
 have hq : q < g.ts.length := by omega
 have HQ : Hid (q = 0) := hqq
 obtain ⟨w0, hw0⟩ : ∃ W, W = w.alloc (.cells (imC g) 26) := ⟨_, rfl⟩
 have HW0 : Hid (w0 = _) := hw0
 obtain ⟨hb0, hgb⟩ := GB.made hg hw0
 have HB0 : Hid (Below w.heap.size w w0) := hb0
 have HG : Hid (GB w0 w.heap.size g) := hgb
 have HI : Hid (imB g = true) := hp.im
 have hln := im_len hp.im
 obtain ⟨tb, off, hta, h8, h9, hty⟩ := hgb.ty (by intro e; rw [e] at hq; simp at hq)
 have HTA : Hid (g.ta = some ⟨tb, off, none⟩) := hta
 have HTY : Hid (∀ W, Below w0.heap.size w0 W → ∀ k (hk : k < g.ts.length), W.cell? ⟨tb, off + k * 4, none⟩ = some (.string g.ts[k].nm) ∧ W.cell? ⟨tb, off + k * 4 + 1, none⟩ = some (.int .i64 g.ts[k].fl) ∧ W.cell? ⟨tb, off + k * 4 + 2, none⟩ = some (.int .i64 g.ts[k].ex) ∧ W.cell? ⟨tb, off + k * 4 + 3, none⟩ = some (.slice g.ts[k].fa g.ts[k].fs.length g.ts[k].fc)) := fun W hW k hk => (hty W hW).2 k hk
 have HC4 : Hid (∀ W, Below w0.heap.size w0 W → W.cell? ⟨w.heap.size, 0, none⟩ = some (.slice (some ⟨tb, off, none⟩) g.ts.length g.tc) ∧ W.cell? ⟨w.heap.size, 1, none⟩ = some (.slice g.fa g.fs.length g.fc) ∧ W.cell? ⟨w.heap.size, 2, none⟩ = some (.slice g.ma g.ms.length g.mc) ∧ W.cell? ⟨w.heap.size, 3, none⟩ = some (.int .i64 g.en)) := fun W hW => by
  have := (HG.out.later hW).cells
  rw [HTA.out] at this
  exact this
 have HKd : Hid (∀ W, Below w0.heap.size w0 W → Calls Tryz.prog 16 #[.agg #[.slice (some ⟨tb, off, none⟩) g.ts.length g.tc, .slice g.fa g.fs.length g.fc, .slice g.ma g.ms.length g.mc, .int .i64 g.en], .int .i64 q] W fun e w' => e = .returned (.int .i64 0) ∧ Below W.heap.size W w') := fun W hW => by
  have := kind_any (q : Int) (HG.out.im.later hW) (FlOk.of HI.out)
  rw [hp.knd hq] at this
  unfold imV at this
  rw [HTA.out] at this
  exact this
 obtain ⟨c0, c1, c2, c3⟩ := HC4.out w0 (Below.refl _ _)
 have hqi : (q : Int) < (g.ts.length : Int) := by omega
 unfold maxLen at h9
 unfold imC at HW0
 rw [hta] at HW0
 have HFm : Hid (Calls Tryz.prog 62 #[.agg #[.slice (some ⟨tb, off, none⟩) g.ts.length g.tc, .slice g.fa g.fs.length g.fc, .slice g.ma g.ms.length g.mc, .int .i64 g.en]] w0 fun e w' => e = .returned (.bool true) ∧ Below w0.heap.size w0 w') := by
  have := formed_any HG.out.im
  rw [HI.out] at this
  unfold imV at this
  rw [HTA.out] at this
  exact this
 have HWr : Hid (∀ W, Below w0.heap.size w0 W → Calls Tryz.prog 63 #[.agg #[.slice (some ⟨tb, off, none⟩) g.ts.length g.tc, .slice g.fa g.fs.length g.fc, .slice g.ma g.ms.length g.mc, .int .i64 g.en], .int .i64 0] W fun e w' => e = .returned (.int .i64 7) ∧ Below W.heap.size W w') := fun W hW => by
  have := plWrong_bad (q := 0) (HG.out.im.later hW) hp hx hq0
  unfold imV at this
  rw [HTA.out] at this
  exact this
 have hti : (0 : Int) < (g.ts.length : Int) := by omega
 clear hqq hqi
 clear hw0 hb0 hgb hty hta
 unfold imV
 rw [HTA.out]
 go_enter Tryz.func31, Tryz.ntmps31
 go_wp2_with (rw [← HW0.out])
 refine Calls.mono HFm.out ?_
 rintro e w1 ⟨rfl, hb1⟩
 have HB1 : Hid (Below w0.heap.size w0 w1) := hb1
 clear hb1 c0 c1 c2 c3
 obtain ⟨c0, c1, c2, c3⟩ := HC4.out w1 HB1.out
 go_wp2_with fail
 refine wp_loop_rounds 1 ?_; rw [rounds_succ]
 go_wp2_with fail
 refine Calls.mono (HWr.out w1 HB1.out) ?_
 rintro e w2 ⟨rfl, hb2⟩
 have HB2 : Hid (Below w0.heap.size w0 w2) := bstep HB1.out hb2
 clear hb2 c0 c1 c2 c3
 go_wp2_with fail
 go_ret2
 exact ⟨rfl, bstep HB0.out HB2.out⟩

set_option maxHeartbeats 4000000 in
theorem plCheck_ok {g : Img} {w : World} (hg : Im w g) (hp : Pl g) (hn : NmOk g) (hx : ∀ k : Nat, k < g.ts.length → extB g (k : Int) = true) (hq0 : 0 < g.ts.length) :
  Calls Tryz.prog 31 #[imV g] w fun e w' => e = .returned (.tuple #[.int .i64 0, .int .i64 0]) ∧ Below w.heap.size w w' := by
 obtain ⟨q, hqq⟩ : ∃ q : Nat, q = 0 := ⟨0, rfl⟩
 have hq : q < g.ts.length := by omega
 have HQ : Hid (q = 0) := hqq
 obtain ⟨w0, hw0⟩ : ∃ W, W = w.alloc (.cells (imC g) 26) := ⟨_, rfl⟩
 have HW0 : Hid (w0 = _) := hw0
 obtain ⟨hb0, hgb⟩ := GB.made hg hw0
 have HB0 : Hid (Below w.heap.size w w0) := hb0
 have HG : Hid (GB w0 w.heap.size g) := hgb
 have HI : Hid (imB g = true) := hp.im
 have hln := im_len hp.im
 obtain ⟨tb, off, hta, h8, h9, hty⟩ := hgb.ty (by intro e; rw [e] at hq; simp at hq)
 have HTA : Hid (g.ta = some ⟨tb, off, none⟩) := hta
 have HTY : Hid (∀ W, Below w0.heap.size w0 W → ∀ k (hk : k < g.ts.length), W.cell? ⟨tb, off + k * 4, none⟩ = some (.string g.ts[k].nm) ∧ W.cell? ⟨tb, off + k * 4 + 1, none⟩ = some (.int .i64 g.ts[k].fl) ∧ W.cell? ⟨tb, off + k * 4 + 2, none⟩ = some (.int .i64 g.ts[k].ex) ∧ W.cell? ⟨tb, off + k * 4 + 3, none⟩ = some (.slice g.ts[k].fa g.ts[k].fs.length g.ts[k].fc)) := fun W hW k hk => (hty W hW).2 k hk
 have HC4 : Hid (∀ W, Below w0.heap.size w0 W → W.cell? ⟨w.heap.size, 0, none⟩ = some (.slice (some ⟨tb, off, none⟩) g.ts.length g.tc) ∧ W.cell? ⟨w.heap.size, 1, none⟩ = some (.slice g.fa g.fs.length g.fc) ∧ W.cell? ⟨w.heap.size, 2, none⟩ = some (.slice g.ma g.ms.length g.mc) ∧ W.cell? ⟨w.heap.size, 3, none⟩ = some (.int .i64 g.en)) := fun W hW => by
  have := (HG.out.later hW).cells
  rw [HTA.out] at this
  exact this
 have HKd : Hid (∀ W, Below w0.heap.size w0 W → Calls Tryz.prog 16 #[.agg #[.slice (some ⟨tb, off, none⟩) g.ts.length g.tc, .slice g.fa g.fs.length g.fc, .slice g.ma g.ms.length g.mc, .int .i64 g.en], .int .i64 q] W fun e w' => e = .returned (.int .i64 0) ∧ Below W.heap.size W w') := fun W hW => by
  have := kind_any (q : Int) (HG.out.im.later hW) (FlOk.of HI.out)
  rw [hp.knd hq] at this
  unfold imV at this
  rw [HTA.out] at this
  exact this
 obtain ⟨c0, c1, c2, c3⟩ := HC4.out w0 (Below.refl _ _)
 have hqi : (q : Int) < (g.ts.length : Int) := by omega
 unfold maxLen at h9
 unfold imC at HW0
 rw [hta] at HW0
 have HFm : Hid (Calls Tryz.prog 62 #[.agg #[.slice (some ⟨tb, off, none⟩) g.ts.length g.tc, .slice g.fa g.fs.length g.fc, .slice g.ma g.ms.length g.mc, .int .i64 g.en]] w0 fun e w' => e = .returned (.bool true) ∧ Below w0.heap.size w0 w') := by
  have := formed_any HG.out.im
  rw [HI.out] at this
  unfold imV at this
  rw [HTA.out] at this
  exact this
 have HWr : Hid (∀ W, Below w0.heap.size w0 W → ∀ k : Nat, k < g.ts.length → Calls Tryz.prog 63 #[.agg #[.slice (some ⟨tb, off, none⟩) g.ts.length g.tc, .slice g.fa g.fs.length g.fc, .slice g.ma g.ms.length g.mc, .int .i64 g.en], .int .i64 (k : Int)] W fun e w' => e = .returned (.int .i64 0) ∧ Below W.heap.size W w') := fun W hW k hk => by
  have := plWrong_ok (HG.out.im.later hW) hp hn (hx k hk) hk
  unfold imV at this
  rw [HTA.out] at this
  exact this
 clear hqq hqi
 clear hw0 hb0 hgb hty hta
 unfold imV
 rw [HTA.out]
 go_enter Tryz.func31, Tryz.ntmps31
 go_wp2_with (rw [← HW0.out])
 refine Calls.mono HFm.out ?_
 rintro e w1 ⟨rfl, hb1⟩
 have HB1 : Hid (Below w0.heap.size w0 w1) := hb1
 clear hb1 c0 c1 c2 c3
 obtain ⟨c0, c1, c2, c3⟩ := HC4.out w1 HB1.out
 go_wp2_with fail
 clear c0 c1 c2 c3
 go_loopw [4, 5, 12] (fun _ _ z wr => ∃ k : Nat, k ≤ g.ts.length ∧ z = .int .i64 k ∧ Hid (Below w0.heap.size w0 wr)) (fun _ _ z _ => g.ts.length - (intOf z).toNat)
 case atStart => exact ⟨0, Nat.zero_le _, rfl, HB1.out⟩
 case round =>
  obtain ⟨k, hk, rfl, HB⟩ := hrel
  obtain ⟨c0, c1, c2, c3⟩ := HC4.out wr HB.out
  by_cases hkl : k < g.ts.length
  ·have hki : (k : Int) < (g.ts.length : Int) := by omega
   go_wp2_with fail
   refine Calls.mono (HWr.out wr HB.out k hkl) ?_
   rintro e w2 ⟨rfl, hb2⟩
   have HB2 : Hid (Below w0.heap.size w0 w2) := bstep HB.out hb2
   clear hb2 c0 c1 c2 c3
   go_wp2_with fail
   go_roundw
   case rel => exact ⟨k + 1, by omega, by go_num, HB2.out⟩
   case measure => simp [intOf]; omega
  ·have hki : ¬ (k : Int) < (g.ts.length : Int) := by omega
   go_wp2_with fail
   go_ret2
   exact ⟨rfl, bstep HB0.out HB.out⟩
end Go.Proofs.YthpmpdpfnlecmaaGreat
