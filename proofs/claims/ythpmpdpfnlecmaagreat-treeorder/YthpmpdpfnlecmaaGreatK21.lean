/- Texts joined: Formed10. -/
import Derived.Test.YthpmpdpfnlecmaaGreatK20
namespace Go.Proofs.YthpmpdpfnlecmaaGreat
set_option linter.unusedVariables false
set_option linter.unusedSimpArgs false
open Go.RowKit
attribute [local go_sem ↓] Go.wp_at_zero Go.wp_at_succ
def imAF (g : Img) : Array Value := #[.slice g.ta g.ts.length g.tc, .slice g.fa g.fs.length g.fc, .slice g.ma g.ms.length g.mc, .int .i64 g.en]

set_option maxHeartbeats 8000000 in
/-- Formed answers whether an image is formed. -/
theorem formed_any {g : Img} {w : World} (hg : Im w g) :
  Calls Tryz.prog 62 #[imV g] w fun e w' => e = .returned (.bool (imB g)) ∧ Below w.heap.size w w' := by
 obtain ⟨w0, hw0⟩ : ∃ W, W = (w.alloc (.cells (imAF g) 26)).alloc (.cells (szC g.ts.length g.fs.length g.ms.length) 109) := ⟨_, rfl⟩
 have HW0 : Hid (w0 = _) := hw0
 obtain ⟨hb0, hat⟩ := two_boxes hw0
 have HB0 : Hid (Below w.heap.size w w0) := hb0
 have HAT : Hid (∀ W, Below w0.heap.size w0 W → At W w.heap.size (imAF g) 26 ∧ At W (w.heap.size + 1) (szC g.ts.length g.fs.length g.ms.length) 109) := hat
 have htl := hg.ts.len
 have hfl := hg.fs.len
 have hml := hg.ms.len
 unfold maxLen at htl hfl hml
 obtain ⟨hA1, hA2⟩ := hat w0 (Below.refl _ _)
 have c1 := hA1.cell
 have c2 := hA2.cell
 obtain ⟨rT, hT⟩ : ∃ r, r = g.ts.all (tdB g.ts.length) := ⟨_, rfl⟩
 obtain ⟨rF, hF⟩ : ∃ r, r = g.fs.all (fdB g.ts.length) := ⟨_, rfl⟩
 obtain ⟨rf, hf⟩ : ∃ r, r = risB (g.fs.map (·.ow)) := ⟨_, rfl⟩
 obtain ⟨rM, hM⟩ : ∃ r, r = g.ms.all (mdB g.ts.length g.fs.length g.ms.length) := ⟨_, rfl⟩
 obtain ⟨rm, hm⟩ : ∃ r, r = risB (g.ms.map (·.ow)) := ⟨_, rfl⟩
 have HF : Hid (imB g = (decide (g.ts.length ≤ 32) && decide (g.fs.length ≤ 64) && decide (g.ms.length ≤ 64) && rT && (rF && rf) && (rM && rm) && (decide (g.en = -1) || (decide (0 ≤ g.en) && decide (g.en < g.ms.length))))) := by show _ = _; rw [hT, hF, hf, hM, hm]; rfl
 have HTs : Hid (∀ W, Below w0.heap.size w0 W → Calls Tryz.prog 97 #[.slice g.ta g.ts.length g.tc, .func (.func 98) #[szV g.ts.length g.fs.length g.ms.length] #[]] W fun e w' => e = .returned (.bool rT) ∧ Below W.heap.size W w') := fun W hW => by
  rw [hT]
  refine allT10_any (hg.ts.later (bstep hb0 hW)) ⟨run_enter9 Tryz.func98 (by kernel_rfl) rfl, fun W2 hW2 x hx => ?_⟩
  simpa using isType_any g.ts.length g.fs.length g.ms.length x ((hg.tok x hx).later (bstep (bstep hb0 hW) hW2))
 have HFs : Hid (∀ W, Below w0.heap.size w0 W → Calls Tryz.prog 99 #[.slice g.fa g.fs.length g.fc, .func (.func 100) #[szV g.ts.length g.fs.length g.ms.length] #[]] W fun e w' => e = .returned (.bool rF) ∧ Below W.heap.size W w') := fun W hW => by
  rw [hF]
  refine allF10_any (hg.fs.later (bstep hb0 hW)) ⟨run_enter9 Tryz.func100 (by kernel_rfl) rfl, fun W2 hW2 x hx => ?_⟩
  simpa using isField10_any g.ts.length g.fs.length g.ms.length x W2
 have HSf : Hid (∀ W, Below w0.heap.size w0 W → Calls Tryz.prog 101 #[.slice g.fa g.fs.length g.fc, .func (.func 102) #[] #[]] W fun e w' => e = .returned (.bool rf) ∧ Below W.heap.size W w') := fun W hW => by
  rw [hf]; exact sortedF_any (hg.fs.later (bstep hb0 hW))
 have HMs : Hid (∀ W, Below w0.heap.size w0 W → Calls Tryz.prog 103 #[.slice g.ma g.ms.length g.mc, .func (.func 104) #[szV g.ts.length g.fs.length g.ms.length] #[]] W fun e w' => e = .returned (.bool rM) ∧ Below W.heap.size W w') := fun W hW => by
  rw [hM]
  refine allM10_any (hg.ms.later (bstep hb0 hW)) ⟨run_enter9 Tryz.func104 (by kernel_rfl) rfl, fun W2 hW2 x hx => ?_⟩
  simpa using isMethod_any g.ts.length g.fs.length g.ms.length x ((hg.mok x hx).later (bstep (bstep hb0 hW) hW2))
 have HSm : Hid (∀ W, Below w0.heap.size w0 W → Calls Tryz.prog 105 #[.slice g.ma g.ms.length g.mc, .func (.func 106) #[] #[]] W fun e w' => e = .returned (.bool rm) ∧ Below W.heap.size W w') := fun W hW => by
  rw [hm]; exact sortedM_any (hg.ms.later (bstep hb0 hW))
 unfold imAF at c1 HW0
 unfold szC at c2 HW0
 unfold szV at HTs HFs HMs
 clear hw0 hb0 hat hA1 hA2 hg hT hF hf hM hm
 unfold imV
 go_enter Tryz.func62, Tryz.ntmps62
 by_cases h32 : 32 < g.ts.length
 ·have i1 : (32 : Int) < (g.ts.length : Int) := by omega
  go_wp2_with (rw [← HW0.out])
  go_ret
  exact ⟨ret_bool (by rw [HF.out, decide_eq_false (show ¬ g.ts.length ≤ 32 by omega)]; rfl), HB0.out⟩
 have i1 : ¬ (32 : Int) < (g.ts.length : Int) := by omega
 have d1 : decide (g.ts.length ≤ 32) = true := decide_eq_true (by omega)
 by_cases h64 : 64 < g.fs.length
 ·have i2 : (64 : Int) < (g.fs.length : Int) := by omega
  go_wp2_with (rw [← HW0.out])
  go_ret
  exact ⟨ret_bool (by rw [HF.out, decide_eq_false (show ¬ g.fs.length ≤ 64 by omega)]; simp), HB0.out⟩
 have i2 : ¬ (64 : Int) < (g.fs.length : Int) := by omega
 have d2 : decide (g.fs.length ≤ 64) = true := decide_eq_true (by omega)
 by_cases h6m : 64 < g.ms.length
 ·have i3 : (64 : Int) < (g.ms.length : Int) := by omega
  go_wp2_with (rw [← HW0.out])
  go_ret
  exact ⟨ret_bool (by rw [HF.out, decide_eq_false (show ¬ g.ms.length ≤ 64 by omega)]; simp), HB0.out⟩
 have i3 : ¬ (64 : Int) < (g.ms.length : Int) := by omega
 have d3 : decide (g.ms.length ≤ 64) = true := decide_eq_true (by omega)
 have HG : Hid (imB g = (rT && (rF && rf) && (rM && rm) && (decide (g.en = -1) || (decide (0 ≤ g.en) && decide (g.en < g.ms.length))))) := by show _ = _; rw [HF.out, d1, d2, d3]; simp
 clear HF d1 d2 d3 h32 h64 h6m c1 c2
 obtain ⟨hA1, hA2⟩ := HAT.out w0 (Below.refl _ _)
 have c1 := hA1.cell
 have c2 := hA2.cell
 unfold imAF at c1
 unfold szC at c2
 clear hA1 hA2
 have H0 := HTs.out w0 (Below.refl _ _)
 go_wp2_with (rw [← HW0.out])
 refine Calls.mono H0 ?_
 rintro e w1 ⟨rfl, hb⟩
 have HB1 : Hid (Below w0.heap.size w0 w1) := hb
 clear H0 c1 c2 hb
 obtain ⟨hA1, hA2⟩ := HAT.out w1 HB1.out
 have c1 := hA1.cell
 have c2 := hA2.cell
 unfold imAF at c1
 unfold szC at c2
 clear hA1 hA2
 cases rT with
 | false =>
  go_wp2_with fail
  go_ret
  exact ⟨ret_bool (by rw [HG.out]; simp), bstep HB0.out HB1.out⟩
 | true =>
  have H1 := HFs.out w1 HB1.out
  go_wp2_with fail
  refine Calls.mono H1 ?_
  rintro e w2 ⟨rfl, hb⟩
  have HB2 : Hid (Below w0.heap.size w0 w2) := bstep HB1.out hb
  clear H1 c1 c2 hb
  obtain ⟨hA1, hA2⟩ := HAT.out w2 HB2.out
  have c1 := hA1.cell
  have c2 := hA2.cell
  unfold imAF at c1
  unfold szC at c2
  clear hA1 hA2
  cases rF with
  | false =>
   go_wp2_with fail
   go_ret
   exact ⟨ret_bool (by rw [HG.out]; simp), bstep HB0.out HB2.out⟩
  | true =>
   have H2 := HSf.out w2 HB2.out
   go_wp2_with fail
   refine Calls.mono H2 ?_
   rintro e w3 ⟨rfl, hb⟩
   have HB3 : Hid (Below w0.heap.size w0 w3) := bstep HB2.out hb
   clear H2 c1 c2 hb
   obtain ⟨hA1, hA2⟩ := HAT.out w3 HB3.out
   have c1 := hA1.cell
   have c2 := hA2.cell
   unfold imAF at c1
   unfold szC at c2
   clear hA1 hA2
   cases rf with
   | false =>
    go_wp2_with fail
    go_ret
    exact ⟨ret_bool (by rw [HG.out]; simp), bstep HB0.out HB3.out⟩
   | true =>
    have H3 := HMs.out w3 HB3.out
    go_wp2_with fail
    refine Calls.mono H3 ?_
    rintro e w4 ⟨rfl, hb⟩
    have HB4 : Hid (Below w0.heap.size w0 w4) := bstep HB3.out hb
    clear H3 c1 c2 hb
    obtain ⟨hA1, hA2⟩ := HAT.out w4 HB4.out
    have c1 := hA1.cell
    have c2 := hA2.cell
    unfold imAF at c1
    unfold szC at c2
    clear hA1 hA2
    cases rM with
    | false =>
     go_wp2_with fail
     go_ret
     exact ⟨ret_bool (by rw [HG.out]; simp), bstep HB0.out HB4.out⟩
    | true =>
     have H4 := HSm.out w4 HB4.out
     go_wp2_with fail
     refine Calls.mono H4 ?_
     rintro e w5 ⟨rfl, hb⟩
     have HB5 : Hid (Below w0.heap.size w0 w5) := bstep HB4.out hb
     clear H4 c1 c2 hb
     obtain ⟨hA1, hA2⟩ := HAT.out w5 HB5.out
     have c1 := hA1.cell
     have c2 := hA2.cell
     unfold imAF at c1
     unfold szC at c2
     clear hA1 hA2
     cases rm with
     | false =>
      go_wp2_with fail
      go_ret
      exact ⟨ret_bool (by rw [HG.out]; simp), bstep HB0.out HB5.out⟩
     | true =>
      have HG2 : Hid (imB g = (decide (g.en = -1) || (decide (0 ≤ g.en) && decide (g.en < g.ms.length)))) := by show _ = _; rw [HG.out]; simp
      clear HG HTs HFs HSf HMs HSm
      by_cases he : g.en = -1
      ·go_wp2_with fail
       go_ret
       exact ⟨ret_bool (by rw [HG2.out]; simp [he]), bstep HB0.out HB5.out⟩
      ·have e1 : (g.en == -1) = false := by simpa using he
       have hd : decide (g.en = -1) = false := by simpa using he
       go_wp2_with fail
       refine (isNumber_any _ _ _).mono ?_
       rintro e wz ⟨rfl, hz⟩
       subst wz
       go_wp2
       go_ret
       exact ⟨ret_bool (by rw [HG2.out, hd]; simp), bstep HB0.out HB5.out⟩
end Go.Proofs.YthpmpdpfnlecmaaGreat
