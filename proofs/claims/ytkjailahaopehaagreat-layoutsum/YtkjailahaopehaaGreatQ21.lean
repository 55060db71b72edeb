/- Texts joined: LayBase, LiF11, RefParts11. -/
import Derived.Test.YtkjailahaopehaaGreatQ16
import Derived.Test.YtkjailahaopehaaGreatQ17
import Derived.Test.YtkjailahaopehaaGreatQ14
import Derived.Test.YtkjailahaopehaaGreatQ20
import Derived.Test.YtkjailahaopehaaGreatQ15
import Derived.Deep.RegionHeld3
namespace Go.Proofs.YtkjailahaopehaaGreat
set_option linter.unusedVariables false
set_option linter.unusedSimpArgs false
open Go.RowKit
attribute [local go_sem ↓] Go.wp_at_zero Go.wp_at_succ
/-- The four cells of an image's box. -/
def Im4 (W : World) (b : Nat) (g : Img) : Prop := W.cell? ⟨b, 0, none⟩ = some (.slice g.ta g.ts.length g.tc) ∧ W.cell? ⟨b, 1, none⟩ = some (.slice g.fa g.fs.length g.fc) ∧ W.cell? ⟨b, 2, none⟩ = some (.slice g.ma g.ms.length g.mc) ∧ W.cell? ⟨b, 3, none⟩ = some (.int .i64 g.en)
/-- The box that a function lays of an image that it takes, and what stands of it in all worlds to come. -/
theorem img_head {w : World} {g : Img} (hg : Im w g) : ∃ w0, Hid (w0 = w.alloc (.cells #[.slice g.ta g.ts.length g.tc, .slice g.fa g.fs.length g.fc, .slice g.ma g.ms.length g.mc, .int .i64 g.en] 26)) ∧ Hid (Below w.heap.size w w0) ∧ Hid (GB w0 w.heap.size g) ∧ Hid (∀ W, Below w0.heap.size w0 W → Im4 W w.heap.size g) ∧ Hid (∀ W, Below w0.heap.size w0 W → Im W g) ∧ Im4 w0 w.heap.size g := by
 obtain ⟨w0, hw0⟩ : ∃ W, W = w.alloc (.cells (imC g) 26) := ⟨_, rfl⟩
 obtain ⟨hb0, hgb⟩ := GB.made hg hw0
 exact ⟨w0, hw0, hb0, hgb, fun W hW => (hgb.later hW).cells, fun W hW => hgb.im.later hW, hgb.cells⟩
/-- The boxes of an image and a type. -/
theorem img_type_head {w : World} {g : Img} (hg : Im w g) (t : Ty) : ∃ w0, Hid (w0 = (w.alloc (.cells #[.slice g.ta g.ts.length g.tc, .slice g.fa g.fs.length g.fc, .slice g.ma g.ms.length g.mc, .int .i64 g.en] 26)).alloc (.cells #[.int .i64 t.1, .int .i64 t.2.1, .int .i64 t.2.2.1, .bool t.2.2.2] 37)) ∧ Hid (Below w.heap.size w w0) ∧ Hid (∀ W, Below w0.heap.size w0 W → Im4 W w.heap.size g ∧ (W.cell? ⟨w.heap.size + 1, 0, none⟩ = some (.int .i64 t.1) ∧ W.cell? ⟨w.heap.size + 1, 1, none⟩ = some (.int .i64 t.2.1) ∧ W.cell? ⟨w.heap.size + 1, 2, none⟩ = some (.int .i64 t.2.2.1) ∧ W.cell? ⟨w.heap.size + 1, 3, none⟩ = some (.bool t.2.2.2))) ∧ Hid (∀ W, Below w0.heap.size w0 W → Im W g) := by
 obtain ⟨w0, hw0⟩ : ∃ W, W = (w.alloc (.cells (imC g) 26)).alloc (.cells (tyA t) 37) := ⟨_, rfl⟩
 obtain ⟨hb0, hat⟩ := two_boxes hw0
 refine ⟨w0, hw0, hb0, fun W hW => ⟨?_, ?_⟩, fun W hW => (hg.later hb0).later hW⟩
 ·have h := (hat W hW).1
  exact ⟨h.cell 0, h.cell 1, h.cell 2, h.cell 3⟩
 ·have h := (hat W hW).2
  exact ⟨h.cell 0, h.cell 1, h.cell 2, h.cell 3⟩
/-- Answers a value, and leaves all that was there. -/
abbrev Ans (f : FuncId) (xs : Array Value) (W : World) (v : Value) : Prop := Calls Tryz.prog f xs W fun e w' => e = .returned v ∧ Below W.heap.size W w'
def imA4 (g : Img) : Value := .agg #[.slice g.ta g.ts.length g.tc, .slice g.fa g.fs.length g.fc, .slice g.ma g.ms.length g.mc, .int .i64 g.en]

set_option maxHeartbeats 1000000 in
theorem refWhole_any (t : Ty) (w : World) : Ans 42 #[.agg #[.int .i64 t.1, .int .i64 t.2.1, .int .i64 t.2.2.1, .bool t.2.2.2]] w (.bool (whlB t)) := by
 obtain ⟨k, i, d, r⟩ := t
 go_enter Tryz.func42, Tryz.ntmps42
 go_wp2
 all_goals go_ret
 all_goals refine ⟨ret_bool ?_, made_below _ _ _⟩
 all_goals try simp only [beq_iff_eq, beq_eq_false_iff_ne, ne_eq] at *
 all_goals (rw [Bool.eq_iff_iff]; cases r <;> first | contradiction | (simp [whlB] <;> omega))

theorem usd_plain {g : Img} {t : Ty} (h : plainT t = false) : usdB g t = false := by unfold usdB; rw [h]; rfl
theorem usd_class {g : Img} {t : Ty} (h : plainT t = true) (h5 : t.1 = 5) : usdB g t = (decide (kndI g t.2.1 ≠ -1) && decide (kndI g t.2.1 ≠ 1)) := by unfold usdB; rw [h, if_pos h5]; rfl
theorem usd_value {g : Img} {t : Ty} (h : plainT t = true) (h6 : t.1 = 6) : usdB g t = decide (kndI g t.2.1 = 1) := by unfold usdB; rw [h, if_neg (by omega), if_pos h6]; rfl
theorem usd_rest {g : Img} {t : Ty} (h : plainT t = true) (h5 : t.1 ≠ 5) (h6 : t.1 ≠ 6) : usdB g t = true := by unfold usdB; rw [h, if_neg h5, if_neg h6]; rfl

set_option maxHeartbeats 4000000 in
theorem usedWell_any {g : Img} (t : Ty) {w : World} (hg : Im w g) (hi : imB g = true) : Ans 33 #[imV g, .agg #[.int .i64 t.1, .int .i64 t.2.1, .int .i64 t.2.2.1, .bool t.2.2.2]] w (.bool (usdB g t)) := by
 obtain ⟨w0, HW0, HB0, HC, HI⟩ := img_type_head hg t
 have HP : Hid (Ans 51 #[.agg #[.int .i64 t.1, .int .i64 t.2.1, .int .i64 t.2.2.1, .bool t.2.2.2]] w0 (.bool (plainT t))) := plain_any t.1 t.2.1 t.2.2.1 t.2.2.2 w0
 have HK : Hid (∀ W, Below w0.heap.size w0 W → Ans 43 #[imA4 g, .int .i64 t.2.1] W (.int .i64 (kndI g t.2.1))) := fun W hW => kind_any t.2.1 (HI.out W hW) (FlOk.of hi)
 have HU1 : Hid (plainT t = false → usdB g t = false) := usd_plain
 have HU2 : Hid (plainT t = true → t.1 = 5 → usdB g t = (decide (kndI g t.2.1 ≠ -1) && decide (kndI g t.2.1 ≠ 1))) := usd_class
 have HU3 : Hid (plainT t = true → t.1 = 6 → usdB g t = decide (kndI g t.2.1 = 1)) := usd_value
 have HU4 : Hid (plainT t = true → t.1 ≠ 5 → t.1 ≠ 6 → usdB g t = true) := usd_rest
 obtain ⟨⟨c0, c1, c2, c3⟩, d0, d1, d2, d3⟩ := HC.out w0 (Below.refl _ _)
 unfold imA4 at HK
 clear hg hi
 unfold imV
 generalize kndI g t.2.1 = kn at *
 generalize plainT t = pl at *
 generalize usdB g t = F at *
 obtain ⟨k, i, d, r⟩ := t
 simp only at *
 go_enter Tryz.func33, Tryz.ntmps33
 go_wp2_with (rw [← HW0.out])
 refine Calls.mono HP.out ?_
 rintro e w1 ⟨rfl, hb1⟩
 have HB1 : Hid (Below w0.heap.size w0 w1) := hb1
 clear hb1 c0 c1 c2 c3 d0 d1 d2 d3 HP
 obtain ⟨⟨c0, c1, c2, c3⟩, d0, d1, d2, d3⟩ := HC.out w1 HB1.out
 cases pl with
 | false =>
  have HR : Hid (F = false) := HU1.out rfl
  go_wp2_with fail
  go_ret
  exact ⟨ret_bool HR.out.symm, bstep HB0.out HB1.out⟩
 | true =>
  by_cases h5 : k = 5
  ·subst h5
   have HR : Hid (F = (decide (kn ≠ -1) && decide (kn ≠ 1))) := HU2.out (by trivial) rfl
   go_wp2_with fail
   refine Calls.mono (HK.out w1 HB1.out) ?_
   rintro e w2 ⟨rfl, hb2⟩
   have HB2 : Hid (Below w0.heap.size w0 w2) := bstep HB1.out hb2
   clear hb2
   go_wp2
   all_goals go_ret
   all_goals refine ⟨ret_bool ?_, bstep HB0.out HB2.out⟩
   all_goals (rw [HR.out, Bool.eq_iff_iff]; simp; try omega)
  ·have e5 : (k == 5) = false := by simpa using h5
   by_cases h6 : k = 6
   ·subst h6
    have HR : Hid (F = decide (kn = 1)) := HU3.out (by trivial) rfl
    go_wp2_with fail
    refine Calls.mono (HK.out w1 HB1.out) ?_
    rintro e w2 ⟨rfl, hb2⟩
    have HB2 : Hid (Below w0.heap.size w0 w2) := bstep HB1.out hb2
    clear hb2
    go_wp2
    all_goals go_ret
    all_goals refine ⟨ret_bool ?_, bstep HB0.out HB2.out⟩
    all_goals (rw [HR.out, Bool.eq_iff_iff]; simp)
   ·have e6 : (k == 6) = false := by simpa using h6
    have HR : Hid (F = true) := HU4.out (by trivial) h5 h6
    clear h5 h6
    go_wp2_with fail
    go_ret
    exact ⟨ret_bool HR.out.symm, bstep HB0.out HB1.out⟩

set_option maxHeartbeats 4000000 in
theorem refUsed_any {g : Img} (t : Ty) {w : World} (hg : Im w g) (hi : imB g = true) : Ans 17 #[imV g, .agg #[.int .i64 t.1, .int .i64 t.2.1, .int .i64 t.2.2.1, .bool t.2.2.2]] w (.bool (usdB g t)) := by
 obtain ⟨w0, HW0, HB0, HC, HI⟩ := img_type_head hg t
 have HP : Hid (Ans 39 #[.agg #[.int .i64 t.1, .int .i64 t.2.1, .int .i64 t.2.2.1, .bool t.2.2.2]] w0 (.bool (plainT t))) := refPlain_any t.1 t.2.1 t.2.2.1 t.2.2.2 w0
 have HK : Hid (∀ W, Below w0.heap.size w0 W → Ans 26 #[imA4 g, .int .i64 t.2.1] W (.int .i64 (kndI g t.2.1))) := fun W hW => refKind_any t.2.1 (HI.out W hW) (FlOk.of hi)
 have HU1 : Hid (plainT t = false → usdB g t = false) := usd_plain
 have HU2 : Hid (plainT t = true → t.1 = 5 → usdB g t = (decide (kndI g t.2.1 ≠ -1) && decide (kndI g t.2.1 ≠ 1))) := usd_class
 have HU3 : Hid (plainT t = true → t.1 = 6 → usdB g t = decide (kndI g t.2.1 = 1)) := usd_value
 have HU4 : Hid (plainT t = true → t.1 ≠ 5 → t.1 ≠ 6 → usdB g t = true) := usd_rest
 have HK4 : kndI g t.2.1 = 0 ∨ kndI g t.2.1 = 2 ∨ kndI g t.2.1 = 1 ∨ kndI g t.2.1 = 3 ∨ kndI g t.2.1 = -1 := by
  unfold kndI
  split
  ·rcases kindF_four (flI g t.2.1) with h | h | h | h <;> simp [h]
  ·simp
 obtain ⟨⟨c0, c1, c2, c3⟩, d0, d1, d2, d3⟩ := HC.out w0 (Below.refl _ _)
 unfold imA4 at HK
 clear hg hi
 unfold imV
 generalize kndI g t.2.1 = kn at *
 generalize plainT t = pl at *
 generalize usdB g t = F at *
 obtain ⟨k, i, d, r⟩ := t
 simp only at *
 go_enter Tryz.func17, Tryz.ntmps17
 go_wp2_with (rw [← HW0.out])
 refine Calls.mono HP.out ?_
 rintro e w1 ⟨rfl, hb1⟩
 have HB1 : Hid (Below w0.heap.size w0 w1) := hb1
 clear hb1 c0 c1 c2 c3 d0 d1 d2 d3 HP
 obtain ⟨⟨c0, c1, c2, c3⟩, d0, d1, d2, d3⟩ := HC.out w1 HB1.out
 cases pl with
 | false =>
  have HR : Hid (F = false) := HU1.out rfl
  go_wp2_with fail
  go_ret
  exact ⟨ret_bool HR.out.symm, bstep HB0.out HB1.out⟩
 | true =>
  go_wp2_with fail
  refine Calls.mono (HK.out w1 HB1.out) ?_
  rintro e w2 ⟨rfl, hb2⟩
  have HB2 : Hid (Below w0.heap.size w0 w2) := bstep HB1.out hb2
  clear hb2 c0 c1 c2 c3 d0 d1 d2 d3
  obtain ⟨⟨c0, c1, c2, c3⟩, d0, d1, d2, d3⟩ := HC.out w2 HB2.out
  by_cases h5 : k = 5
  ·subst h5
   have HR : Hid (F = (decide (kn ≠ -1) && decide (kn ≠ 1))) := HU2.out (by trivial) rfl
   rcases HK4 with rfl | rfl | rfl | rfl | rfl
   all_goals go_wp2
   all_goals go_ret
   all_goals exact ⟨ret_bool (by rw [HR.out]; rfl), bstep HB0.out HB2.out⟩
  ·have e5 : (k == 5) = false := by simpa using h5
   by_cases h6 : k = 6
   ·subst h6
    have HR : Hid (F = decide (kn = 1)) := HU3.out (by trivial) rfl
    go_wp2
    all_goals go_ret
    all_goals refine ⟨ret_bool ?_, bstep HB0.out HB2.out⟩
    all_goals (rw [HR.out, Bool.eq_iff_iff]; simp)
   ·have e6 : (k != 6) = true := by simpa using h6
    have HR : Hid (F = true) := HU4.out (by trivial) h5 h6
    clear h5 h6
    go_wp2
    all_goals go_ret
    all_goals exact ⟨ret_bool HR.out.symm, bstep HB0.out HB2.out⟩
/-- A list of numbers of a call's own, laid from a block's beginning on. -/
structure LiF (w : World) (a : Option Addr) (n c : Nat) (L : List Int) : Prop where
 is : Is w (.slice a n c) L
 at0 : ∀ {i : Nat}, i < L.length → ∃ b, a = some ⟨b, 0, none⟩
theorem LiF.of {w : World} {base : Nat} {a : Option Addr} {c : Nat} {L : List Int} (h : OwnI w base (.slice a L.length c) L) : Hid (LiF w a L.length c L) := ⟨h.is, fun {i} hi => by
 obtain ⟨g, cap, hv, _⟩ := h.parts (by intro e; rw [e] at hi; simp at hi)
 simp only [Value.slice.injEq] at hv
 exact ⟨g, hv.1⟩⟩
theorem prt_take {L : List Int} {p : Int → Bool} {f : Int → Int} {i : Nat} (hi : i < L.length) : ((L.take (i + 1)).filter p).map f = ((L.take i).filter p).map f ++ (if p L[i] = true then [f L[i]] else []) := by
 rw [List.take_succ_eq_append_getElem hi, List.filter_append, List.map_append]
 congr 1
 cases h : p L[i] <;> simp only [List.filter_cons, List.filter_nil, h] <;> rfl
theorem prt_len {L : List Int} {p : Int → Bool} {f : Int → Int} {i : Nat} : (((L.take i).filter p).map f).length ≤ L.length := by
 rw [List.length_map]
 exact Nat.le_trans (List.length_filter_le _ _) (by rw [List.length_take]; omega)
theorem fstI_at {g : Img} {k : Nat} (h : k < g.fs.length) : fstI g (k : Int) = g.fs[k].st := by unfold fstI; rw [Int.toNat_natCast, List.getElem?_eq_getElem h]
theorem fvtI_at {g : Img} {k : Nat} (h : k < g.fs.length) : fvtI g (k : Int) = g.fs[k].t := by unfold fvtI; rw [Int.toNat_natCast, List.getElem?_eq_getElem h]
theorem prtB_at {g : Img} {k : Nat} (h : k < g.fs.length) : prtB g (k : Int) = (!g.fs[k].st && (decide (g.fs[k].t.1 = 6) && decide (g.fs[k].t.2.2.1 = 0) && decide (kndI g g.fs[k].t.2.1 = 1))) := by unfold prtB; rw [fstI_at h, fvtI_at h]

set_option maxHeartbeats 8000000 in
set_option maxRecDepth 100000 in
theorem refParts_any {g : Img} {t : Int} {w : World} (hg : Im w g) (hi : imB g = true) :
  Calls Tryz.prog 86 #[imV g, .int .i64 t] w fun e w' => ∃ v, e = .returned v ∧ OwnI w' w.heap.size v (prtL g t) ∧ Below w.heap.size w w' := by
 obtain ⟨w0, hw0⟩ : ∃ W, W = w.alloc (.cells (imC g) 26) := ⟨_, rfl⟩
 have HW0 : Hid (w0 = _) := hw0
 obtain ⟨hb0, hgb⟩ := GB.made hg hw0
 have HB0 : Hid (Below w.heap.size w w0) := hb0
 have HG : Hid (GB w0 w.heap.size g) := hgb
 have HI : Hid (imB g = true) := hi
 have hln := im_len hi
 have HFl : Hid (Calls Tryz.prog 83 #[.agg (imC g), .int .i64 t] w0 fun e w' => ∃ v, e = .returned v ∧ OwnI w' w0.heap.size v (fldN g t) ∧ Below w0.heap.size w0 w') := refFields_any HG.out.im HI.out
 obtain ⟨c0, c1, c2, c3⟩ := hgb.cells
 unfold imC at HW0 HFl
 clear hw0 hb0 hgb hg hi
 unfold imV
 go_enter Tryz.func86, Tryz.ntmps86
 go_wp2_with (rw [← HW0.out])
 refine Calls.mono HFl.out ?_
 rintro e w1 ⟨fv, rfl, hf, hb1⟩
 have HB1 : Hid (Below w0.heap.size w0 w1) := hb1
 obtain ⟨L, hL⟩ : ∃ X, X = fldN g t := ⟨_, rfl⟩
 have HLE : Hid (L = fldN g t) := hL
 rw [← hL] at hf
 have hll := fldN_len g t
 rw [← hL] at hll
 obtain ⟨la, lc, hfv, _, hlc⟩ := (show Is w1 fv L from hf.is).shape
 subst hfv
 have HOL := LiF.of hf
 obtain ⟨len9, h99⟩ : ∃ n, n = L.length := ⟨_, rfl⟩
 rw [← h99] at HOL
 have HOL : Hid (LiF w1 la len9 lc L) := HOL
 rw [← h99]
 clear hf hb1 c0 c1 c2 c3 hL HFl
 go_wp2_with fail
 go_loopw [5, 7, 8] (fun lv z _ wr => ∃ i : Nat, i ≤ L.length ∧ z = .int .i64 i ∧ Hid (OwnI wr w1.heap.size lv (((L.take i).filter (prtB g)).map (fun i => (fvtI g i).2.1))) ∧ Hid (Below w1.heap.size w1 wr)) (fun _ z _ _ => L.length - (intOf z).toNat)
 case atStart => exact ⟨0, Nat.zero_le _, rfl, OwnI.nil _ _, Below.refl _ _⟩
 case round =>
  obtain ⟨i, hi2, rfl, HO, HB⟩ := hrel
  by_cases hil : i < L.length
  ·have hii : (i : Int) < (len9 : Int) := by omega
   obtain ⟨A, hA, hAl⟩ := fldN_num (show L[i] ∈ fldN g t by rw [← HLE.out]; exact List.getElem_mem hil)
   have hAi : (A : Int) < (g.fs.length : Int) := by omega
   have HPT : Hid (((L.take (i + 1)).filter (prtB g)).map (fun i => (fvtI g i).2.1) = ((L.take i).filter (prtB g)).map (fun i => (fvtI g i).2.1) ++ (if prtB g L[i] = true then [(fvtI g L[i]).2.1] else [])) := prt_take hil
   have HPL : Hid ((((L.take i).filter (prtB g)).map (fun i => (fvtI g i).2.1)).length ≤ 64) := Nat.le_trans prt_len (by omega)
   rw [hA, prtB_at hAl, fvtI_at hAl] at HPT
   obtain ⟨gl, hgl⟩ := HOL.out.at0 hil
   obtain ⟨gl2, goff, hgl2, hgb, _, h6, h7, hc⟩ := (show Is wr (.slice la len9 lc) L from Sl.later HOL.out.is HB.out).at hil
   rw [hgl] at hgl2
   cases hgl2
   have cA := hc i hil
   rw [hA, Nat.zero_add] at cA
   obtain ⟨tb, off, hta, h8, h9, hty⟩ := HG.out.fd (by intro e; rw [e] at hAl; simp at hAl)
   have hB1r : Below w0.heap.size w0 wr := bstep HB1.out HB.out
   have HK : Hid (∀ W, Below wr.heap.size wr W → W.cell? ⟨w.heap.size, 0, none⟩ = some (.slice g.ta g.ts.length g.tc) ∧ W.cell? ⟨w.heap.size, 1, none⟩ = some (.slice (some ⟨tb, off, none⟩) g.fs.length g.fc) ∧ W.cell? ⟨w.heap.size, 2, none⟩ = some (.slice g.ma g.ms.length g.mc) ∧ W.cell? ⟨w.heap.size, 3, none⟩ = some (.int .i64 g.en) ∧ W.cell? ⟨gl, i, none⟩ = some (.int .i64 A) ∧ W.cell? ⟨tb, off + A * 7, none⟩ = some (.string g.fs[A].nm) ∧ W.cell? ⟨tb, off + A * 7 + 1, none⟩ = some (.int .i64 g.fs[A].ow) ∧ W.cell? ⟨tb, off + A * 7 + 2, none⟩ = some (.int .i64 g.fs[A].t.1) ∧ W.cell? ⟨tb, off + A * 7 + 3, none⟩ = some (.int .i64 g.fs[A].t.2.1) ∧ W.cell? ⟨tb, off + A * 7 + 4, none⟩ = some (.int .i64 g.fs[A].t.2.2.1) ∧ W.cell? ⟨tb, off + A * 7 + 5, none⟩ = some (.bool g.fs[A].t.2.2.2) ∧ W.cell? ⟨tb, off + A * 7 + 6, none⟩ = some (.bool g.fs[A].st)) := fun W hW => by
    have hz := hty W (bstep hB1r hW)
    have hq := (HG.out.later (bstep hB1r hW)).cells
    have h1 : W.cell? ⟨gl, i, none⟩ = some (.int .i64 A) := by rw [← cA]; exact hW.cell (p := ⟨gl, i, none⟩) hgb
    exact ⟨hq.1, hz.1, hq.2.2.1, hq.2.2.2, h1, (hz.2 A hAl).cells_F⟩
   have HKn : Hid (∀ W, Below wr.heap.size wr W → Calls Tryz.prog 26 #[.agg #[.slice g.ta g.ts.length g.tc, .slice (some ⟨tb, off, none⟩) g.fs.length g.fc, .slice g.ma g.ms.length g.mc, .int .i64 g.en], .int .i64 g.fs[A].t.2.1] W fun e w' => e = .returned (.int .i64 (kndI g g.fs[A].t.2.1)) ∧ Below W.heap.size W w') := fun W hW => by
    have := refKind_any g.fs[A].t.2.1 (HG.out.im.later (bstep hB1r hW)) (FlOk.of HI.out)
    unfold imV at this
    rw [hta] at this
    exact this
   unfold maxLen at h7 h9
   subst hgl
   clear hc hty hta cA hA hB1r
   obtain ⟨kv, hkv⟩ : ∃ k, k = kndI g g.fs[A].t.2.1 := ⟨_, rfl⟩
   rw [← hkv] at HPT HKn
   clear hkv
   generalize g.fs[A] = x at *
   obtain ⟨wA, hwA⟩ : ∃ W, W = (wr.alloc (.cells #[.string x.nm, .int .i64 x.ow, .int .i64 x.t.1, .int .i64 x.t.2.1, .int .i64 x.t.2.2.1, .bool x.t.2.2.2, .bool x.st] 50)).drew := ⟨_, rfl⟩
   have hbA : Below wr.heap.size wr wA := by rw [hwA]; exact Below.drewN (made_below _ _ _) 1
   have hAA : At wA wr.heap.size #[.string x.nm, .int .i64 x.ow, .int .i64 x.t.1, .int .i64 x.t.2.1, .int .i64 x.t.2.2.1, .bool x.t.2.2.2, .bool x.st] 50 := by rw [hwA]; exact At.made _ _ _
   have HBA : Hid (Below wr.heap.size wr wA) := hbA
   have HWA : Hid (wA = _) := hwA
   have HAA : Hid (∀ W, Below wA.heap.size wA W → At W wr.heap.size #[.string x.nm, .int .i64 x.ow, .int .i64 x.t.1, .int .i64 x.t.2.1, .int .i64 x.t.2.2.1, .bool x.t.2.2.2, .bool x.st] 50) := fun W hW => hAA.later hW
   have a0 := hAA.cell
   obtain ⟨e0, e1, e2, e3, e4, e5, e6, e7, e8, e9, e10, e11⟩ := HK.out wr (Below.refl _ _)
   obtain ⟨f0, f1, f2, f3, _⟩ := HK.out wA hbA
   clear hwA hbA hAA
   go_wp2_with fail
   go_region_held3 (fun W : World => W.cell? ⟨w.heap.size, 0, none⟩ = some (.slice g.ta g.ts.length g.tc) ∧ W.cell? ⟨w.heap.size, 1, none⟩ = some (.slice (some ⟨tb, off, none⟩) g.fs.length g.fc) ∧ W.cell? ⟨w.heap.size, 2, none⟩ = some (.slice g.ma g.ms.length g.mc) ∧ W.cell? ⟨w.heap.size, 3, none⟩ = some (.int .i64 g.en) ∧ W.cell? ⟨gl, i, none⟩ = some (.int .i64 A) ∧ W.cell? ⟨tb, off + A * 7, none⟩ = some (.string x.nm) ∧ W.cell? ⟨tb, off + A * 7 + 1, none⟩ = some (.int .i64 x.ow) ∧ W.cell? ⟨tb, off + A * 7 + 2, none⟩ = some (.int .i64 x.t.1) ∧ W.cell? ⟨tb, off + A * 7 + 3, none⟩ = some (.int .i64 x.t.2.1) ∧ W.cell? ⟨tb, off + A * 7 + 4, none⟩ = some (.int .i64 x.t.2.2.1) ∧ W.cell? ⟨tb, off + A * 7 + 5, none⟩ = some (.bool x.t.2.2.2) ∧ W.cell? ⟨tb, off + A * 7 + 6, none⟩ = some (.bool x.st))
    (first | (exact HK.out _ (bdrew _)) | (exact HK.out _ (bbox (bdrew _) _)))
    (fail)
   rename_i hheld
   clear hheld e0 e1 e2 e3 e4 e5 e6 e7 e8 e9 e10 e11
   rw [← HWA.out]
   have HOA : Hid (OwnI wA w1.heap.size u5 (((L.take i).filter (prtB g)).map (fun i => (fvtI g i).2.1))) := OwnI.later HO.out HBA.out
   have HBA1 : Hid (Below w1.heap.size w1 wA) := bstep HB.out HBA.out
   clear HO
   cases hst : x.st with
   | true =>
    have HP2 : Hid (((L.take (i + 1)).filter (prtB g)).map (fun i => (fvtI g i).2.1) = ((L.take i).filter (prtB g)).map (fun i => (fvtI g i).2.1)) := by show _ = _; rw [HPT.out, hst]; simp
    rw [hst] at a0
    clear hst HPT
    go_wp2_with fail
    go_roundw
    case rel => exact ⟨i + 1, by omega, by go_num, by rw [HP2.out]; exact HOA.out, HBA1.out⟩
    case measure => simp [intOf]; omega
   | false =>
    rw [hst] at a0 HPT
    clear hst
    by_cases h6 : x.t.1 = 6
    ·have h6b : (x.t.1 == 6) = true := by simpa using h6
     by_cases hd : x.t.2.2.1 = 0
     ·have hdb : (x.t.2.2.1 == 0) = true := by simpa using hd
      have HP1 : Hid (((L.take (i + 1)).filter (prtB g)).map (fun i => (fvtI g i).2.1) = ((L.take i).filter (prtB g)).map (fun i => (fvtI g i).2.1) ++ (if kv = 1 then [x.t.2.1] else [])) := by show _ = _; rw [HPT.out, decide_eq_true h6, decide_eq_true hd]; simp
      clear h6 hd HPT
      go_wp2_with fail
      refine Calls.mono (HKn.out wA HBA.out) ?_
      rintro e w3 ⟨rfl, hb3⟩
      have HO3 : Hid (OwnI w3 w1.heap.size u5 (((L.take i).filter (prtB g)).map (fun i => (fvtI g i).2.1))) := OwnI.later HOA.out hb3
      have HB3 : Hid (Below w1.heap.size w1 w3) := bstep HBA1.out hb3
      have hx3 : w3.cell? ⟨wr.heap.size, 3, none⟩ = some (.int .i64 x.t.2.1) := (HAA.out w3 hb3).cell 3
      clear hb3 a0 f0 f1 f2 f3 HOA HBA1 HKn
      by_cases hk1 : kv = 1
      ·subst hk1
       have HP2 : Hid (((L.take (i + 1)).filter (prtB g)).map (fun i => (fvtI g i).2.1) = ((L.take i).filter (prtB g)).map (fun i => (fvtI g i).2.1) ++ [x.t.2.1]) := by show _ = _; rw [HP1.out, if_pos rfl]
       clear HP1
       go_wp2_with (at_builtin; go_must (refine wpList_append_int (v := u5) rfl (.tmp 49) (.tmp 53) rfl w1.heap.size rfl rfl (HO3.out.later (made_below _ _ _)) (one_int w3 x.t.2.1 _ rfl) (by have := HPL.out; omega) (Nat.le_trans HB3.out.size (made_below _ _ _).size) ?_; intro v5 w5 ho5 hg5; have hB5 := (bbox HB3.out _).trans (grown_below11 (HO3.out.later (made_below _ _ _)) hg5 (Nat.le_refl _) (Nat.le_trans HB3.out.size (made_below _ _ _).size))))
       go_roundw
       case rel => exact ⟨i + 1, by omega, by go_num, by rw [HP2.out]; exact ho5, hB5⟩
       case measure => simp [intOf]; omega
      ·have hkb : (kv == 1) = false := by simpa using hk1
       have HP2 : Hid (((L.take (i + 1)).filter (prtB g)).map (fun i => (fvtI g i).2.1) = ((L.take i).filter (prtB g)).map (fun i => (fvtI g i).2.1)) := by show _ = _; rw [HP1.out, if_neg hk1, List.append_nil]
       clear HP1 hk1
       go_wp2_with fail
       go_roundw
       case rel => exact ⟨i + 1, by omega, by go_num, by rw [HP2.out]; exact HO3.out, HB3.out⟩
       case measure => simp [intOf]; omega
     ·have hdb : (x.t.2.2.1 == 0) = false := by simpa using hd
      have HP2 : Hid (((L.take (i + 1)).filter (prtB g)).map (fun i => (fvtI g i).2.1) = ((L.take i).filter (prtB g)).map (fun i => (fvtI g i).2.1)) := by show _ = _; rw [HPT.out, decide_eq_false hd]; simp
      clear HPT hd
      go_wp2_with fail
      go_roundw
      case rel => exact ⟨i + 1, by omega, by go_num, by rw [HP2.out]; exact HOA.out, HBA1.out⟩
      case measure => simp [intOf]; omega
    ·have h6b : (x.t.1 == 6) = false := by simpa using h6
     have HP2 : Hid (((L.take (i + 1)).filter (prtB g)).map (fun i => (fvtI g i).2.1) = ((L.take i).filter (prtB g)).map (fun i => (fvtI g i).2.1)) := by show _ = _; rw [HPT.out, decide_eq_false h6]; simp
     clear HPT h6
     go_wp2_with fail
     go_roundw
     case rel => exact ⟨i + 1, by omega, by go_num, by rw [HP2.out]; exact HOA.out, HBA1.out⟩
     case measure => simp [intOf]; omega
  ·have hii : ¬ (i : Int) < (len9 : Int) := by omega
   have HPE : Hid (((L.take i).filter (prtB g)).map (fun i => (fvtI g i).2.1) = prtL g t) := by show _ = _; rw [List.take_of_length_le (by omega), HLE.out]; rfl
   go_wp2_with fail
   go_ret
   exact ⟨_, rfl, by rw [← HPE.out]; exact HO.out.mono (Nat.le_trans HB0.out.size HB1.out.size), bstep HB0.out (bstep HB1.out HB.out)⟩
end Go.Proofs.YtkjailahaopehaaGreat
