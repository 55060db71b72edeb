/- Texts joined: RefCells12. -/
import Derived.Test.YtkjailahaopehaaGreatQ16
import Derived.Test.YtkjailahaopehaaGreatQ21
import Derived.Test.YtkjailahaopehaaGreatQ22
import Derived.Test.YtkjailahaopehaaGreatQ39
import Derived.Deep.RegionHeld3
import Derived.Deep.QuietTactic
import Derived.BigQuiet
namespace Go.Proofs.YtkjailahaopehaaGreat
set_option linter.unusedVariables false
set_option linter.unusedSimpArgs false
open Go.RowKit
attribute [local go_sem ↓] Go.wp_at_zero Go.wp_at_succ
/-- The cells of a type's own fields, so many of all. -/
def ownP (g : Img) (t : Int) (i : Nat) : List Ty := ((g.fs.take i).filter (ownF t)).flatMap (fun x => celL g x.t)
theorem ownP_take {g : Img} {t : Int} {i : Nat} (hi : i < g.fs.length) : ownP g t (i + 1) = ownP g t i ++ (if ownF t g.fs[i] = true then celL g g.fs[i].t else []) := by
 unfold ownP
 rw [List.take_succ_eq_append_getElem hi, List.filter_append, List.flatMap_append]
 congr 1
 cases h : ownF t g.fs[i] <;> simp [List.filter_cons, h]
theorem ownP_all {g : Img} {t : Int} {i : Nat} (hi : g.fs.length ≤ i) : ownP g t i = ownC g t := by
 unfold ownP ownC hldL
 rw [List.take_of_length_le hi, List.flatMap_map]
theorem ownP_len {g : Img} (F : Fin_ g) (t : Int) (i : Nat) : (ownP g t i).length ≤ 512 := by
 have h1 := fmc_len (g := g) ((g.fs.take i).filter (ownF t)) (fun y hy => F.cel8 (F.used y (List.mem_of_mem_take (List.mem_filter.1 hy).1)))
 have h2 := List.length_filter_le (ownF t) (g.fs.take i)
 rw [List.length_take] at h2
 have h3 := (im_len F.wu.im).2.1
 unfold ownP
 omega
theorem ownF_hld {g : Img} {t : Int} {i : Nat} (hi : i < g.fs.length) (h : ownF t g.fs[i] = true) : g.fs[i].t ∈ hldL g t := by
 unfold hldL
 rw [List.mem_map]
 exact ⟨_, List.mem_filter.2 ⟨List.getElem_mem hi, h⟩, rfl⟩
theorem ownF_false1 {t : Int} {x : FD} (h : (x.ow == t) = false) : ownF t x = false := by unfold ownF; rw [beq_eq_false_iff_ne] at h; simp [h]
theorem ownF_false2 {t : Int} {x : FD} (h : x.st = true) : ownF t x = false := by unfold ownF; simp [h]
theorem ownF_true {t : Int} {x : FD} (h : (x.ow == t) = true) (h2 : x.st = false) : ownF t x = true := by unfold ownF; rw [beq_iff_eq] at h; simp [h, h2]

set_option maxHeartbeats 4000000 in
theorem refCells_whole {g : Img} {t : Ty} {w : World} (hg : Im w g) (hw : whlB t = true) : AnsT 22 #[imA4 g, .agg #[.int .i64 t.1, .int .i64 t.2.1, .int .i64 t.2.2.1, .bool t.2.2.2]] w (oneL t) := by
 obtain ⟨w0, HW0, HB0, HC, HI⟩ := img_type_head hg t
 obtain ⟨⟨c0, c1, c2, c3⟩, d0, d1, d2, d3⟩ := HC.out w0 (Below.refl _ _)
 have HWh : Hid (Ans 42 #[.agg #[.int .i64 t.1, .int .i64 t.2.1, .int .i64 t.2.2.1, .bool t.2.2.2]] w0 (.bool (whlB t))) := refWhole_any t w0
 rw [hw] at HWh
 clear HI hg hw
 unfold imA4
 obtain ⟨k, i, d, r⟩ := t
 simp only at *
 by_cases h1 : k = 1
 ·subst h1
  go_enter Tryz.func22, Tryz.ntmps22
  go_wp2_with (rw [← HW0.out])
  go_ret
  exact ⟨_, rfl, OwnE.nil _ _ _ _, HB0.out⟩
 ·have HO : Hid (oneL (k, i, d, r) = [(k, i, d, r)]) := by show _ = _; unfold oneL; rw [if_neg h1]
  have e1 : (k == 1) = false := by simpa using h1
  clear h1
  go_enter Tryz.func22, Tryz.ntmps22
  go_wp2_with (rw [← HW0.out])
  refine Calls.mono HWh.out ?_
  rintro e w1 ⟨rfl, hb1⟩
  have HB1 : Hid (Below w.heap.size w w1) := bstep HB0.out hb1
  have hs01 : w.heap.size ≤ w1.heap.size := HB1.out.size
  clear c0 c1 c2 c3 d0 d1 d2 d3
  obtain ⟨⟨c0, c1, c2, c3⟩, d0, d1, d2, d3⟩ := HC.out w1 hb1
  have HS1 : Hid (w.heap.size ≤ w1.heap.size) := hs01
  clear hb1 HWh hs01
  go_wp2_with (at_builtin; go_must (refine wpList_append_es tyE rfl (.tmp 13) (.tmp 15) 39 rfl w.heap.size 37 _ 32 Tryz.underlying39 Tryz.info12Y rfl rfl rfl (OwnE.nil tyE _ _ _) (one_ty w1 (k, i, d, r)) (by simp [maxLen]) (by simp) (Nat.le_trans HS1.out (made_below _ _ _).size) ?_; intro v5 w5 ho5 hg5; have hB5 := (bbox HB1.out _).trans (grown_belowE (OwnE.nil tyE _ w.heap.size 37) hg5 (Nat.le_refl _) (Nat.le_trans HS1.out (made_below _ _ _).size))))
  go_ret
  exact ⟨_, rfl, by rw [HO.out]; exact ho5, hB5⟩

set_option maxHeartbeats 8000000 in
set_option maxRecDepth 20000 in
theorem refCells_step {g : Img} (F : Fin_ g) {t : Int} {w : World} (hg : Im w g) (hk : kndI g t = 1)
  (IH : ∀ y W, Im W g → y ∈ hldL g t → AnsT 22 #[imA4 g, .agg #[.int .i64 y.1, .int .i64 y.2.1, .int .i64 y.2.2.1, .bool y.2.2.2]] W (celL g y)) :
  AnsT 22 #[imA4 g, .agg #[.int .i64 6, .int .i64 t, .int .i64 0, .bool false]] w (orI (ownC g t)) := by
 obtain ⟨w0, HW0, HB0, HC, HI⟩ := img_type_head hg (6, t, 0, false)
 have hfl := hg.fs.len
 unfold maxLen at hfl
 have HWh : Hid (Ans 42 #[.agg #[.int .i64 6, .int .i64 t, .int .i64 0, .bool false]] w0 (.bool false)) := refWhole_any (6, t, 0, false) w0
 have HFs : Hid (∀ W, Below w0.heap.size w0 W → Es fdE W (.slice g.fa g.fs.length g.fc) g.fs) := fun W hW => (HI.out W hW).fs
 have HC4 : Hid (∀ W, Below w0.heap.size w0 W → Im4 W w.heap.size g) := fun W hW => (HC.out W hW).1
 have HD : Hid (∀ W, Below w0.heap.size w0 W → W.cell? ⟨w.heap.size + 1, 1, none⟩ = some (.int .i64 t)) := fun W hW => (HC.out W hW).2.2.1
 have HCe : Hid (∀ W (i : Nat) (h : i < g.fs.length), Below w0.heap.size w0 W → ownF t g.fs[i] = true → AnsT 22 #[imA4 g, .agg #[.int .i64 g.fs[i].t.1, .int .i64 g.fs[i].t.2.1, .int .i64 g.fs[i].t.2.2.1, .bool g.fs[i].t.2.2.2]] W (celL g g.fs[i].t)) := fun W i h hW ho => IH _ W (HI.out W hW) (ownF_hld h ho)
 have HOl : Hid (∀ i, (ownP g t i).length ≤ 512) := ownP_len F t
 obtain ⟨⟨c0, c1, c2, c3⟩, d0, d1, d2, d3⟩ := HC.out w0 (Below.refl _ _)
 unfold imA4 at HCe ⊢
 unfold Im4 at HC4
 simp only at *
 generalize g.fa = fa at *
 clear hg HC HI IH F
 go_enter Tryz.func22, Tryz.ntmps22
 go_wp2_with (rw [← HW0.out])
 refine Calls.mono HWh.out ?_
 rintro e w1 ⟨rfl, hb1⟩
 have HB1 : Hid (Below w0.heap.size w0 w1) := hb1
 clear hb1 HWh c0 c1 c2 c3 d0 d1 d2 d3
 go_wp2_with fail
 go_loopw [5, 6] (fun lv z wr => ∃ i : Nat, i ≤ g.fs.length ∧ z = .int .i64 i ∧ Hid (OwnE tyE wr w1.heap.size 37 lv (ownP g t i)) ∧ Hid (Below w1.heap.size w1 wr)) (fun _ z _ => g.fs.length - (intOf z).toNat)
 case atStart => exact ⟨0, Nat.zero_le _, rfl, OwnE.nil _ _ _ _, Below.refl _ _⟩
 case round =>
  obtain ⟨i, hi, rfl, HO, HB⟩ := hrel
  obtain ⟨oa, oc, hov, _, hoc⟩ := HO.out.shape
  subst hov
  unfold maxLen at hoc
  have hB01 : Below w0.heap.size w0 wr := bstep HB1.out HB.out
  have HB01 : Hid (Below w0.heap.size w0 wr) := hB01
  by_cases hil : i < g.fs.length
  ·have hii : (i : Int) < (g.fs.length : Int) := by omega
   obtain ⟨tb, off, hla, _, hel⟩ := (HFs.out w0 (Below.refl _ _)).elAll (by intro e; rw [e] at hil; simp at hil)
   subst hla
   have HEl : Hid (∀ W, Below w0.heap.size w0 W → El fdE W tb (off + i * 7) g.fs[i]) := fun W hW => hel W hW i hil
   have HT : Hid (ownP g t (i + 1) = ownP g t i ++ (if ownF t g.fs[i] = true then celL g g.fs[i].t else [])) := ownP_take hil
   have HL1 : (ownP g t i).length ≤ 512 := HOl.out i
   have HL2 := HOl.out (i + 1)
   rw [HT.out, List.length_append] at HL2
   have HCq : Hid (ownF t g.fs[i] = true → ∀ W, Below w0.heap.size w0 W → AnsT 22 #[.agg #[.slice g.ta g.ts.length g.tc, .slice (some ⟨tb, off, none⟩) g.fs.length g.fc, .slice g.ma g.ms.length g.mc, .int .i64 g.en], .agg #[.int .i64 g.fs[i].t.1, .int .i64 g.fs[i].t.2.1, .int .i64 g.fs[i].t.2.2.1, .bool g.fs[i].t.2.2.2]] W (celL g g.fs[i].t)) := fun ho W hW => HCe.out W i hil hW ho
   clear hel
   generalize g.fs[i] = x at *
   have HK : Hid (∀ W, Below w1.heap.size w1 W → (W.cell? ⟨w.heap.size, 0, none⟩ = some (.slice g.ta g.ts.length g.tc) ∧ W.cell? ⟨w.heap.size, 1, none⟩ = some (.slice (some ⟨tb, off, none⟩) g.fs.length g.fc) ∧ W.cell? ⟨w.heap.size, 2, none⟩ = some (.slice g.ma g.ms.length g.mc) ∧ W.cell? ⟨w.heap.size, 3, none⟩ = some (.int .i64 g.en)) ∧ W.cell? ⟨w.heap.size + 1, 1, none⟩ = some (.int .i64 t) ∧ W.cell? ⟨tb, off + i * 7, none⟩ = some (.string x.nm) ∧ W.cell? ⟨tb, off + i * 7 + 1, none⟩ = some (.int .i64 x.ow) ∧ W.cell? ⟨tb, off + i * 7 + 2, none⟩ = some (.int .i64 x.t.1) ∧ W.cell? ⟨tb, off + i * 7 + 3, none⟩ = some (.int .i64 x.t.2.1) ∧ W.cell? ⟨tb, off + i * 7 + 4, none⟩ = some (.int .i64 x.t.2.2.1) ∧ W.cell? ⟨tb, off + i * 7 + 5, none⟩ = some (.bool x.t.2.2.2) ∧ W.cell? ⟨tb, off + i * 7 + 6, none⟩ = some (.bool x.st)) := fun W hW => ⟨HC4.out W (bstep HB1.out hW), HD.out W (bstep HB1.out hW), (HEl.out W (bstep HB1.out hW)).cells_F⟩
   obtain ⟨⟨c0, c1, c2, c3⟩, d1, k0, k1, k2, k3, k4, k5, k6⟩ := HK.out wr HB.out
   clear hB01
   have HF1 : Hid ((x.ow == t) = false → ownF t x = false) := ownF_false1
   have HF2 : Hid (x.st = true → ownF t x = false) := ownF_false2
   have HF3 : Hid ((x.ow == t) = true → x.st = false → ownF t x = true) := ownF_true
   cases hob : (x.ow == t) with
   | false =>
    have HT2 : Hid (ownP g t (i + 1) = ownP g t i) := by show _ = _; rw [HT.out, HF1.out hob]; simp
    clear HT HL2 HF1 HF2 HF3
    generalize ownP g t i = P at *
    go_wp2_with fail
    go_quiet (fail)
    go_wp2_with fail
    go_roundw
    case rel => exact ⟨i + 1, by omega, by go_num, by rw [HT2.out]; exact HO.out.later (Below.drewN (Below.refl _ _) _), Below.drewN HB.out _⟩
    case measure => simp [intOf]; omega
   | true =>
    cases hst : x.st with
    | true =>
     have HT2 : Hid (ownP g t (i + 1) = ownP g t i) := by show _ = _; rw [HT.out, HF2.out hst]; simp
     rw [hst] at k6
     clear HT HL2 HF1 HF2 HF3 hst
     generalize ownP g t i = P at *
     go_wp2_with fail
     go_quiet (fail)
     go_wp2_with fail
     go_roundw
     case rel => exact ⟨i + 1, by omega, by go_num, by rw [HT2.out]; exact HO.out.later (Below.drewN (Below.refl _ _) _), Below.drewN HB.out _⟩
     case measure => simp [intOf]; omega
    | false =>
     have hown : ownF t x = true := HF3.out hob hst
     have HT2 : Hid (ownP g t (i + 1) = ownP g t i ++ celL g x.t) := by show _ = _; rw [HT.out, hown, if_pos rfl]
     rw [hown, if_pos rfl] at HL2
     have HCr : Hid (∀ W, Below w0.heap.size w0 W → AnsT 22 #[.agg #[.slice g.ta g.ts.length g.tc, .slice (some ⟨tb, off, none⟩) g.fs.length g.fc, .slice g.ma g.ms.length g.mc, .int .i64 g.en], .agg #[.int .i64 x.t.1, .int .i64 x.t.2.1, .int .i64 x.t.2.2.1, .bool x.t.2.2.2]] W (celL g x.t)) := HCq.out hown
     rw [hst] at k6 HK
     clear HT HF1 HF2 HF3 hst hown HCq
     generalize ownP g t i = P at *
     generalize celL g x.t = C at *
     go_wp2_with fail
     go_quiet (fail)
     have HB4 : Hid (Below w1.heap.size w1 (wr.drewN nq)) := Below.drewN HB.out nq
     have HO4 : Hid (OwnE tyE (wr.drewN nq) w1.heap.size 37 (.slice oa P.length oc) P) := HO.out.later (Below.drewN (Below.refl _ _) _)
     clear c0 c1 c2 c3 d1 k0 k1 k2 k3 k4 k5 k6
     revert HB4 HO4
     generalize wr.drewN nq = w4
     intro HB4 HO4
     obtain ⟨⟨c0, c1, c2, c3⟩, d1, k0, k1, k2, k3, k4, k5, k6⟩ := HK.out w4 HB4.out
     go_wp2_with fail
     go_region_held3 (fun W : World => (W.cell? ⟨w.heap.size, 0, none⟩ = some (.slice g.ta g.ts.length g.tc) ∧ W.cell? ⟨w.heap.size, 1, none⟩ = some (.slice (some ⟨tb, off, none⟩) g.fs.length g.fc) ∧ W.cell? ⟨w.heap.size, 2, none⟩ = some (.slice g.ma g.ms.length g.mc) ∧ W.cell? ⟨w.heap.size, 3, none⟩ = some (.int .i64 g.en)) ∧ W.cell? ⟨w.heap.size + 1, 1, none⟩ = some (.int .i64 t) ∧ W.cell? ⟨tb, off + i * 7, none⟩ = some (.string x.nm) ∧ W.cell? ⟨tb, off + i * 7 + 1, none⟩ = some (.int .i64 x.ow) ∧ W.cell? ⟨tb, off + i * 7 + 2, none⟩ = some (.int .i64 x.t.1) ∧ W.cell? ⟨tb, off + i * 7 + 3, none⟩ = some (.int .i64 x.t.2.1) ∧ W.cell? ⟨tb, off + i * 7 + 4, none⟩ = some (.int .i64 x.t.2.2.1) ∧ W.cell? ⟨tb, off + i * 7 + 5, none⟩ = some (.bool x.t.2.2.2) ∧ W.cell? ⟨tb, off + i * 7 + 6, none⟩ = some (.bool false))
      (first | (exact HK.out _ hBd) | (exact HK.out _ (bstep HB4.out hBc)) | (exact HK.out _ (bstep HB4.out (bdrew _))))
      (first | (go_at_call 22; refine (HCr.out _ (bstep HB1.out (bstep HB4.out (bdrew _)))).mono ?_; rintro e w3 ⟨yv, rfl, hy, hb3⟩; have hBc : Below w4.heap.size w4 w3 := bstep (bdrew _) hb3) | (refine step_append_es tyE rfl (.tmp 43) (.tmp 51) 39 rfl w1.heap.size 37 _ 32 Tryz.underlying39 Tryz.info12Y rfl (by simp [Act.eval, Act.put]) (by simp [Act.eval, Act.put]) (HO4.out.later hBc) hy.es (by unfold maxLen; omega) (by omega) (bstep HB4.out hBc).size ?_; intro v5 w5 ho5 hg5; have hBd : Below w1.heap.size w1 w5 := (bstep HB4.out hBc).trans (grown_belowE (HO4.out.later hBc) hg5 (Nat.le_refl _) (bstep HB4.out hBc).size)))
     rename_i hheld
     clear hheld
     clear hy hb3 hBc c0 c1 c2 c3 d1 k0 k1 k2 k3 k4 k5 k6 HK HCr
     go_wp2_with fail
     go_roundw
     case rel => exact ⟨i + 1, by omega, by go_num, by rw [HT2.out]; exact ho5, hBd⟩
     case measure => simp [intOf]; omega
  ·have hii : ¬ (i : Int) < (g.fs.length : Int) := by omega
   have HE : Hid (ownP g t i = ownC g t) := ownP_all (by omega)
   obtain ⟨P, hP⟩ : ∃ P, P = ownP g t i := ⟨_, rfl⟩
   rw [← hP] at HE HO
   have HL1 : P.length ≤ 512 := by rw [hP]; exact HOl.out i
   rw [← hP]
   clear hP hB01
   obtain ⟨c0, c1, c2, c3⟩ := HC4.out wr HB01.out
   by_cases hz : P.length = 0
   ·have hzi : (P.length : Int) = 0 := by omega
    have h0 : P = [] := List.eq_nil_of_length_eq_zero hz
    have HFin : Hid (orI (ownC g t) = [intT]) := by show _ = _; rw [← HE.out, h0]; rfl
    have HOn : Hid (∀ v, v = .slice oa P.length oc → OwnE tyE wr w1.heap.size 37 v []) := fun v hv => by rw [hv]; have := HO.out; rw [h0] at this ⊢; exact this
    subst h0
    clear hz
    go_wp2_with (at_builtin; go_must (refine wpList_append_es tyE rfl (.tmp 56) (.tmp 58) 39 rfl w1.heap.size 37 _ 32 Tryz.underlying39 Tryz.info12Y rfl rfl rfl (OwnE.later (HOn.out _ rfl) (made_below _ _ _)) (one_ty wr intT) (by simp [maxLen]) (by simp) (Nat.le_trans HB.out.size (made_below _ _ _).size) ?_; intro v5 w5 ho5 hg5; have hB5 := (bbox HB.out _).trans (grown_belowE (OwnE.later (HOn.out _ rfl) (made_below _ _ _)) hg5 (Nat.le_refl _) (Nat.le_trans HB.out.size (made_below _ _ _).size))))
    go_ret
    exact ⟨_, rfl, by rw [HFin.out]; exact ho5.mono (Nat.le_trans HB0.out.size HB1.out.size), bstep HB0.out (bstep HB1.out hB5)⟩
   ·have hzi : ¬ (P.length : Int) = 0 := by omega
    have HFin : Hid (orI (ownC g t) = P) := by
     show _ = _
     rw [← HE.out]; unfold orI
     rw [if_neg (by intro e; rw [e] at hz; exact hz rfl)]
    clear hz
    go_wp2_with fail
    go_ret
    exact ⟨_, rfl, by rw [HFin.out]; exact HO.out.mono (Nat.le_trans HB0.out.size HB1.out.size), bstep HB0.out (bstep HB1.out HB.out)⟩

theorem refCells_k {g : Img} (F : Fin_ g) : ∀ (k : Nat) (t : Ty) (w : World), Im w g → usdB g t = true → dpB g k t = true → AnsT 22 #[imA4 g, .agg #[.int .i64 t.1, .int .i64 t.2.1, .int .i64 t.2.2.1, .bool t.2.2.2]] w (celL g t)
 | k, t, w, hg, hu, hd => by
  cases hw : whlB t with
  | true => rw [cel_whole hw]; exact refCells_whole hg hw
  | false =>
   obtain ⟨v1, v2, v3, v4, v5⟩ := usd_val hu hw
   cases k with
   | zero => unfold dpB at hd; rw [hw] at hd; cases hd
   | succ k =>
    have h1 : (hldL g t.2.1).all (dpB g k) = true := by
     unfold dpB at hd; rw [hw] at hd; simpa using hd
    rw [List.all_eq_true] at h1
    rw [cel_value F.used F.valA hu hw]
    have e : t = (6, t.2.1, 0, false) := by
     obtain ⟨a, b, c, d⟩ := t
     simp only at v1 v2 v3
     subst v1 v2 v3
     rfl
    have := refCells_step F hg v4 (fun y W hW hy => refCells_k F k y W hW (F.used.hld hy) (h1 y hy))
    rw [e]; exact this
theorem refCells_any {g : Img} (F : Fin_ g) {t : Ty} {w : World} (hg : Im w g) (hu : usdB g t = true) : AnsT 22 #[imA4 g, .agg #[.int .i64 t.1, .int .i64 t.2.1, .int .i64 t.2.2.1, .bool t.2.2.2]] w (celL g t) :=
 refCells_k F g.ts.length t w hg hu (dp_all F.used F.valA hu)
end Go.Proofs.YtkjailahaopehaaGreat
