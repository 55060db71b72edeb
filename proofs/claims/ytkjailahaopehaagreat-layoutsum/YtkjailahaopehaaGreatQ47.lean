/- Texts joined: Long10, LayLaw12, LayLike. -/
import Derived.Test.YtkjailahaopehaaGreatQ34
import Derived.Test.YtkjailahaopehaaGreatQ09
import Derived.Test.YtkjailahaopehaaGreatQ40
import Derived.Test.YtkjailahaopehaaGreatQ46
import Derived.Test.YtkjailahaopehaaGreatQ16
namespace Go.Proofs.YtkjailahaopehaaGreat
set_option linter.unusedVariables false
set_option linter.unusedSimpArgs false
open Go.RowKit
attribute [local go_sem ↓] Go.wp_at_zero Go.wp_at_succ
def longT (x : TD) : Bool := decide (20 < x.fs.length) || decide (100 < x.nm.size)
def longM (x : MD) : Bool := decide (30 < x.ps.length) || decide (30 < x.ls.length) || decide (200 < x.co.length) || decide (20 < x.cl.length) || decide (100 < x.nm.size)
def longI (g : Img) : Bool := decide (40 < g.ts.length) || decide (80 < g.fs.length) || decide (80 < g.ms.length) || (g.ts.any longT || g.ms.any longM)
theorem any_step {α : Type} {p : α → Bool} {l : List α} {q : Nat} (hq : q < l.length) (h : (l.take q).any p = false) (hx : p l[q] = false) : (l.take (q + 1)).any p = false := by
 rw [List.take_succ_eq_append_getElem hq, List.any_append, h]; simpa using hx
theorem any_yes {α : Type} {p : α → Bool} {l : List α} {q : Nat} (hq : q < l.length) (hx : p l[q] = true) : l.any p = true := by
 rw [List.any_eq_true]; exact ⟨_, List.getElem_mem hq, hx⟩
theorem any_done {α : Type} {p : α → Bool} {l : List α} {q : Nat} (hq : ¬ q < l.length) (h : (l.take q).any p = false) : l.any p = false := by
 rwa [List.take_of_length_le (by omega)] at h

set_option maxHeartbeats 8000000 in
set_option maxRecDepth 100000 in
theorem longI_any {g : Img} {w : World} (hg : Im w g) :
  Calls Tryz.prog 10 #[imV g] w fun e w' => e = .returned (.bool (longI g)) ∧ Below w.heap.size w w' := by
 obtain ⟨w0, hw0⟩ : ∃ W, W = w.alloc (.cells #[.slice g.ta g.ts.length g.tc, .slice g.fa g.fs.length g.fc, .slice g.ma g.ms.length g.mc, .int .i64 g.en] 26) := ⟨_, rfl⟩
 have HW0 : Hid (w0 = _) := hw0
 have hb0 : Below w.heap.size w w0 := by rw [hw0]; exact made_below _ _ _
 have HB0 : Hid (Below w.heap.size w w0) := hb0
 have hA : At w0 w.heap.size #[.slice g.ta g.ts.length g.tc, .slice g.fa g.fs.length g.fc, .slice g.ma g.ms.length g.mc, .int .i64 g.en] 26 := by rw [hw0]; exact At.made _ _ _
 have HAT : Hid (∀ W, Below w0.heap.size w0 W → At W w.heap.size #[.slice g.ta g.ts.length g.tc, .slice g.fa g.fs.length g.fc, .slice g.ma g.ms.length g.mc, .int .i64 g.en] 26) := fun W hW => hA.later hW
 have HXt : Hid (∀ W, Below w0.heap.size w0 W → Es tdE W (.slice g.ta g.ts.length g.tc) g.ts) := fun W hW => hg.ts.later (bstep hb0 hW)
 have HXm : Hid (∀ W, Below w0.heap.size w0 W → Es mdE W (.slice g.ma g.ms.length g.mc) g.ms) := fun W hW => hg.ms.later (bstep hb0 hW)
 have htl := hg.ts.len
 have hfl := hg.fs.len
 have hml := hg.ms.len
 have HTl : Hid (∀ x ∈ g.ts, x.fs.length ≤ maxLen) := fun x hx => (hg.tok x hx).len
 have HMl : Hid (∀ x ∈ g.ms, x.ps.length ≤ maxLen ∧ x.ls.length ≤ maxLen ∧ x.co.length ≤ maxLen ∧ x.cl.length ≤ maxLen) := fun x hx => ⟨(hg.mok x hx).ps.len, (hg.mok x hx).ls.len, (hg.mok x hx).co.len, (hg.mok x hx).cl.len⟩
 unfold maxLen at htl hfl hml
 have c1 := hA.cell
 have HF : Hid (longI g = (decide (40 < g.ts.length) || decide (80 < g.fs.length) || decide (80 < g.ms.length) || (g.ts.any longT || g.ms.any longM))) := rfl
 clear hw0 hb0 hA hg
 unfold imV
 go_enter Tryz.func10, Tryz.ntmps10
 by_cases h1 : 40 < g.ts.length
 ·have i1 : (40 : Int) < (g.ts.length : Int) := by omega
  go_wp2_with (rw [← HW0.out])
  go_ret
  exact ⟨ret_bool (by rw [HF.out, decide_eq_true h1]; rfl), HB0.out⟩
 have i1 : ¬ (40 : Int) < (g.ts.length : Int) := by omega
 by_cases h2 : 80 < g.fs.length
 ·have i2 : (80 : Int) < (g.fs.length : Int) := by omega
  go_wp2_with (rw [← HW0.out])
  go_ret
  exact ⟨ret_bool (by rw [HF.out, decide_eq_true h2]; simp), HB0.out⟩
 have i2 : ¬ (80 : Int) < (g.fs.length : Int) := by omega
 by_cases h3 : 80 < g.ms.length
 ·have i3 : (80 : Int) < (g.ms.length : Int) := by omega
  go_wp2_with (rw [← HW0.out])
  go_ret
  exact ⟨ret_bool (by rw [HF.out, decide_eq_true h3]; simp), HB0.out⟩
 have i3 : ¬ (80 : Int) < (g.ms.length : Int) := by omega
 have HG : Hid (longI g = (g.ts.any longT || g.ms.any longM)) := by show _ = _; rw [HF.out, decide_eq_false h1, decide_eq_false h2, decide_eq_false h3]; rfl
 clear HF h1 h2 h3
 go_wp2_with (rw [← HW0.out])
 go_loopw [3] (fun z wr => ∃ q : Nat, q ≤ g.ts.length ∧ z = .int .i64 q ∧ wr = w0 ∧ Hid ((g.ts.take q).any longT = false)) (fun z _ => g.ts.length - (intOf z).toNat)
 case atStart => exact ⟨0, Nat.zero_le _, rfl, rfl, by show _ = _; simp⟩
 case round =>
  obtain ⟨q, hq, rfl, rfl, HA⟩ := hrel
  by_cases hql : q < g.ts.length
  ·obtain ⟨b, off, hfa, hb, h6, h7, hc⟩ := (HXt.out _ (Below.refl _ _)).at hql
   obtain ⟨k0, k1, k2, k3⟩ := (show El tdE _ b (off + q * 4) g.ts[q] from hc q hql).cells_T
   have HY : Hid (longT g.ts[q] = false → (g.ts.take (q + 1)).any longT = false) := fun h => any_step hql HA.out h
   have HN : Hid (longT g.ts[q] = true → longI g = true) := fun h => by rw [HG.out, any_yes hql h]; rfl
   have hyl := HTl.out _ (List.getElem_mem hql)
   generalize g.ts[q] = y at *
   unfold maxLen at h7 hyl
   rw [hfa] at c1
   clear hfa hc
   by_cases g1 : 20 < y.fs.length
   ·have g1' : (20 : Int) < (y.fs.length : Int) := by omega
    have HBad : Hid (longI g = true) := HN.out (by unfold longT; rw [decide_eq_true g1]; rfl)
    go_wp2_with fail
    go_ret
    exact ⟨ret_bool HBad.out.symm, HB0.out⟩
   have g1' : ¬ (20 : Int) < (y.fs.length : Int) := by omega
   by_cases g2 : 100 < y.nm.size
   ·have g2' : (100 : Int) < (y.nm.size : Int) := by omega
    have HBad : Hid (longI g = true) := HN.out (by unfold longT; rw [decide_eq_true g2]; simp)
    go_wp2_with fail
    go_ret
    exact ⟨ret_bool HBad.out.symm, HB0.out⟩
   have g2' : ¬ (100 : Int) < (y.nm.size : Int) := by omega
   have HY2 : Hid _ := HY.out (by unfold longT; rw [decide_eq_false g1, decide_eq_false g2]; rfl)
   clear HY HN
   go_wp2_with fail
   go_roundw
   case rel => exact ⟨q + 1, by omega, by go_num, by simp, HY2.out⟩
   case measure => simp [intOf]; omega
  have HG1 : Hid (longI g = g.ms.any longM) := by show _ = _; rw [HG.out, any_done hql HA.out]; rfl
  clear HA
  go_wp2_with fail
  clear c1
  obtain ⟨wo, rfl⟩ : ∃ wo, wo = wr := ⟨_, rfl⟩
  go_loopw [4] (fun z wr2 => ∃ q : Nat, q ≤ g.ms.length ∧ z = .int .i64 q ∧ Below wo.heap.size wo wr2 ∧ Hid ((g.ms.take q).any longM = false)) (fun z _ => g.ms.length - (intOf z).toNat)
  case atStart => exact ⟨0, Nat.zero_le _, rfl, Below.refl _ _, by show _ = _; simp⟩
  case round =>
   obtain ⟨q, hq, rfl, hB, HA⟩ := hrel
   have HBr : Hid (Below wo.heap.size wo wr) := hB
   have c1 := (HAT.out wr hB).cell
   by_cases hql2 : q < g.ms.length
   ·obtain ⟨b, off, hfa, hb, h6, h7, hc⟩ := (HXm.out wr hB).at hql2
    obtain ⟨k0, k1, k2, k3, k4, k5, k6, k7, k8, k9, k10, k11⟩ := (show El mdE wr b (off + q * 12) g.ms[q] from hc q hql2).cells_M
    have HY : Hid (longM g.ms[q] = false → (g.ms.take (q + 1)).any longM = false) := fun h => any_step hql2 HA.out h
    have HN : Hid (longM g.ms[q] = true → longI g = true) := fun h => by rw [HG1.out, any_yes hql2 h]
    obtain ⟨y1, y2, y3, y4⟩ := HMl.out _ (List.getElem_mem hql2)
    generalize g.ms[q] = y at *
    unfold maxLen at h7 y1 y2 y3 y4
    rw [hfa] at c1
    obtain ⟨wA, hwA⟩ : ∃ W, W = wr.alloc (.cells (mdA y) 58) := ⟨_, rfl⟩
    have HWA : Hid (wA = _) := hwA
    have hbA : Below wr.heap.size wr wA := by rw [hwA]; exact made_below _ _ _
    have HBA : Hid (Below wo.heap.size wo wA) := bstep hB hbA
    have hAA : At wA wr.heap.size (mdA y) 58 := by rw [hwA]; exact At.made _ _ _
    have cA := hAA.cell
    unfold mdA at cA HWA
    clear hfa hc hwA hbA hAA hB
    by_cases g0 : 30 < y.ps.length
    ·have g0' : (30 : Int) < (y.ps.length : Int) := by omega
     have HBad : Hid (longI g = true) := HN.out (by unfold longM; rw [decide_eq_true g0]; rfl)
     clear HY HN
     go_wp2_with (rw [← HWA.out])
     go_ret
     exact ⟨ret_bool HBad.out.symm, bstep HB0.out HBA.out⟩
    have g0' : ¬ (30 : Int) < (y.ps.length : Int) := by omega
    by_cases g1 : 30 < y.ls.length
    ·have g1' : (30 : Int) < (y.ls.length : Int) := by omega
     have HBad : Hid (longI g = true) := HN.out (by unfold longM; rw [decide_eq_true g1]; simp)
     clear HY HN
     go_wp2_with (rw [← HWA.out])
     go_ret
     exact ⟨ret_bool HBad.out.symm, bstep HB0.out HBA.out⟩
    have g1' : ¬ (30 : Int) < (y.ls.length : Int) := by omega
    by_cases g2 : 200 < y.co.length
    ·have g2' : (200 : Int) < (y.co.length : Int) := by omega
     have HBad : Hid (longI g = true) := HN.out (by unfold longM; rw [decide_eq_true g2]; simp)
     clear HY HN
     go_wp2_with (rw [← HWA.out])
     go_ret
     exact ⟨ret_bool HBad.out.symm, bstep HB0.out HBA.out⟩
    have g2' : ¬ (200 : Int) < (y.co.length : Int) := by omega
    by_cases g3 : 20 < y.cl.length
    ·have g3' : (20 : Int) < (y.cl.length : Int) := by omega
     have HBad : Hid (longI g = true) := HN.out (by unfold longM; rw [decide_eq_true g3]; simp)
     clear HY HN
     go_wp2_with (rw [← HWA.out])
     go_ret
     exact ⟨ret_bool HBad.out.symm, bstep HB0.out HBA.out⟩
    have g3' : ¬ (20 : Int) < (y.cl.length : Int) := by omega
    by_cases g4 : 100 < y.nm.size
    ·have g4' : (100 : Int) < (y.nm.size : Int) := by omega
     have HBad : Hid (longI g = true) := HN.out (by unfold longM; rw [decide_eq_true g4]; simp)
     clear HY HN
     go_wp2_with (rw [← HWA.out])
     go_ret
     exact ⟨ret_bool HBad.out.symm, bstep HB0.out HBA.out⟩
    have g4' : ¬ (100 : Int) < (y.nm.size : Int) := by omega
    have HY2 : Hid _ := HY.out (by unfold longM; rw [decide_eq_false g0, decide_eq_false g1, decide_eq_false g2, decide_eq_false g3, decide_eq_false g4]; rfl)
    clear HY HN
    go_wp2_with (rw [← HWA.out])
    go_roundw
    case rel => exact ⟨q + 1, by omega, by go_num, HBA.out, HY2.out⟩
    case measure => simp [intOf]; omega
   have HNo : Hid (longI g = false) := by show _ = _; rw [HG1.out, any_done hql2 HA.out]
   clear HA hB
   go_wp2_with fail
   go_ret
   exact ⟨ret_bool HNo.out.symm, bstep HB0.out HBr.out⟩
/-- A number drawn among so many. -/
theorem drawn_num12 {a : Int} {n : Nat} (ha : 0 ≤ a) (hn : 0 < n) : ∃ r : Nat, r < n ∧ a.tmod (n : Int) = (r : Int) ∧ numB (r : Int) n = true := by
 have h1 := Int.emod_nonneg a (by omega : (n : Int) ≠ 0)
 have h2 := Int.emod_lt_of_pos a (by omega : 0 < (n : Int))
 refine ⟨(a % (n : Int)).toNat, by omega, ?_, ?_⟩
 ·rw [Int.tmod_eq_emod_of_nonneg ha]; omega
 ·rw [numB_iff]; omega
theorem cel12_fin {g : Img} (h : finB g = true) (t : Ty) : cel12 g t = if usdB g t = true then celL g t else [] := by unfold cel12; rw [if_pos h]
theorem cel12_used {g : Img} (h : finB g = true) {t : Ty} (hu : usdB g t = true) : cel12 g t = celL g t := by rw [cel12_fin h, if_pos hu]
theorem usd_not {g : Img} {t : Int} (h : kndI g t ≠ 1) : usdB g (6, t, 0, false) = false := by
 cases hp : plainT (6, t, 0, false) with
 | false => exact usd_plain hp
 | true => rw [usd_value hp rfl]; simpa using h
end Go.Proofs.YtkjailahaopehaaGreat

namespace Go.Proofs.YtkjailahaopehaaGreat
set_option linter.unusedVariables false
set_option linter.unusedSimpArgs false
open Go.RowKit
theorem all_pt {α β : Type} {p : α → Bool} {q : β → Bool} : ∀ {l : List α} {m : List β}, l.length = m.length → (∀ i (h1 : i < l.length) (h2 : i < m.length), p l[i] = q m[i]) → l.all p = m.all q
 | [], [], _, _ => rfl
 | [], b :: m, h, _ => by simp at h
 | a :: l, [], h, _ => by simp at h
 | a :: l, b :: m, h, hp => by
  rw [List.all_cons, List.all_cons]
  have h0 : p a = q b := hp 0 (by simp) (by simp)
  rw [h0, all_pt (by simpa using h) (fun i h1 h2 => by
   have := hp (i + 1) (by simpa using h1) (by simpa using h2)
   simpa using this)]
theorem map_pt {α β : Type} {f : α → β} {l m : List α} (h : l.length = m.length) (hp : ∀ i (h1 : i < l.length) (h2 : i < m.length), f l[i] = f m[i]) : l.map f = m.map f := by
 apply List.ext_getElem
 ·simpa using h
 ·intro i h1 h2
  simp only [List.getElem_map]
  exact hp i (by simpa using h1) (by simpa using h2)
theorem lk_ex {g h : Img} (hl : g.like h) : exI g = exI h := funext fun t => by
 have hlen := hl.1
 unfold exI
 by_cases hq : t.toNat < g.ts.length
 ·rw [List.getElem?_eq_getElem hq, List.getElem?_eq_getElem (l := h.ts) (by omega)]
  exact (hl.2.1 _ hq (by omega)).2.2.1
 ·rw [List.getElem?_eq_none (by omega), List.getElem?_eq_none (l := h.ts) (by omega)]
theorem lk_fs {g h : Img} (hl : g.like h) : fsI g = fsI h := funext fun t => by
 have hlen := hl.1
 unfold fsI
 by_cases hq : t.toNat < g.ts.length
 ·rw [List.getElem?_eq_getElem hq, List.getElem?_eq_getElem (l := h.ts) (by omega)]
  exact (hl.2.1 _ hq (by omega)).2.2.2
 ·rw [List.getElem?_eq_none (by omega), List.getElem?_eq_none (l := h.ts) (by omega)]
theorem lk_fl {g h : Img} (hl : g.like h) : flI g = flI h := funext fun t => by
 have hlen := hl.1
 unfold flI
 by_cases hq : t.toNat < g.ts.length
 ·rw [List.getElem?_eq_getElem hq, List.getElem?_eq_getElem (l := h.ts) (by omega)]
  exact (hl.2.1 _ hq (by omega)).2.1
 ·rw [List.getElem?_eq_none (by omega), List.getElem?_eq_none (l := h.ts) (by omega)]
theorem lk_knd {g h : Img} (hl : g.like h) : kndI g = kndI h := funext fun t => by unfold kndI; rw [hl.1, lk_fl hl]
theorem lk_upG {g h : Img} (hl : g.like h) : ∀ (k : Nat) (l : List Int) (t : Int), upG g k l t = upG h k l t
 | 0, _, _ => rfl
 | k + 1, l, t => by
  show (if _ then _ else _) = (if _ then _ else _)
  rw [hl.1, lk_ex hl, lk_upG hl k]
theorem lk_up {g h : Img} (hl : g.like h) : upL g = upL h := funext fun t => by unfold upL; rw [hl.1, lk_upG hl]
theorem lk_fld {g h : Img} (hl : g.like h) : fldN g = fldN h := funext fun t => by unfold fldN; rw [hl.1, hl.2.2.1]
theorem pkN_map12 {α : Type} (t : Int) (f : α → Int) : ∀ (l : List α) (i : Int), pkN (fun x => decide (x = t)) i (l.map f) = pkN (fun x => decide (f x = t)) i l
 | [], _ => rfl
 | c :: r, i => by
  simp only [List.map_cons, pkN]
  rw [pkN_map12 t f r]
theorem lk_ow {g h : Img} (hl : g.like h) : g.ms.map (·.ow) = h.ms.map (·.ow) := map_pt hl.2.2.2.1 (fun i h1 h2 => (hl.2.2.2.2.1 i h1 h2).2.1)
theorem lk_mtd {g h : Img} (hl : g.like h) : mtdN g = mtdN h := funext fun t => by
 unfold mtdN
 rw [hl.1, ← pkN_map12 t (fun x : MD => x.ow) g.ms, ← pkN_map12 t (fun x : MD => x.ow) h.ms, lk_ow hl]
theorem lk_fn {g h : Img} (hl : g.like h) : fnI g = fnI h := funext fun t => by unfold fnI; rw [hl.2.2.1]
theorem lk_fst {g h : Img} (hl : g.like h) : fstI g = fstI h := funext fun t => by unfold fstI; rw [hl.2.2.1]
theorem lk_fvt {g h : Img} (hl : g.like h) : fvtI g = fvtI h := funext fun t => by unfold fvtI; rw [hl.2.2.1]
theorem lk_sm {g h : Img} (hl : g.like h) : smI g = smI h := funext fun i => funext fun k => by
 unfold smI
 have hlen := hl.2.2.2.1
 by_cases h1 : i.toNat < g.ms.length
 ·by_cases h2 : k.toNat < g.ms.length
  ·rw [List.getElem?_eq_getElem h1, List.getElem?_eq_getElem h2, List.getElem?_eq_getElem (l := h.ms) (by omega), List.getElem?_eq_getElem (l := h.ms) (by omega)]
   obtain ⟨a1, _, a3, a4, a5, _⟩ := hl.2.2.2.2.1 i.toNat h1 (by omega)
   obtain ⟨b1, _, b3, b4, b5, _⟩ := hl.2.2.2.2.1 k.toNat h2 (by omega)
   show smM _ _ = smM _ _
   unfold smM
   rw [a1, a3, a4, a5, b1, b3, b4, b5]
  ·rw [List.getElem?_eq_none (l := g.ms) (i := k.toNat) (by omega), List.getElem?_eq_none (l := h.ms) (i := k.toNat) (by omega)]
   cases g.ms[i.toNat]? <;> cases h.ms[i.toNat]? <;> rfl
 ·rw [List.getElem?_eq_none (l := g.ms) (i := i.toNat) (by omega), List.getElem?_eq_none (l := h.ms) (i := i.toNat) (by omega)]
theorem lk_tnm {g h : Img} (hl : g.like h) : tnmB g = tnmB h := funext fun t => by
 unfold tnmB
 have hlen := hl.1
 by_cases h1 : t.toNat < g.ts.length
 ·rw [List.getElem?_eq_getElem h1, List.getElem?_eq_getElem (l := h.ts) (by omega)]
  show (List.range g.ts.length).all _ = (List.range h.ts.length).all _
  have e := (hl.2.1 t.toNat h1 (by omega)).1
  refine all_pt (by simp [hlen]) fun i hi _ => ?_
  have hi2 : i < g.ts.length := by simpa using hi
  simp only [List.getElem_range]
  rw [List.getElem?_eq_getElem hi2, List.getElem?_eq_getElem (l := h.ts) (by omega), e]
  show (_ || decide _) = (_ || decide _)
  rw [(hl.2.1 i hi2 (by omega)).1]
 ·rw [List.getElem?_eq_none (by omega), List.getElem?_eq_none (l := h.ts) (by omega)]
theorem lk_prt {g h : Img} (hl : g.like h) : prtL g = prtL h := funext fun t => by
 have hp : prtB g = prtB h := funext fun i => by unfold prtB; rw [lk_fst hl, lk_fvt hl, lk_knd hl]
 unfold prtL
 rw [lk_fld hl, hp, lk_fvt hl]
theorem lk_err {g h : Img} (hl : g.like h) : errT g = errT h := funext fun t => by
 have e1 : extB g t = extB h t := by unfold extB; rw [lk_ex hl, lk_knd hl, lk_fl hl, lk_up hl]
 have e2 : facB g t = facB h t := by unfold facB; rw [lk_fs hl, lk_knd hl, hl.1]
 have e3 : nmdB g t = nmdB h t := by unfold nmdB; rw [lk_tnm hl, lk_fn hl, lk_fld hl, lk_sm hl, lk_mtd hl]
 have e4 : szdB g t = szdB h t := by unfold szdB; rw [lk_knd hl, lk_fld hl, lk_fst hl, lk_prt hl, hl.1]
 unfold errT
 rw [lk_fl hl, lk_ex hl, e1, e2, e3, e4]
theorem lk_wrg {g h : Img} (hl : g.like h) : ∀ (k i : Nat), wrgL g k i = wrgL h k i
 | 0, _ => rfl
 | k + 1, i => by
  unfold wrgL
  rw [lk_err hl, lk_wrg hl k]
theorem lk_im {g h : Img} (hl : g.like h) : imB g = imB h := by
 have hT : g.ts.all (tdB g.ts.length) = h.ts.all (tdB h.ts.length) := by
  rw [← hl.1]
  refine all_pt hl.1 fun i h1 h2 => ?_
  obtain ⟨a1, a2, a3, a4⟩ := hl.2.1 i h1 h2
  unfold tdB
  rw [a1, a2, a3, a4]
 have hM : g.ms.all (mdB g.ts.length g.fs.length g.ms.length) = h.ms.all (mdB h.ts.length h.fs.length h.ms.length) := by
  rw [← hl.1, ← hl.2.2.1, ← hl.2.2.2.1]
  refine all_pt hl.2.2.2.1 fun i h1 h2 => ?_
  obtain ⟨a1, a2, a3, a4, a5, a6, a7, a8, a9⟩ := hl.2.2.2.2.1 i h1 h2
  unfold mdB
  rw [a1, a2, a3, a4, a5, a6, a7, a8, a9]
 unfold imB
 rw [hT, hM, lk_ow hl, hl.1, hl.2.2.1, hl.2.2.2.1, hl.2.2.2.2.2]
theorem lk_wel {g h : Img} (hl : g.like h) : welB g = welB h := by
 unfold welB chkI
 rw [lk_im hl, lk_wrg hl, hl.1]
theorem lk_cel {g h : Img} (hl : g.like h) : celL g = celL h := by
 have hh : hldL g = hldL h := funext fun t => by unfold hldL; rw [hl.2.2.1]
 have hk : ∀ (k : Nat) (t : Ty), celK g k t = celK h k t := by
  intro k
  induction k with
  | zero => intro t; rfl
  | succ k ih =>
   intro t
   show (if _ then _ else _) = (if _ then _ else _)
   rw [hh, show celK g k = celK h k from funext ih]
 exact funext fun t => by unfold celL; rw [hl.1, hk]
theorem lk_obj {g h : Img} (hl : g.like h) : objL g = objL h := funext fun t => by
 have hh : hldL g = hldL h := funext fun t => by unfold hldL; rw [hl.2.2.1]
 have ho : ownC g = ownC h := funext fun u => by unfold ownC; rw [hh, lk_cel hl]
 unfold objL
 rw [ho, lk_up hl]
theorem like_lch {g h : Img} (hl : g.like h) : lchI g = lchI h := by
 have hu : usdB g = usdB h := funext fun t => by unfold usdB; rw [lk_knd hl]
 have ht : tooB g = tooB h := funext fun t => by unfold tooB; rw [lk_knd hl, lk_cel hl, lk_obj hl]
 unfold lchI
 rw [lk_wel hl, hl.2.2.1, hu, ht, hl.1]

theorem like_symm {g h : Img} (hl : g.like h) : h.like g :=
 ⟨hl.1.symm, fun i h1 h2 => by obtain ⟨a1, a2, a3, a4⟩ := hl.2.1 i h2 h1; exact ⟨a1.symm, a2.symm, a3.symm, a4.symm⟩, hl.2.2.1.symm, hl.2.2.2.1.symm, fun i h1 h2 => by
  obtain ⟨a1, a2, a3, a4, a5, a6, a7, a8, a9⟩ := hl.2.2.2.2.1 i h2 h1
  exact ⟨a1.symm, a2.symm, a3.symm, a4.symm, a5.symm, a6.symm, a7.symm, a8.symm, a9.symm⟩, hl.2.2.2.2.2.symm⟩
end Go.Proofs.YtkjailahaopehaaGreat
