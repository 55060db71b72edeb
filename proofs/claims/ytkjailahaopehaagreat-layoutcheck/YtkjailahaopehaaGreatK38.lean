/- Texts joined: LayPlace, LayPlc. -/
import Derived.Test.YtkjailahaopehaaGreatK37
import Derived.Deep.RegionHeld3
namespace Go.Proofs.YtkjailahaopehaaGreat
set_option linter.unusedVariables false
set_option linter.unusedSimpArgs false
open Go.RowKit
attribute [local go_sem ↓] Go.wp_at_zero Go.wp_at_succ

/-- A field's cells. -/
def fdA12 (x : FD) : Array Value := #[.string x.nm, .int .i64 x.ow, .int .i64 x.t.1, .int .i64 x.t.2.1, .int .i64 x.t.2.2.1, .bool x.t.2.2.2, .bool x.st]

set_option maxHeartbeats 2000000 in
theorem together_any (x y : FD) (w : World) : Ans 46 #[.agg (fdA12 x), .agg (fdA12 y)] w (.bool (togB x y)) := by
  obtain ⟨w0, hw0⟩ : ∃ W, W = (w.alloc (.cells (fdA12 x) 50)).alloc (.cells (fdA12 y) 50) := ⟨_, rfl⟩
  have HW0 : Hid (w0 = _) := hw0
  obtain ⟨hb0, hat⟩ := two_boxes hw0
  have HB0 : Hid (Below w.heap.size w w0) := hb0
  obtain ⟨hA, hB⟩ := hat w0 (Below.refl _ _)
  have a1 := hA.cell 1
  have a6 := hA.cell 6
  have b1 := hB.cell 1
  have b6 := hB.cell 6
  unfold fdA12 at a1 a6 b1 b6 HW0 ⊢
  simp at a1 a6 b1 b6
  have HR : Hid (togB x y = ((x.st == y.st) && (x.st || decide (x.ow = y.ow)))) := rfl
  clear hw0 hb0 hat hA hB
  generalize togB x y = R at *
  obtain ⟨xs, hxs⟩ : ∃ s, s = x.st := ⟨_, rfl⟩
  obtain ⟨ys, hys⟩ : ∃ s, s = y.st := ⟨_, rfl⟩
  rw [← hxs] at a6 HR HW0 ⊢
  rw [← hys] at b6 HR HW0 ⊢
  clear hxs hys
  cases xs <;> cases ys
  all_goals go_enter Tryz.func46, Tryz.ntmps46
  all_goals go_wp2_with (rw [← HW0.out])
  all_goals go_ret
  all_goals exact ⟨ret_bool (by rw [HR.out]; first | rfl | (rw [Bool.eq_iff_iff]; simp)), HB0.out⟩

/-- The boxes of an image and a field. -/
theorem img_field_head {w : World} {g : Img} (hg : Im w g) (x : FD) : ∃ w0, Hid (w0 = (w.alloc (.cells #[.slice g.ta g.ts.length g.tc, .slice g.fa g.fs.length g.fc, .slice g.ma g.ms.length g.mc, .int .i64 g.en] 26)).alloc (.cells #[.string x.nm, .int .i64 x.ow, .int .i64 x.t.1, .int .i64 x.t.2.1, .int .i64 x.t.2.2.1, .bool x.t.2.2.2, .bool x.st] 50)) ∧ Hid (Below w.heap.size w w0) ∧ Hid (∀ W, Below w0.heap.size w0 W → Im4 W w.heap.size g ∧ (W.cell? ⟨w.heap.size + 1, 1, none⟩ = some (.int .i64 x.ow) ∧ W.cell? ⟨w.heap.size + 1, 6, none⟩ = some (.bool x.st))) ∧ Hid (∀ W, Below w0.heap.size w0 W → Im W g) := by
  obtain ⟨w0, hw0⟩ : ∃ W, W = (w.alloc (.cells (imC g) 26)).alloc (.cells (fdA12 x) 50) := ⟨_, rfl⟩
  obtain ⟨hb0, hat⟩ := two_boxes hw0
  refine ⟨w0, hw0, hb0, fun W hW => ⟨?_, ?_⟩, fun W hW => (hg.later hb0).later hW⟩
  · have h := (hat W hW).1
    exact ⟨h.cell 0, h.cell 1, h.cell 2, h.cell 3⟩
  · have h := (hat W hW).2
    exact ⟨h.cell 1, h.cell 6⟩

/-- What a class extends is a class, or nothing. -/
theorem ext_class {g : Img} (F : Fin_ g) {q : Nat} (hq : q < g.ts.length) : kndI g (exI g (q : Int)) = 0 ∨ numB (exI g (q : Int)) g.ts.length = false := by
  have hx := (Wel.of F.wel).ext (q : Int) (by rw [numB_iff]; omega)
  unfold extB at hx
  simp only [Bool.and_eq_true, Bool.or_eq_true, decide_eq_true_iff] at hx
  rcases hx.1 with h | h
  · right; rw [h]; rfl
  · left; exact h.1

set_option maxHeartbeats 4000000 in
set_option maxRecDepth 20000 in
theorem beginOf_any {g : Img} (F : Fin_ g) (x : FD) {w : World} (hg : Im w g) (how : numB x.ow g.ts.length = true) : Ans 45 #[imA4 g, .agg #[.string x.nm, .int .i64 x.ow, .int .i64 x.t.1, .int .i64 x.t.2.1, .int .i64 x.t.2.2.1, .bool x.t.2.2.2, .bool x.st]] w (.int .i64 (begN g x)) := by
  obtain ⟨w0, HW0, HB0, HC, HI⟩ := img_field_head hg x
  obtain ⟨q, hqo, hq⟩ := num_nat how
  have hqi : (q : Int) < (g.ts.length : Int) := by omega
  have HKn : Hid (∀ W, Below w0.heap.size w0 W → Ans 43 #[imA4 g, .int .i64 x.ow] W (.int .i64 (kndI g x.ow))) := fun W hW => kind_any x.ow (HI.out W hW) (FlOk.of F.wu.im)
  have hwf : Wf g.ts[q].ex := by
    have hl := (im_len F.wu.im).1
    rcases (im_type F.wu.im hq).1 with h | h
    · rw [h]; exact wf_of (by omega)
    · exact wf_num (by omega) h
  have HOb : Hid (∀ W, Below w0.heap.size w0 W → AnsT 44 #[imA4 g, .int .i64 g.ts[q].ex] W (objL g g.ts[q].ex)) := fun W hW => objectF_any F (HI.out W hW) (by have := ext_class F hq; rw [exI_at hq] at this; exact this) hwf
  have hol : (objL g g.ts[q].ex).length ≤ 32 := by
    have := ext_class F hq
    rw [exI_at hq] at this
    rcases this with h | h
    · exact F.cls _ h
    · rw [objL_out h]; simp
  have HR : Hid (begN g x = if x.st = true then 0 else if kndI g x.ow = 0 then 1 + (objL g g.ts[q].ex).length else 0) := by
    show _ = _
    unfold begN
    rw [hqo, exI_at hq]
  have HTs : Hid (∀ W, Below w0.heap.size w0 W → Es tdE W (.slice g.ta g.ts.length g.tc) g.ts) := fun W hW => (HI.out W hW).ts
  obtain ⟨tb, off, cap, hla, _, _, htb, hc⟩ := (HTs.out w0 (Below.refl _ _)).parts (by intro e; rw [e] at hq; simp at hq)
  simp only [Value.slice.injEq] at hla
  obtain ⟨hla, -, hlc2⟩ := hla
  obtain ⟨_, _, k2, _⟩ := (show El tdE w0 tb (off + q * 4) g.ts[q] from hc q hq).cells_T
  have HE : Hid (∀ W, Below w0.heap.size w0 W → W.cell? ⟨tb, off + q * 4 + 2, none⟩ = some (.int .i64 g.ts[q].ex)) := fun W hW => by rw [← k2]; exact hW.cell (p := ⟨tb, off + q * 4 + 2, none⟩) htb
  have HCl : Hid (∀ W, Below w0.heap.size w0 W → (W.cell? ⟨w.heap.size, 0, none⟩ = some (.slice (some ⟨tb, off, none⟩) g.ts.length g.tc) ∧ W.cell? ⟨w.heap.size, 1, none⟩ = some (.slice g.fa g.fs.length g.fc) ∧ W.cell? ⟨w.heap.size, 2, none⟩ = some (.slice g.ma g.ms.length g.mc) ∧ W.cell? ⟨w.heap.size, 3, none⟩ = some (.int .i64 g.en)) ∧ W.cell? ⟨w.heap.size + 1, 1, none⟩ = some (.int .i64 (q : Int)) ∧ W.cell? ⟨w.heap.size + 1, 6, none⟩ = some (.bool x.st)) := fun W hW => by
    have := HC.out W hW
    unfold Im4 at this
    rw [hla, hqo] at this
    exact this
  unfold imA4 at HKn HOb ⊢
  rw [hla] at HKn HOb HW0 ⊢
  rw [hqo] at HKn HR HW0 ⊢
  clear hg F hwf HI HTs hc k2 hla hlc2 how HC hqo
  generalize begN g x = R at *
  generalize objL g g.ts[q].ex = C at *
  generalize g.ts[q].ex = ex at *
  generalize kndI g (q : Int) = kn at *
  obtain ⟨⟨c0, c1, c2, c3⟩, d1, d6⟩ := HCl.out w0 (Below.refl _ _)
  obtain ⟨xs, hxs⟩ : ∃ s, s = x.st := ⟨_, rfl⟩
  rw [← hxs] at d6 HR HW0 HCl ⊢
  clear hxs
  go_enter Tryz.func45, Tryz.ntmps45
  cases xs with
  | true =>
    have HR2 : Hid (R = 0) := by show _ = _; rw [HR.out]; rfl
    go_wp2_with (rw [← HW0.out])
    go_ret
    exact ⟨by rw [HR2.out]; rfl, HB0.out⟩
  | false =>
    go_wp2_with (rw [← HW0.out])
    refine Calls.mono (HKn.out w0 (Below.refl _ _)) ?_
    rintro e w1 ⟨rfl, hb1⟩
    have HB1 : Hid (Below w0.heap.size w0 w1) := hb1
    clear hb1 c0 c1 c2 c3 d1 d6
    obtain ⟨⟨c0, c1, c2, c3⟩, d1, d6⟩ := HCl.out w1 HB1.out
    by_cases hk : kn = 0
    · subst hk
      have HR2 : Hid (R = 1 + C.length) := by show _ = _; rw [HR.out]; rfl
      have HK : Hid (∀ W, Below w1.heap.size w1 W → ((W.cell? ⟨w.heap.size, 0, none⟩ = some (.slice (some ⟨tb, off, none⟩) g.ts.length g.tc) ∧ W.cell? ⟨w.heap.size, 1, none⟩ = some (.slice g.fa g.fs.length g.fc) ∧ W.cell? ⟨w.heap.size, 2, none⟩ = some (.slice g.ma g.ms.length g.mc) ∧ W.cell? ⟨w.heap.size, 3, none⟩ = some (.int .i64 g.en)) ∧ W.cell? ⟨w.heap.size + 1, 1, none⟩ = some (.int .i64 (q : Int)) ∧ W.cell? ⟨w.heap.size + 1, 6, none⟩ = some (.bool false)) ∧ W.cell? ⟨tb, off + q * 4 + 2, none⟩ = some (.int .i64 ex)) := fun W hW => ⟨HCl.out W (bstep HB1.out hW), HE.out W (bstep HB1.out hW)⟩
      have HOq : Hid (∀ W, Below w1.heap.size w1 W → AnsT 44 #[.agg #[.slice (some ⟨tb, off, none⟩) g.ts.length g.tc, .slice g.fa g.fs.length g.fc, .slice g.ma g.ms.length g.mc, .int .i64 g.en], .int .i64 ex] W C) := fun W hW => HOb.out W (bstep HB1.out hW)
      go_wp2_with fail
      go_region_held3 (fun W : World => ((W.cell? ⟨w.heap.size, 0, none⟩ = some (.slice (some ⟨tb, off, none⟩) g.ts.length g.tc) ∧ W.cell? ⟨w.heap.size, 1, none⟩ = some (.slice g.fa g.fs.length g.fc) ∧ W.cell? ⟨w.heap.size, 2, none⟩ = some (.slice g.ma g.ms.length g.mc) ∧ W.cell? ⟨w.heap.size, 3, none⟩ = some (.int .i64 g.en)) ∧ W.cell? ⟨w.heap.size + 1, 1, none⟩ = some (.int .i64 (q : Int)) ∧ W.cell? ⟨w.heap.size + 1, 6, none⟩ = some (.bool false)) ∧ W.cell? ⟨tb, off + q * 4 + 2, none⟩ = some (.int .i64 ex))
        (first | (exact HK.out _ hBc) | (exact HK.out _ (bdrew _)))
        ((go_at_call 44; refine (HOq.out _ (bdrew _)).mono ?_; rintro e w2 ⟨hv, rfl, hv2, hb2⟩; obtain ⟨ha, hc2, hvv, _, hhc⟩ := hv2.shape; subst hvv; have hBc : Below w1.heap.size w1 w2 := bstep (bdrew _) hb2))
      rename_i hheld
      clear hheld
      have HB2 : Hid (Below w0.heap.size w0 w2) := bstep HB1.out hBc
      clear hv2 hb2 hBc c0 c1 c2 c3 d1 d6
      go_wp2_with fail
      go_ret
      exact ⟨ret_int (by rw [HR2.out]; simp [IntKind.wrap, IntKind.bits, IntKind.signed]; omega), bstep HB0.out HB2.out⟩
    · have hkb : (kn != 0) = true := by simpa using hk
      have HR2 : Hid (R = 0) := by show _ = _; rw [HR.out, if_neg (by decide), if_neg hk]
      clear hk
      go_wp2_with fail
      go_ret
      exact ⟨by rw [HR2.out]; rfl, bstep HB0.out HB1.out⟩

end Go.Proofs.YtkjailahaopehaaGreat

namespace Go.Proofs.YtkjailahaopehaaGreat
set_option linter.unusedVariables false
set_option linter.unusedSimpArgs false
open Go.RowKit
attribute [local go_sem ↓] Go.wp_at_zero Go.wp_at_succ

def pla12 (g : Img) (f : Int) : Int := if finB g = true then plcI g f else -1
theorem fwd_take {g : Img} {x : FD} {i : Nat} (hi : i < g.fs.length) : fwdN g x (i + 1) = fwdN g x i + (if togB g.fs[i] x = true then (celL g g.fs[i].t).length else 0) := by
  unfold fwdN
  rw [List.take_succ_eq_append_getElem hi, List.filter_append, List.flatMap_append, List.length_append]
  congr 1
  cases h : togB g.fs[i] x <;> simp [List.filter_cons, h]
theorem fwd_len {g : Img} (F : Fin_ g) (x : FD) (q : Nat) : fwdN g x q ≤ 512 := by
  unfold fwdN
  have h1 := fmc_len (g := g) ((g.fs.take q).filter (fun y => togB y x)) (fun y hy => F.cel8 (F.used y (List.mem_of_mem_take (List.mem_filter.1 hy).1)))
  have h2 := List.length_filter_le (fun y => togB y x) (g.fs.take q)
  rw [List.length_take] at h2
  have h3 := (im_len F.wu.im).2.1
  omega
theorem beg_len {g : Img} (F : Fin_ g) {x : FD} (hx : x ∈ g.fs) (how : numB x.ow g.ts.length = true) : begN g x ≤ 33 := by
  unfold begN
  obtain ⟨q, hqo, hq⟩ := num_nat how
  split
  · omega
  · split
    · rw [hqo]
      rcases ext_class F hq with h | h
      · have := F.cls _ h; omega
      · rw [objL_out h]; simp
    · omega
theorem fld_own {g : Img} (h : imB g = true) {x : FD} (hx : x ∈ g.fs) : numB x.ow g.ts.length = true := by
  unfold imB at h
  simp only [Bool.and_eq_true] at h
  have := List.all_eq_true.1 h.1.1.2.1 x hx
  unfold fdB at this
  simp only [Bool.and_eq_true] at this
  exact this.1.2
theorem plcI_out {g : Img} {f : Int} (h : ¬ (0 ≤ f ∧ f < (g.fs.length : Int))) : plcI g f = -1 := by
  unfold plcI
  by_cases h0 : 0 ≤ f
  · have : g.fs.length ≤ f.toNat := by omega
    rw [List.getElem?_eq_none this]
  · split
    · rw [if_neg h0]
    · rfl
theorem plcI_in {g : Img} {q : Nat} (h : q < g.fs.length) : plcI g (q : Int) = (plcN g g.fs[q] q : Nat) := by
  unfold plcI
  rw [Int.toNat_natCast, List.getElem?_eq_getElem h]
  simp

set_option maxHeartbeats 8000000 in
set_option maxRecDepth 20000 in
theorem place_any {g : Img} {f : Int} {w : World} (hg : Im w g) : Ans 25 #[imA4 g, .int .i64 f] w (.int .i64 (pla12 g f)) := by
  obtain ⟨w0, HW0, HB0, HG, HC, HI, c0, c1, c2, c3⟩ := img_head hg
  have hfl := hg.fs.len
  unfold maxLen at hfl
  have HIs : Hid (Ans 40 #[imA4 g] w0 (.bool (finB g))) := isWell12_any (HI.out w0 (Below.refl _ _))
  have HFs : Hid (∀ W, Below w0.heap.size w0 W → Es fdE W (.slice g.fa g.fs.length g.fc) g.fs) := fun W hW => (HI.out W hW).fs
  have HC4 : Hid (∀ W, Below w0.heap.size w0 W → Im4 W w.heap.size g) := HC.out
  have HBe : Hid (∀ W (i : Nat) (h : i < g.fs.length), Below w0.heap.size w0 W → finB g = true → Ans 45 #[imA4 g, .agg #[.string g.fs[i].nm, .int .i64 g.fs[i].ow, .int .i64 g.fs[i].t.1, .int .i64 g.fs[i].t.2.1, .int .i64 g.fs[i].t.2.2.1, .bool g.fs[i].t.2.2.2, .bool g.fs[i].st]] W (.int .i64 (begN g g.fs[i]))) := fun W i h hW hf => beginOf_any (Fin_.of hf) g.fs[i] (HI.out W hW) (fld_own (Fin_.of hf).wu.im (List.getElem_mem h))
  have HCe : Hid (∀ W (i : Nat) (h : i < g.fs.length), Below w0.heap.size w0 W → finB g = true → AnsT 41 #[imA4 g, .agg #[.int .i64 g.fs[i].t.1, .int .i64 g.fs[i].t.2.1, .int .i64 g.fs[i].t.2.2.1, .bool g.fs[i].t.2.2.2]] W (celL g g.fs[i].t)) := fun W i h hW hf => cellsF_any (Fin_.of hf) (HI.out W hW) ((Fin_.of hf).used _ (List.getElem_mem h))
  have HR : Hid (pla12 g f = if finB g = true then plcI g f else -1) := rfl
  have HOut : Hid (¬ (0 ≤ f ∧ f < (g.fs.length : Int)) → plcI g f = -1) := plcI_out
  have HFw : Hid (finB g = true → ∀ x q, fwdN g x q ≤ 512) := fun h x q => fwd_len (Fin_.of h) x q
  have HBl : Hid (finB g = true → ∀ (i : Nat) (h : i < g.fs.length), begN g g.fs[i] ≤ 33) := fun hf i h => beg_len (Fin_.of hf) (List.getElem_mem h) (fld_own (Fin_.of hf).wu.im (List.getElem_mem h))
  have HIn : Hid (∀ q : Nat, q < g.fs.length → f = (q : Int) → ∃ h : q < g.fs.length, plcI g f = ((begN g g.fs[q] + fwdN g g.fs[q] q : Nat) : Int)) := fun q h e => ⟨h, by rw [e, plcI_in h]; rfl⟩
  unfold imA4 at HIs HBe HCe ⊢
  unfold Im4 at HC4
  generalize g.fa = fa at *
  clear hg HC HI
  generalize pla12 g f = R at *
  generalize plcI g f = R0 at *
  generalize finB g = b1 at *
  go_enter Tryz.func25, Tryz.ntmps25
  go_wp2_with (rw [← HW0.out])
  refine Calls.mono HIs.out ?_
  rintro e w1 ⟨rfl, hb1⟩
  have HB1 : Hid (Below w0.heap.size w0 w1) := hb1
  clear hb1 c0 c1 c2 c3 HIs
  obtain ⟨c0, c1, c2, c3⟩ := HC4.out w1 HB1.out
  cases b1 with
  | false =>
    have HR2 : Hid (R = -1) := by show _ = _; rw [HR.out]; rfl
    go_wp2_with fail
    go_ret
    exact ⟨ret_int (by rw [HR2.out]), bstep HB0.out HB1.out⟩
  | true =>
    have HR2 : Hid (R = R0) := by show _ = _; rw [HR.out]; rfl
    by_cases h0 : f < 0
    · have HR3 : Hid (R0 = -1) := HOut.out (by omega)
      go_wp2_with fail
      go_ret
      exact ⟨ret_int (by rw [HR2.out, HR3.out]), bstep HB0.out HB1.out⟩
    · by_cases h1 : f < (g.fs.length : Int)
      · obtain ⟨q, rfl⟩ : ∃ q : Nat, f = (q : Int) := ⟨f.toNat, by omega⟩
        have hq : q < g.fs.length := by omega
        obtain ⟨tb, off, cap, hla, _, _, htb, hc⟩ := (HFs.out w1 HB1.out).parts (by intro e; rw [e] at hq; simp at hq)
        simp only [Value.slice.injEq] at hla
        obtain ⟨hla, -, hlc2⟩ := hla
        subst hla
        have HEl : Hid (∀ W (i : Nat) (h : i < g.fs.length), Below w1.heap.size w1 W → El fdE W tb (off + i * 7) g.fs[i]) := fun W i h hW => (show El fdE w1 tb (off + i * 7) g.fs[i] from hc i h).below hW htb
        obtain ⟨_, hpl⟩ := HIn.out q hq rfl
        have HR3 : Hid (R0 = ((begN g g.fs[q] + fwdN g g.fs[q] q : Nat) : Int)) := hpl
        have hbl := HBl.out (by trivial) q hq
        have HFw2 : Hid (∀ i, fwdN g g.fs[q] i ≤ 512) := fun i => HFw.out (by trivial) _ i
        have HTk : Hid (∀ (i : Nat) (hi : i < g.fs.length), fwdN g g.fs[q] (i + 1) = fwdN g g.fs[q] i + (if togB g.fs[i] g.fs[q] = true then (celL g g.fs[i].t).length else 0)) := fun i hi => fwd_take hi
        have HBq : Hid (∀ W, Below w1.heap.size w1 W → Ans 45 #[.agg #[.slice g.ta g.ts.length g.tc, .slice (some ⟨tb, off, none⟩) g.fs.length g.fc, .slice g.ma g.ms.length g.mc, .int .i64 g.en], .agg #[.string g.fs[q].nm, .int .i64 g.fs[q].ow, .int .i64 g.fs[q].t.1, .int .i64 g.fs[q].t.2.1, .int .i64 g.fs[q].t.2.2.1, .bool g.fs[q].t.2.2.2, .bool g.fs[q].st]] W (.int .i64 (begN g g.fs[q]))) := fun W hW => HBe.out W q hq (bstep HB1.out hW) (by trivial)
        have HCq : Hid (∀ W (i : Nat) (h : i < g.fs.length), Below w1.heap.size w1 W → AnsT 41 #[.agg #[.slice g.ta g.ts.length g.tc, .slice (some ⟨tb, off, none⟩) g.fs.length g.fc, .slice g.ma g.ms.length g.mc, .int .i64 g.en], .agg #[.int .i64 g.fs[i].t.1, .int .i64 g.fs[i].t.2.1, .int .i64 g.fs[i].t.2.2.1, .bool g.fs[i].t.2.2.2]] W (celL g g.fs[i].t)) := fun W i h hW => HCe.out W i h (bstep HB1.out hW) (by trivial)
        have HK4 : Hid (∀ W, Below w1.heap.size w1 W → W.cell? ⟨w.heap.size, 0, none⟩ = some (.slice g.ta g.ts.length g.tc) ∧ W.cell? ⟨w.heap.size, 1, none⟩ = some (.slice (some ⟨tb, off, none⟩) g.fs.length g.fc) ∧ W.cell? ⟨w.heap.size, 2, none⟩ = some (.slice g.ma g.ms.length g.mc) ∧ W.cell? ⟨w.heap.size, 3, none⟩ = some (.int .i64 g.en)) := fun W hW => HC4.out W (bstep HB1.out hW)
        have hqi : (q : Int) < (g.fs.length : Int) := h1
        clear hc hlc2 h0 h1 HOut HIn HFw HBl HBe HCe HFs HC4 hpl
        generalize begN g g.fs[q] = B at *
        obtain ⟨x, hx⟩ : ∃ x, x = g.fs[q] := ⟨_, rfl⟩
        have HElq : Hid (∀ W, Below w1.heap.size w1 W → El fdE W tb (off + q * 7) x) := fun W hW => by rw [hx]; exact HEl.out W q hq hW
        rw [← hx] at HR3 HFw2 HTk HBq
        clear hx
        have HK : Hid (∀ W, Below w1.heap.size w1 W → (W.cell? ⟨w.heap.size, 0, none⟩ = some (.slice g.ta g.ts.length g.tc) ∧ W.cell? ⟨w.heap.size, 1, none⟩ = some (.slice (some ⟨tb, off, none⟩) g.fs.length g.fc) ∧ W.cell? ⟨w.heap.size, 2, none⟩ = some (.slice g.ma g.ms.length g.mc) ∧ W.cell? ⟨w.heap.size, 3, none⟩ = some (.int .i64 g.en)) ∧ W.cell? ⟨tb, off + q * 7, none⟩ = some (.string x.nm) ∧ W.cell? ⟨tb, off + q * 7 + 1, none⟩ = some (.int .i64 x.ow) ∧ W.cell? ⟨tb, off + q * 7 + 2, none⟩ = some (.int .i64 x.t.1) ∧ W.cell? ⟨tb, off + q * 7 + 3, none⟩ = some (.int .i64 x.t.2.1) ∧ W.cell? ⟨tb, off + q * 7 + 4, none⟩ = some (.int .i64 x.t.2.2.1) ∧ W.cell? ⟨tb, off + q * 7 + 5, none⟩ = some (.bool x.t.2.2.2) ∧ W.cell? ⟨tb, off + q * 7 + 6, none⟩ = some (.bool x.st)) := fun W hW => ⟨HK4.out W hW, (HElq.out W hW).cells_F⟩
        obtain ⟨_, k0, k1, k2, k3, k4, k5, k6⟩ := HK.out w1 (Below.refl _ _)
        go_wp2_with fail
        go_region_held3 (fun W : World => (W.cell? ⟨w.heap.size, 0, none⟩ = some (.slice g.ta g.ts.length g.tc) ∧ W.cell? ⟨w.heap.size, 1, none⟩ = some (.slice (some ⟨tb, off, none⟩) g.fs.length g.fc) ∧ W.cell? ⟨w.heap.size, 2, none⟩ = some (.slice g.ma g.ms.length g.mc) ∧ W.cell? ⟨w.heap.size, 3, none⟩ = some (.int .i64 g.en)) ∧ W.cell? ⟨tb, off + q * 7, none⟩ = some (.string x.nm) ∧ W.cell? ⟨tb, off + q * 7 + 1, none⟩ = some (.int .i64 x.ow) ∧ W.cell? ⟨tb, off + q * 7 + 2, none⟩ = some (.int .i64 x.t.1) ∧ W.cell? ⟨tb, off + q * 7 + 3, none⟩ = some (.int .i64 x.t.2.1) ∧ W.cell? ⟨tb, off + q * 7 + 4, none⟩ = some (.int .i64 x.t.2.2.1) ∧ W.cell? ⟨tb, off + q * 7 + 5, none⟩ = some (.bool x.t.2.2.2) ∧ W.cell? ⟨tb, off + q * 7 + 6, none⟩ = some (.bool x.st))
          (first | (exact HK.out _ hBc) | (exact HK.out _ (bdrew _)))
          ((go_at_call 45; refine (HBq.out _ (bdrew _)).mono ?_; rintro e w2 ⟨rfl, hb2⟩; have hBc : Below w1.heap.size w1 w2 := bstep (bdrew _) hb2))
        rename_i hheld
        clear hheld
        have HB2 : Hid (Below w1.heap.size w1 w2) := hBc
        clear hb2 hBc c0 c1 c2 c3 k0 k1 k2 k3 k4 k5 k6
        go_wp2_with fail
        go_loopw [5, 6, 29] (fun av _ z wr => ∃ i : Nat, i ≤ q ∧ z = .int .i64 i ∧ av = .int .i64 ((B : Int) + (fwdN g x i : Int)) ∧ Hid (Below w1.heap.size w1 wr)) (fun _ _ z _ => q - (intOf z).toNat)
        case atStart => exact ⟨0, Nat.zero_le _, rfl, by simp [fwdN], HB2.out⟩
        case round =>
          obtain ⟨i, hi, rfl, rfl, HB⟩ := hrel
          by_cases hil : i < q
          · have hii : (i : Int) < (q : Int) := by omega
            have hif : i < g.fs.length := by omega
            have hifi : (i : Int) < (g.fs.length : Int) := by omega
            have HT := HTk.out i hif
            have h512 := HFw2.out i
            have h513 := HFw2.out (i + 1)
            rw [HT] at h513
            have HT : Hid _ := HT
            obtain ⟨y, hy⟩ : ∃ y, y = g.fs[i] := ⟨_, rfl⟩
            have HEy : Hid (∀ W, Below w1.heap.size w1 W → El fdE W tb (off + i * 7) y) := fun W hW => by rw [hy]; exact HEl.out W i hif hW
            have HCy : Hid (∀ W, Below w1.heap.size w1 W → AnsT 41 #[.agg #[.slice g.ta g.ts.length g.tc, .slice (some ⟨tb, off, none⟩) g.fs.length g.fc, .slice g.ma g.ms.length g.mc, .int .i64 g.en], .agg #[.int .i64 y.t.1, .int .i64 y.t.2.1, .int .i64 y.t.2.2.1, .bool y.t.2.2.2]] W (celL g y.t)) := fun W hW => by rw [hy]; exact HCq.out W i hif hW
            rw [← hy] at HT h513
            clear hy
            have HTo : Hid (∀ W, Ans 46 #[.agg #[.string y.nm, .int .i64 y.ow, .int .i64 y.t.1, .int .i64 y.t.2.1, .int .i64 y.t.2.2.1, .bool y.t.2.2.2, .bool y.st], .agg #[.string x.nm, .int .i64 x.ow, .int .i64 x.t.1, .int .i64 x.t.2.1, .int .i64 x.t.2.2.1, .bool x.t.2.2.2, .bool x.st]] W (.bool (togB y x))) := fun W => together_any y x W
            have HK2 : Hid (∀ W, Below wr.heap.size wr W → ((W.cell? ⟨w.heap.size, 0, none⟩ = some (.slice g.ta g.ts.length g.tc) ∧ W.cell? ⟨w.heap.size, 1, none⟩ = some (.slice (some ⟨tb, off, none⟩) g.fs.length g.fc) ∧ W.cell? ⟨w.heap.size, 2, none⟩ = some (.slice g.ma g.ms.length g.mc) ∧ W.cell? ⟨w.heap.size, 3, none⟩ = some (.int .i64 g.en)) ∧ W.cell? ⟨tb, off + q * 7, none⟩ = some (.string x.nm) ∧ W.cell? ⟨tb, off + q * 7 + 1, none⟩ = some (.int .i64 x.ow) ∧ W.cell? ⟨tb, off + q * 7 + 2, none⟩ = some (.int .i64 x.t.1) ∧ W.cell? ⟨tb, off + q * 7 + 3, none⟩ = some (.int .i64 x.t.2.1) ∧ W.cell? ⟨tb, off + q * 7 + 4, none⟩ = some (.int .i64 x.t.2.2.1) ∧ W.cell? ⟨tb, off + q * 7 + 5, none⟩ = some (.bool x.t.2.2.2) ∧ W.cell? ⟨tb, off + q * 7 + 6, none⟩ = some (.bool x.st)) ∧ W.cell? ⟨tb, off + i * 7, none⟩ = some (.string y.nm) ∧ W.cell? ⟨tb, off + i * 7 + 1, none⟩ = some (.int .i64 y.ow) ∧ W.cell? ⟨tb, off + i * 7 + 2, none⟩ = some (.int .i64 y.t.1) ∧ W.cell? ⟨tb, off + i * 7 + 3, none⟩ = some (.int .i64 y.t.2.1) ∧ W.cell? ⟨tb, off + i * 7 + 4, none⟩ = some (.int .i64 y.t.2.2.1) ∧ W.cell? ⟨tb, off + i * 7 + 5, none⟩ = some (.bool y.t.2.2.2) ∧ W.cell? ⟨tb, off + i * 7 + 6, none⟩ = some (.bool y.st)) := fun W hW => ⟨HK.out W (bstep HB.out hW), (HEy.out W (bstep HB.out hW)).cells_F⟩
            obtain ⟨⟨⟨c0, c1, c2, c3⟩, k0, k1, k2, k3, k4, k5, k6⟩, l0, l1, l2, l3, l4, l5, l6⟩ := HK2.out wr (Below.refl _ _)
            go_wp2_with fail
            go_region_held3 (fun W : World => ((W.cell? ⟨w.heap.size, 0, none⟩ = some (.slice g.ta g.ts.length g.tc) ∧ W.cell? ⟨w.heap.size, 1, none⟩ = some (.slice (some ⟨tb, off, none⟩) g.fs.length g.fc) ∧ W.cell? ⟨w.heap.size, 2, none⟩ = some (.slice g.ma g.ms.length g.mc) ∧ W.cell? ⟨w.heap.size, 3, none⟩ = some (.int .i64 g.en)) ∧ W.cell? ⟨tb, off + q * 7, none⟩ = some (.string x.nm) ∧ W.cell? ⟨tb, off + q * 7 + 1, none⟩ = some (.int .i64 x.ow) ∧ W.cell? ⟨tb, off + q * 7 + 2, none⟩ = some (.int .i64 x.t.1) ∧ W.cell? ⟨tb, off + q * 7 + 3, none⟩ = some (.int .i64 x.t.2.1) ∧ W.cell? ⟨tb, off + q * 7 + 4, none⟩ = some (.int .i64 x.t.2.2.1) ∧ W.cell? ⟨tb, off + q * 7 + 5, none⟩ = some (.bool x.t.2.2.2) ∧ W.cell? ⟨tb, off + q * 7 + 6, none⟩ = some (.bool x.st)) ∧ W.cell? ⟨tb, off + i * 7, none⟩ = some (.string y.nm) ∧ W.cell? ⟨tb, off + i * 7 + 1, none⟩ = some (.int .i64 y.ow) ∧ W.cell? ⟨tb, off + i * 7 + 2, none⟩ = some (.int .i64 y.t.1) ∧ W.cell? ⟨tb, off + i * 7 + 3, none⟩ = some (.int .i64 y.t.2.1) ∧ W.cell? ⟨tb, off + i * 7 + 4, none⟩ = some (.int .i64 y.t.2.2.1) ∧ W.cell? ⟨tb, off + i * 7 + 5, none⟩ = some (.bool y.t.2.2.2) ∧ W.cell? ⟨tb, off + i * 7 + 6, none⟩ = some (.bool y.st))
              (first | (exact HK2.out _ hBc) | (exact HK2.out _ (bdrew _)))
              ((go_at_call 46; refine (HTo.out _).mono ?_; rintro e w3 ⟨rfl, hb3⟩; have hBc : Below wr.heap.size wr w3 := bstep (bdrew _) hb3))
            rename_i hheld
            clear hheld
            have HB3 : Hid (Below w1.heap.size w1 w3) := bstep HB.out hBc
            clear hb3 hBc c0 c1 c2 c3 k0 k1 k2 k3 k4 k5 k6 l0 l1 l2 l3 l4 l5 l6 HK2 HTo
            cases htg : togB y x with
            | false =>
              have HT2 : Hid (fwdN g x (i + 1) = fwdN g x i) := by show _ = _; rw [HT.out, htg]; rfl
              clear htg HT h513
              go_wp2_with fail
              go_roundw
              case rel => exact ⟨i + 1, by omega, by go_num, by rw [HT2.out], HB3.out⟩
              case measure => simp [intOf]; omega
            | true =>
              have HT2 : Hid (fwdN g x (i + 1) = fwdN g x i + (celL g y.t).length) := by show _ = _; rw [HT.out, htg, if_pos rfl]
              rw [htg, if_pos rfl] at h513
              clear htg HT
              have HK3 : Hid (∀ W, Below w3.heap.size w3 W → (W.cell? ⟨w.heap.size, 0, none⟩ = some (.slice g.ta g.ts.length g.tc) ∧ W.cell? ⟨w.heap.size, 1, none⟩ = some (.slice (some ⟨tb, off, none⟩) g.fs.length g.fc) ∧ W.cell? ⟨w.heap.size, 2, none⟩ = some (.slice g.ma g.ms.length g.mc) ∧ W.cell? ⟨w.heap.size, 3, none⟩ = some (.int .i64 g.en)) ∧ W.cell? ⟨tb, off + i * 7, none⟩ = some (.string y.nm) ∧ W.cell? ⟨tb, off + i * 7 + 1, none⟩ = some (.int .i64 y.ow) ∧ W.cell? ⟨tb, off + i * 7 + 2, none⟩ = some (.int .i64 y.t.1) ∧ W.cell? ⟨tb, off + i * 7 + 3, none⟩ = some (.int .i64 y.t.2.1) ∧ W.cell? ⟨tb, off + i * 7 + 4, none⟩ = some (.int .i64 y.t.2.2.1) ∧ W.cell? ⟨tb, off + i * 7 + 5, none⟩ = some (.bool y.t.2.2.2) ∧ W.cell? ⟨tb, off + i * 7 + 6, none⟩ = some (.bool y.st)) := fun W hW => ⟨HK4.out W (bstep HB3.out hW), (HEy.out W (bstep HB3.out hW)).cells_F⟩
              have HCz : Hid (∀ W, Below w3.heap.size w3 W → AnsT 41 #[.agg #[.slice g.ta g.ts.length g.tc, .slice (some ⟨tb, off, none⟩) g.fs.length g.fc, .slice g.ma g.ms.length g.mc, .int .i64 g.en], .agg #[.int .i64 y.t.1, .int .i64 y.t.2.1, .int .i64 y.t.2.2.1, .bool y.t.2.2.2]] W (celL g y.t)) := fun W hW => HCy.out W (bstep HB3.out hW)
              obtain ⟨⟨c0, c1, c2, c3⟩, l0, l1, l2, l3, l4, l5, l6⟩ := HK3.out w3 (Below.refl _ _)
              generalize celL g y.t = C at *
              generalize fwdN g x i = N at *
              go_wp2_with fail
              go_region_held3 (fun W : World => (W.cell? ⟨w.heap.size, 0, none⟩ = some (.slice g.ta g.ts.length g.tc) ∧ W.cell? ⟨w.heap.size, 1, none⟩ = some (.slice (some ⟨tb, off, none⟩) g.fs.length g.fc) ∧ W.cell? ⟨w.heap.size, 2, none⟩ = some (.slice g.ma g.ms.length g.mc) ∧ W.cell? ⟨w.heap.size, 3, none⟩ = some (.int .i64 g.en)) ∧ W.cell? ⟨tb, off + i * 7, none⟩ = some (.string y.nm) ∧ W.cell? ⟨tb, off + i * 7 + 1, none⟩ = some (.int .i64 y.ow) ∧ W.cell? ⟨tb, off + i * 7 + 2, none⟩ = some (.int .i64 y.t.1) ∧ W.cell? ⟨tb, off + i * 7 + 3, none⟩ = some (.int .i64 y.t.2.1) ∧ W.cell? ⟨tb, off + i * 7 + 4, none⟩ = some (.int .i64 y.t.2.2.1) ∧ W.cell? ⟨tb, off + i * 7 + 5, none⟩ = some (.bool y.t.2.2.2) ∧ W.cell? ⟨tb, off + i * 7 + 6, none⟩ = some (.bool y.st))
                (first | (exact HK3.out _ hBc) | (exact HK3.out _ (bdrew _)))
                ((go_at_call 41; refine (HCz.out _ (bdrew _)).mono ?_; rintro e w4 ⟨hv, rfl, hv2, hb4⟩; obtain ⟨ha, hc2, hvv, _, hhc⟩ := hv2.shape; subst hvv; have hBc : Below w3.heap.size w3 w4 := bstep (bdrew _) hb4))
              rename_i hheld
              clear hheld
              have HB4 : Hid (Below w1.heap.size w1 w4) := bstep HB3.out hBc
              clear hv2 hb4 hBc c0 c1 c2 c3 l0 l1 l2 l3 l4 l5 l6 HK3 HCz HCy
              go_wp2_with fail
              go_roundw
              case rel => exact ⟨i + 1, by omega, by go_num, by rw [HT2.out]; simp [IntKind.wrap, IntKind.bits, IntKind.signed]; omega, HB4.out⟩
              case measure => simp [intOf]; omega
          · have hii : ¬ (i : Int) < (q : Int) := by omega
            have hie : i = q := by omega
            have HRR : Hid (R = (B : Int) + (fwdN g x i : Int)) := by show _ = _; rw [HR2.out, HR3.out, hie]; omega
            clear hie
            go_wp2_with fail
            go_ret
            exact ⟨ret_int (by rw [HRR.out]), bstep HB0.out (bstep HB1.out HB.out)⟩
      · have HR3 : Hid (R0 = -1) := HOut.out (by omega)
        go_wp2_with fail
        go_ret
        exact ⟨ret_int (by rw [HR2.out, HR3.out]), bstep HB0.out HB1.out⟩

end Go.Proofs.YtkjailahaopehaaGreat
