/- Texts joined: LayPlc, Wakes12. -/
import Derived.Test.YtkjailahaopehaaGreatQ39
namespace Go.Proofs.YtkjailahaopehaaGreat
set_option linter.unusedVariables false
set_option linter.unusedSimpArgs false
open Go.RowKit
attribute [local go_sem ↓] Go.wp_at_zero Go.wp_at_succ
def pla12 (g : Img) (f : Int) : Int := if finB g = true then plcI g f else -1
theorem fwd_take {g : Img} {x : FD} {i : Nat} (hi : i < g.fs.length) : fwdN g x (i + 1) = fwdN g x i + (if togB g.fs[i] x = true then (celL g g.fs[i].t).length else 0) := by
 unfold fwdN
 rw [List.take_succ_eq_append_getElem hi, List.filter_append, List.flatMap_append, List.length_append]
 congr 1
 cases h : togB g.fs[i] x <;> simp [List.filter_cons, h]
theorem fwd_len {g : Img} (F : Fin_ g) (x : FD) (q : Nat) : fwdN g x q ≤ 512 := by
 unfold fwdN
 have h1 := fmc_len (g := g) ((g.fs.take q).filter (fun y => togB y x)) (fun y hy => F.cel8 (F.used y (List.mem_of_mem_take (List.mem_filter.1 hy).1)))
 have h2 := List.length_filter_le (fun y => togB y x) (g.fs.take q)
 rw [List.length_take] at h2
 have h3 := (im_len F.wu.im).2.1
 omega
theorem beg_len {g : Img} (F : Fin_ g) {x : FD} (hx : x ∈ g.fs) (how : numB x.ow g.ts.length = true) : begN g x ≤ 33 := by
 unfold begN
 obtain ⟨q, hqo, hq⟩ := num_nat how
 split
 ·omega
 ·split
  ·rw [hqo]
   rcases ext_class F hq with h | h
   ·have := F.cls _ h; omega
   ·rw [objL_out h]; simp
  ·omega
theorem fld_own {g : Img} (h : imB g = true) {x : FD} (hx : x ∈ g.fs) : numB x.ow g.ts.length = true := by
 unfold imB at h
 simp only [Bool.and_eq_true] at h
 have := List.all_eq_true.1 h.1.1.2.1 x hx
 unfold fdB at this
 simp only [Bool.and_eq_true] at this
 exact this.1.2
theorem plcI_out {g : Img} {f : Int} (h : ¬ (0 ≤ f ∧ f < (g.fs.length : Int))) : plcI g f = -1 := by
 unfold plcI
 by_cases h0 : 0 ≤ f
 ·have : g.fs.length ≤ f.toNat := by omega
  rw [List.getElem?_eq_none this]
 ·split
  ·rw [if_neg h0]
  ·rfl
theorem plcI_in {g : Img} {q : Nat} (h : q < g.fs.length) : plcI g (q : Int) = (plcN g g.fs[q] q : Nat) := by
 unfold plcI
 rw [Int.toNat_natCast, List.getElem?_eq_getElem h]
 simp

set_option maxHeartbeats 8000000 in
set_option maxRecDepth 20000 in
theorem place_any {g : Img} {f : Int} {w : World} (hg : Im w g) : Ans 25 #[imA4 g, .int .i64 f] w (.int .i64 (pla12 g f)) := by
 obtain ⟨w0, HW0, HB0, HG, HC, HI, c0, c1, c2, c3⟩ := img_head hg
 have hfl := hg.fs.len
 unfold maxLen at hfl
 have HIs : Hid (Ans 40 #[imA4 g] w0 (.bool (finB g))) := isWell12_any (HI.out w0 (Below.refl _ _))
 have HFs : Hid (∀ W, Below w0.heap.size w0 W → Es fdE W (.slice g.fa g.fs.length g.fc) g.fs) := fun W hW => (HI.out W hW).fs
 have HC4 : Hid (∀ W, Below w0.heap.size w0 W → Im4 W w.heap.size g) := HC.out
 have HBe : Hid (∀ W (i : Nat) (h : i < g.fs.length), Below w0.heap.size w0 W → finB g = true → Ans 45 #[imA4 g, .agg #[.string g.fs[i].nm, .int .i64 g.fs[i].ow, .int .i64 g.fs[i].t.1, .int .i64 g.fs[i].t.2.1, .int .i64 g.fs[i].t.2.2.1, .bool g.fs[i].t.2.2.2, .bool g.fs[i].st]] W (.int .i64 (begN g g.fs[i]))) := fun W i h hW hf => beginOf_any (Fin_.of hf) g.fs[i] (HI.out W hW) (fld_own (Fin_.of hf).wu.im (List.getElem_mem h))
 have HCe : Hid (∀ W (i : Nat) (h : i < g.fs.length), Below w0.heap.size w0 W → finB g = true → AnsT 41 #[imA4 g, .agg #[.int .i64 g.fs[i].t.1, .int .i64 g.fs[i].t.2.1, .int .i64 g.fs[i].t.2.2.1, .bool g.fs[i].t.2.2.2]] W (celL g g.fs[i].t)) := fun W i h hW hf => cellsF_any (Fin_.of hf) (HI.out W hW) ((Fin_.of hf).used _ (List.getElem_mem h))
 have HR : Hid (pla12 g f = if finB g = true then plcI g f else -1) := rfl
 have HOut : Hid (¬ (0 ≤ f ∧ f < (g.fs.length : Int)) → plcI g f = -1) := plcI_out
 have HFw : Hid (finB g = true → ∀ x q, fwdN g x q ≤ 512) := fun h x q => fwd_len (Fin_.of h) x q
 have HBl : Hid (finB g = true → ∀ (i : Nat) (h : i < g.fs.length), begN g g.fs[i] ≤ 33) := fun hf i h => beg_len (Fin_.of hf) (List.getElem_mem h) (fld_own (Fin_.of hf).wu.im (List.getElem_mem h))
 have HIn : Hid (∀ q : Nat, q < g.fs.length → f = (q : Int) → ∃ h : q < g.fs.length, plcI g f = ((begN g g.fs[q] + fwdN g g.fs[q] q : Nat) : Int)) := fun q h e => ⟨h, by rw [e, plcI_in h]; rfl⟩
 unfold imA4 at HIs HBe HCe ⊢
 unfold Im4 at HC4
 generalize g.fa = fa at *
 clear hg HC HI
 generalize pla12 g f = R at *
 generalize plcI g f = R0 at *
 generalize finB g = b1 at *
 go_enter Tryz.func25, Tryz.ntmps25
 go_wp2_with (rw [← HW0.out])
 refine Calls.mono HIs.out ?_
 rintro e w1 ⟨rfl, hb1⟩
 have HB1 : Hid (Below w0.heap.size w0 w1) := hb1
 clear hb1 c0 c1 c2 c3 HIs
 obtain ⟨c0, c1, c2, c3⟩ := HC4.out w1 HB1.out
 cases b1 with
 | false =>
  have HR2 : Hid (R = -1) := by show _ = _; rw [HR.out]; rfl
  go_wp2_with fail
  go_ret
  exact ⟨ret_int (by rw [HR2.out]), bstep HB0.out HB1.out⟩
 | true =>
  have HR2 : Hid (R = R0) := by show _ = _; rw [HR.out]; rfl
  by_cases h0 : f < 0
  ·have HR3 : Hid (R0 = -1) := HOut.out (by omega)
   go_wp2_with fail
   go_ret
   exact ⟨ret_int (by rw [HR2.out, HR3.out]), bstep HB0.out HB1.out⟩
  ·by_cases h1 : f < (g.fs.length : Int)
   ·obtain ⟨q, rfl⟩ : ∃ q : Nat, f = (q : Int) := ⟨f.toNat, by omega⟩
    have hq : q < g.fs.length := by omega
    obtain ⟨tb, off, cap, hla, _, _, htb, hc⟩ := (HFs.out w1 HB1.out).parts (by intro e; rw [e] at hq; simp at hq)
    simp only [Value.slice.injEq] at hla
    obtain ⟨hla, -, hlc2⟩ := hla
    subst hla
    have HEl : Hid (∀ W (i : Nat) (h : i < g.fs.length), Below w1.heap.size w1 W → El fdE W tb (off + i * 7) g.fs[i]) := fun W i h hW => (show El fdE w1 tb (off + i * 7) g.fs[i] from hc i h).below hW htb
    obtain ⟨_, hpl⟩ := HIn.out q hq rfl
    have HR3 : Hid (R0 = ((begN g g.fs[q] + fwdN g g.fs[q] q : Nat) : Int)) := hpl
    have hbl := HBl.out (by trivial) q hq
    have HFw2 : Hid (∀ i, fwdN g g.fs[q] i ≤ 512) := fun i => HFw.out (by trivial) _ i
    have HTk : Hid (∀ (i : Nat) (hi : i < g.fs.length), fwdN g g.fs[q] (i + 1) = fwdN g g.fs[q] i + (if togB g.fs[i] g.fs[q] = true then (celL g g.fs[i].t).length else 0)) := fun i hi => fwd_take hi
    have HBq : Hid (∀ W, Below w1.heap.size w1 W → Ans 45 #[.agg #[.slice g.ta g.ts.length g.tc, .slice (some ⟨tb, off, none⟩) g.fs.length g.fc, .slice g.ma g.ms.length g.mc, .int .i64 g.en], .agg #[.string g.fs[q].nm, .int .i64 g.fs[q].ow, .int .i64 g.fs[q].t.1, .int .i64 g.fs[q].t.2.1, .int .i64 g.fs[q].t.2.2.1, .bool g.fs[q].t.2.2.2, .bool g.fs[q].st]] W (.int .i64 (begN g g.fs[q]))) := fun W hW => HBe.out W q hq (bstep HB1.out hW) (by trivial)
    have HCq : Hid (∀ W (i : Nat) (h : i < g.fs.length), Below w1.heap.size w1 W → AnsT 41 #[.agg #[.slice g.ta g.ts.length g.tc, .slice (some ⟨tb, off, none⟩) g.fs.length g.fc, .slice g.ma g.ms.length g.mc, .int .i64 g.en], .agg #[.int .i64 g.fs[i].t.1, .int .i64 g.fs[i].t.2.1, .int .i64 g.fs[i].t.2.2.1, .bool g.fs[i].t.2.2.2]] W (celL g g.fs[i].t)) := fun W i h hW => HCe.out W i h (bstep HB1.out hW) (by trivial)
    have HK4 : Hid (∀ W, Below w1.heap.size w1 W → W.cell? ⟨w.heap.size, 0, none⟩ = some (.slice g.ta g.ts.length g.tc) ∧ W.cell? ⟨w.heap.size, 1, none⟩ = some (.slice (some ⟨tb, off, none⟩) g.fs.length g.fc) ∧ W.cell? ⟨w.heap.size, 2, none⟩ = some (.slice g.ma g.ms.length g.mc) ∧ W.cell? ⟨w.heap.size, 3, none⟩ = some (.int .i64 g.en)) := fun W hW => HC4.out W (bstep HB1.out hW)
    have hqi : (q : Int) < (g.fs.length : Int) := h1
    clear hc hlc2 h0 h1 HOut HIn HFw HBl HBe HCe HFs HC4 hpl
    generalize begN g g.fs[q] = B at *
    obtain ⟨x, hx⟩ : ∃ x, x = g.fs[q] := ⟨_, rfl⟩
    have HElq : Hid (∀ W, Below w1.heap.size w1 W → El fdE W tb (off + q * 7) x) := fun W hW => by rw [hx]; exact HEl.out W q hq hW
    rw [← hx] at HR3 HFw2 HTk HBq
    clear hx
    have HK : Hid (∀ W, Below w1.heap.size w1 W → (W.cell? ⟨w.heap.size, 0, none⟩ = some (.slice g.ta g.ts.length g.tc) ∧ W.cell? ⟨w.heap.size, 1, none⟩ = some (.slice (some ⟨tb, off, none⟩) g.fs.length g.fc) ∧ W.cell? ⟨w.heap.size, 2, none⟩ = some (.slice g.ma g.ms.length g.mc) ∧ W.cell? ⟨w.heap.size, 3, none⟩ = some (.int .i64 g.en)) ∧ W.cell? ⟨tb, off + q * 7, none⟩ = some (.string x.nm) ∧ W.cell? ⟨tb, off + q * 7 + 1, none⟩ = some (.int .i64 x.ow) ∧ W.cell? ⟨tb, off + q * 7 + 2, none⟩ = some (.int .i64 x.t.1) ∧ W.cell? ⟨tb, off + q * 7 + 3, none⟩ = some (.int .i64 x.t.2.1) ∧ W.cell? ⟨tb, off + q * 7 + 4, none⟩ = some (.int .i64 x.t.2.2.1) ∧ W.cell? ⟨tb, off + q * 7 + 5, none⟩ = some (.bool x.t.2.2.2) ∧ W.cell? ⟨tb, off + q * 7 + 6, none⟩ = some (.bool x.st)) := fun W hW => ⟨HK4.out W hW, (HElq.out W hW).cells_F⟩
    obtain ⟨_, k0, k1, k2, k3, k4, k5, k6⟩ := HK.out w1 (Below.refl _ _)
    go_wp2_with fail
    go_region_held3 (fun W : World => (W.cell? ⟨w.heap.size, 0, none⟩ = some (.slice g.ta g.ts.length g.tc) ∧ W.cell? ⟨w.heap.size, 1, none⟩ = some (.slice (some ⟨tb, off, none⟩) g.fs.length g.fc) ∧ W.cell? ⟨w.heap.size, 2, none⟩ = some (.slice g.ma g.ms.length g.mc) ∧ W.cell? ⟨w.heap.size, 3, none⟩ = some (.int .i64 g.en)) ∧ W.cell? ⟨tb, off + q * 7, none⟩ = some (.string x.nm) ∧ W.cell? ⟨tb, off + q * 7 + 1, none⟩ = some (.int .i64 x.ow) ∧ W.cell? ⟨tb, off + q * 7 + 2, none⟩ = some (.int .i64 x.t.1) ∧ W.cell? ⟨tb, off + q * 7 + 3, none⟩ = some (.int .i64 x.t.2.1) ∧ W.cell? ⟨tb, off + q * 7 + 4, none⟩ = some (.int .i64 x.t.2.2.1) ∧ W.cell? ⟨tb, off + q * 7 + 5, none⟩ = some (.bool x.t.2.2.2) ∧ W.cell? ⟨tb, off + q * 7 + 6, none⟩ = some (.bool x.st))
     (first | (exact HK.out _ hBc) | (exact HK.out _ (bdrew _)))
     ((go_at_call 45; refine (HBq.out _ (bdrew _)).mono ?_; rintro e w2 ⟨rfl, hb2⟩; have hBc : Below w1.heap.size w1 w2 := bstep (bdrew _) hb2))
    rename_i hheld
    clear hheld
    have HB2 : Hid (Below w1.heap.size w1 w2) := hBc
    clear hb2 hBc c0 c1 c2 c3 k0 k1 k2 k3 k4 k5 k6
    go_wp2_with fail
    go_loopw [5, 6, 29] (fun av _ z wr => ∃ i : Nat, i ≤ q ∧ z = .int .i64 i ∧ av = .int .i64 ((B : Int) + (fwdN g x i : Int)) ∧ Hid (Below w1.heap.size w1 wr)) (fun _ _ z _ => q - (intOf z).toNat)
    case atStart => exact ⟨0, Nat.zero_le _, rfl, by simp [fwdN], HB2.out⟩
    case round =>
     obtain ⟨i, hi, rfl, rfl, HB⟩ := hrel
     by_cases hil : i < q
     ·have hii : (i : Int) < (q : Int) := by omega
      have hif : i < g.fs.length := by omega
      have hifi : (i : Int) < (g.fs.length : Int) := by omega
      have HT := HTk.out i hif
      have h512 := HFw2.out i
      have h513 := HFw2.out (i + 1)
      rw [HT] at h513
      have HT : Hid _ := HT
      obtain ⟨y, hy⟩ : ∃ y, y = g.fs[i] := ⟨_, rfl⟩
      have HEy : Hid (∀ W, Below w1.heap.size w1 W → El fdE W tb (off + i * 7) y) := fun W hW => by rw [hy]; exact HEl.out W i hif hW
      have HCy : Hid (∀ W, Below w1.heap.size w1 W → AnsT 41 #[.agg #[.slice g.ta g.ts.length g.tc, .slice (some ⟨tb, off, none⟩) g.fs.length g.fc, .slice g.ma g.ms.length g.mc, .int .i64 g.en], .agg #[.int .i64 y.t.1, .int .i64 y.t.2.1, .int .i64 y.t.2.2.1, .bool y.t.2.2.2]] W (celL g y.t)) := fun W hW => by rw [hy]; exact HCq.out W i hif hW
      rw [← hy] at HT h513
      clear hy
      have HTo : Hid (∀ W, Ans 46 #[.agg #[.string y.nm, .int .i64 y.ow, .int .i64 y.t.1, .int .i64 y.t.2.1, .int .i64 y.t.2.2.1, .bool y.t.2.2.2, .bool y.st], .agg #[.string x.nm, .int .i64 x.ow, .int .i64 x.t.1, .int .i64 x.t.2.1, .int .i64 x.t.2.2.1, .bool x.t.2.2.2, .bool x.st]] W (.bool (togB y x))) := fun W => together_any y x W
      have HK2 : Hid (∀ W, Below wr.heap.size wr W → ((W.cell? ⟨w.heap.size, 0, none⟩ = some (.slice g.ta g.ts.length g.tc) ∧ W.cell? ⟨w.heap.size, 1, none⟩ = some (.slice (some ⟨tb, off, none⟩) g.fs.length g.fc) ∧ W.cell? ⟨w.heap.size, 2, none⟩ = some (.slice g.ma g.ms.length g.mc) ∧ W.cell? ⟨w.heap.size, 3, none⟩ = some (.int .i64 g.en)) ∧ W.cell? ⟨tb, off + q * 7, none⟩ = some (.string x.nm) ∧ W.cell? ⟨tb, off + q * 7 + 1, none⟩ = some (.int .i64 x.ow) ∧ W.cell? ⟨tb, off + q * 7 + 2, none⟩ = some (.int .i64 x.t.1) ∧ W.cell? ⟨tb, off + q * 7 + 3, none⟩ = some (.int .i64 x.t.2.1) ∧ W.cell? ⟨tb, off + q * 7 + 4, none⟩ = some (.int .i64 x.t.2.2.1) ∧ W.cell? ⟨tb, off + q * 7 + 5, none⟩ = some (.bool x.t.2.2.2) ∧ W.cell? ⟨tb, off + q * 7 + 6, none⟩ = some (.bool x.st)) ∧ W.cell? ⟨tb, off + i * 7, none⟩ = some (.string y.nm) ∧ W.cell? ⟨tb, off + i * 7 + 1, none⟩ = some (.int .i64 y.ow) ∧ W.cell? ⟨tb, off + i * 7 + 2, none⟩ = some (.int .i64 y.t.1) ∧ W.cell? ⟨tb, off + i * 7 + 3, none⟩ = some (.int .i64 y.t.2.1) ∧ W.cell? ⟨tb, off + i * 7 + 4, none⟩ = some (.int .i64 y.t.2.2.1) ∧ W.cell? ⟨tb, off + i * 7 + 5, none⟩ = some (.bool y.t.2.2.2) ∧ W.cell? ⟨tb, off + i * 7 + 6, none⟩ = some (.bool y.st)) := fun W hW => ⟨HK.out W (bstep HB.out hW), (HEy.out W (bstep HB.out hW)).cells_F⟩
      obtain ⟨⟨⟨c0, c1, c2, c3⟩, k0, k1, k2, k3, k4, k5, k6⟩, l0, l1, l2, l3, l4, l5, l6⟩ := HK2.out wr (Below.refl _ _)
      go_wp2_with fail
      go_region_held3 (fun W : World => ((W.cell? ⟨w.heap.size, 0, none⟩ = some (.slice g.ta g.ts.length g.tc) ∧ W.cell? ⟨w.heap.size, 1, none⟩ = some (.slice (some ⟨tb, off, none⟩) g.fs.length g.fc) ∧ W.cell? ⟨w.heap.size, 2, none⟩ = some (.slice g.ma g.ms.length g.mc) ∧ W.cell? ⟨w.heap.size, 3, none⟩ = some (.int .i64 g.en)) ∧ W.cell? ⟨tb, off + q * 7, none⟩ = some (.string x.nm) ∧ W.cell? ⟨tb, off + q * 7 + 1, none⟩ = some (.int .i64 x.ow) ∧ W.cell? ⟨tb, off + q * 7 + 2, none⟩ = some (.int .i64 x.t.1) ∧ W.cell? ⟨tb, off + q * 7 + 3, none⟩ = some (.int .i64 x.t.2.1) ∧ W.cell? ⟨tb, off + q * 7 + 4, none⟩ = some (.int .i64 x.t.2.2.1) ∧ W.cell? ⟨tb, off + q * 7 + 5, none⟩ = some (.bool x.t.2.2.2) ∧ W.cell? ⟨tb, off + q * 7 + 6, none⟩ = some (.bool x.st)) ∧ W.cell? ⟨tb, off + i * 7, none⟩ = some (.string y.nm) ∧ W.cell? ⟨tb, off + i * 7 + 1, none⟩ = some (.int .i64 y.ow) ∧ W.cell? ⟨tb, off + i * 7 + 2, none⟩ = some (.int .i64 y.t.1) ∧ W.cell? ⟨tb, off + i * 7 + 3, none⟩ = some (.int .i64 y.t.2.1) ∧ W.cell? ⟨tb, off + i * 7 + 4, none⟩ = some (.int .i64 y.t.2.2.1) ∧ W.cell? ⟨tb, off + i * 7 + 5, none⟩ = some (.bool y.t.2.2.2) ∧ W.cell? ⟨tb, off + i * 7 + 6, none⟩ = some (.bool y.st))
       (first | (exact HK2.out _ hBc) | (exact HK2.out _ (bdrew _)))
       ((go_at_call 46; refine (HTo.out _).mono ?_; rintro e w3 ⟨rfl, hb3⟩; have hBc : Below wr.heap.size wr w3 := bstep (bdrew _) hb3))
      rename_i hheld
      clear hheld
      have HB3 : Hid (Below w1.heap.size w1 w3) := bstep HB.out hBc
      clear hb3 hBc c0 c1 c2 c3 k0 k1 k2 k3 k4 k5 k6 l0 l1 l2 l3 l4 l5 l6 HK2 HTo
      cases htg : togB y x with
      | false =>
       have HT2 : Hid (fwdN g x (i + 1) = fwdN g x i) := by show _ = _; rw [HT.out, htg]; rfl
       clear htg HT h513
       go_wp2_with fail
       go_roundw
       case rel => exact ⟨i + 1, by omega, by go_num, by rw [HT2.out], HB3.out⟩
       case measure => simp [intOf]; omega
      | true =>
       have HT2 : Hid (fwdN g x (i + 1) = fwdN g x i + (celL g y.t).length) := by show _ = _; rw [HT.out, htg, if_pos rfl]
       rw [htg, if_pos rfl] at h513
       clear htg HT
       have HK3 : Hid (∀ W, Below w3.heap.size w3 W → (W.cell? ⟨w.heap.size, 0, none⟩ = some (.slice g.ta g.ts.length g.tc) ∧ W.cell? ⟨w.heap.size, 1, none⟩ = some (.slice (some ⟨tb, off, none⟩) g.fs.length g.fc) ∧ W.cell? ⟨w.heap.size, 2, none⟩ = some (.slice g.ma g.ms.length g.mc) ∧ W.cell? ⟨w.heap.size, 3, none⟩ = some (.int .i64 g.en)) ∧ W.cell? ⟨tb, off + i * 7, none⟩ = some (.string y.nm) ∧ W.cell? ⟨tb, off + i * 7 + 1, none⟩ = some (.int .i64 y.ow) ∧ W.cell? ⟨tb, off + i * 7 + 2, none⟩ = some (.int .i64 y.t.1) ∧ W.cell? ⟨tb, off + i * 7 + 3, none⟩ = some (.int .i64 y.t.2.1) ∧ W.cell? ⟨tb, off + i * 7 + 4, none⟩ = some (.int .i64 y.t.2.2.1) ∧ W.cell? ⟨tb, off + i * 7 + 5, none⟩ = some (.bool y.t.2.2.2) ∧ W.cell? ⟨tb, off + i * 7 + 6, none⟩ = some (.bool y.st)) := fun W hW => ⟨HK4.out W (bstep HB3.out hW), (HEy.out W (bstep HB3.out hW)).cells_F⟩
       have HCz : Hid (∀ W, Below w3.heap.size w3 W → AnsT 41 #[.agg #[.slice g.ta g.ts.length g.tc, .slice (some ⟨tb, off, none⟩) g.fs.length g.fc, .slice g.ma g.ms.length g.mc, .int .i64 g.en], .agg #[.int .i64 y.t.1, .int .i64 y.t.2.1, .int .i64 y.t.2.2.1, .bool y.t.2.2.2]] W (celL g y.t)) := fun W hW => HCy.out W (bstep HB3.out hW)
       obtain ⟨⟨c0, c1, c2, c3⟩, l0, l1, l2, l3, l4, l5, l6⟩ := HK3.out w3 (Below.refl _ _)
       generalize celL g y.t = C at *
       generalize fwdN g x i = N at *
       go_wp2_with fail
       go_region_held3 (fun W : World => (W.cell? ⟨w.heap.size, 0, none⟩ = some (.slice g.ta g.ts.length g.tc) ∧ W.cell? ⟨w.heap.size, 1, none⟩ = some (.slice (some ⟨tb, off, none⟩) g.fs.length g.fc) ∧ W.cell? ⟨w.heap.size, 2, none⟩ = some (.slice g.ma g.ms.length g.mc) ∧ W.cell? ⟨w.heap.size, 3, none⟩ = some (.int .i64 g.en)) ∧ W.cell? ⟨tb, off + i * 7, none⟩ = some (.string y.nm) ∧ W.cell? ⟨tb, off + i * 7 + 1, none⟩ = some (.int .i64 y.ow) ∧ W.cell? ⟨tb, off + i * 7 + 2, none⟩ = some (.int .i64 y.t.1) ∧ W.cell? ⟨tb, off + i * 7 + 3, none⟩ = some (.int .i64 y.t.2.1) ∧ W.cell? ⟨tb, off + i * 7 + 4, none⟩ = some (.int .i64 y.t.2.2.1) ∧ W.cell? ⟨tb, off + i * 7 + 5, none⟩ = some (.bool y.t.2.2.2) ∧ W.cell? ⟨tb, off + i * 7 + 6, none⟩ = some (.bool y.st))
        (first | (exact HK3.out _ hBc) | (exact HK3.out _ (bdrew _)))
        ((go_at_call 41; refine (HCz.out _ (bdrew _)).mono ?_; rintro e w4 ⟨hv, rfl, hv2, hb4⟩; obtain ⟨ha, hc2, hvv, _, hhc⟩ := hv2.shape; subst hvv; have hBc : Below w3.heap.size w3 w4 := bstep (bdrew _) hb4))
       rename_i hheld
       clear hheld
       have HB4 : Hid (Below w1.heap.size w1 w4) := bstep HB3.out hBc
       clear hv2 hb4 hBc c0 c1 c2 c3 l0 l1 l2 l3 l4 l5 l6 HK3 HCz HCy
       go_wp2_with fail
       go_roundw
       case rel => exact ⟨i + 1, by omega, by go_num, by rw [HT2.out]; simp [IntKind.wrap, IntKind.bits, IntKind.signed]; omega, HB4.out⟩
       case measure => simp [intOf]; omega
     ·have hii : ¬ (i : Int) < (q : Int) := by omega
      have hie : i = q := by omega
      have HRR : Hid (R = (B : Int) + (fwdN g x i : Int)) := by show _ = _; rw [HR2.out, HR3.out, hie]; omega
      clear hie
      go_wp2_with fail
      go_ret
      exact ⟨ret_int (by rw [HRR.out]), bstep HB0.out (bstep HB1.out HB.out)⟩
   ·have HR3 : Hid (R0 = -1) := HOut.out (by omega)
    go_wp2_with fail
    go_ret
    exact ⟨ret_int (by rw [HR2.out, HR3.out]), bstep HB0.out HB1.out⟩
/-- Two classes, of which the second extends the first one, with a field each. -/
def gLI (a b : Option Addr) : Img := ⟨a, 2, [⟨⟨#[65]⟩, 0, -1, none, 0, []⟩, ⟨⟨#[66]⟩, 0, 0, none, 0, []⟩], b, 2, [⟨⟨#[108]⟩, 0, (3, 0, 0, false), false⟩, ⟨⟨#[105]⟩, 1, (2, 0, 0, false), false⟩], none, 0, [], -1⟩
theorem gLI_agg (a b : Option Addr) : imA4 (gLI a b) = .agg #[.slice a 2 2, .slice b 2 2, .slice none 0 0, .int .i64 (-1)] := by kernel_rfl
theorem gLI_chk (a b : Option Addr) : lchI (gLI a b) = (0, 0) := by kernel_rfl
theorem gLI_p0 (a b : Option Addr) : pla12 (gLI a b) 0 = 1 := by kernel_rfl
theorem gLI_p1 (a b : Option Addr) : pla12 (gLI a b) 1 = 2 := by kernel_rfl
theorem gLI_obj (a b : Option Addr) : (obj12 (gLI a b) 1).length = 2 := by kernel_rfl
theorem gLI_im {w w1 w2 : World} (h1 : w1 = w.alloc (.cells #[.string ⟨#[65]⟩, .int .i64 0, .int .i64 (-1), .slice none 0 0, .string ⟨#[66]⟩, .int .i64 0, .int .i64 0, .slice none 0 0] 54))
  (h2 : w2 = w1.alloc (.cells #[.string ⟨#[108]⟩, .int .i64 0, .int .i64 3, .int .i64 0, .int .i64 0, .bool false, .bool false, .string ⟨#[105]⟩, .int .i64 1, .int .i64 2, .int .i64 0, .int .i64 0, .bool false, .bool false] 50)) :
  Below w.heap.size w w2 ∧ Im w2 (gLI (some ⟨w.heap.size, 0, none⟩) (some ⟨w1.heap.size, 0, none⟩)) := by
 have hb1 : Below w.heap.size w w1 := by rw [h1]; exact made_below _ _ _
 have hb2 : Below w1.heap.size w1 w2 := by rw [h2]; exact made_below _ _ _
 refine ⟨bstep hb1 hb2, ?_, fun x hx => ?_, ?_, Es.nil _ _, fun x hx => absurd hx (by simp [gLI])⟩
 ·refine Es.later (w := w1) ?_ hb2
  rw [h1]
  exact (OwnE.lit tdE w 0 54 [⟨⟨#[65]⟩, 0, -1, none, 0, []⟩, ⟨⟨#[66]⟩, 0, 0, none, 0, []⟩] _ 2 (Nat.zero_le _) rfl rfl (by simp [maxLen])).es
 ·simp only [gLI, List.mem_cons, List.not_mem_nil, or_false] at hx
  rcases hx with rfl | rfl <;> exact Es.nil _ _
 ·rw [h2]
  exact (OwnE.lit fdE w1 0 50 [⟨⟨#[108]⟩, 0, (3, 0, 0, false), false⟩, ⟨⟨#[105]⟩, 1, (2, 0, 0, false), false⟩] _ 2 (Nat.zero_le _) rfl rfl (by simp [maxLen])).es

set_option maxHeartbeats 4000000 in
theorem wakes12_any (w : World) : Ans 9 #[] w (.bool true) := by
 obtain ⟨w1, hw1⟩ : ∃ W, W = w.alloc (.cells #[.string ⟨#[65]⟩, .int .i64 0, .int .i64 (-1), .slice none 0 0, .string ⟨#[66]⟩, .int .i64 0, .int .i64 0, .slice none 0 0] 54) := ⟨_, rfl⟩
 obtain ⟨w2, hw2⟩ : ∃ W, W = w1.alloc (.cells #[.string ⟨#[108]⟩, .int .i64 0, .int .i64 3, .int .i64 0, .int .i64 0, .bool false, .bool false, .string ⟨#[105]⟩, .int .i64 1, .int .i64 2, .int .i64 0, .int .i64 0, .bool false, .bool false] 50) := ⟨_, rfl⟩
 obtain ⟨hb2, hi2⟩ := gLI_im hw1 hw2
 obtain ⟨w3, hw3⟩ : ∃ W, W = w2.alloc (.cells #[.slice (some ⟨w.heap.size, 0, none⟩) 2 2, .slice (some ⟨w1.heap.size, 0, none⟩) 2 2, .slice none 0 0, .int .i64 (-1)] 26) := ⟨_, rfl⟩
 have hb3 : Below w2.heap.size w2 w3 := by rw [hw3]; exact made_below _ _ _
 have hbx : At w3 w2.heap.size #[.slice (some ⟨w.heap.size, 0, none⟩) 2 2, .slice (some ⟨w1.heap.size, 0, none⟩) 2 2, .slice none 0 0, .int .i64 (-1)] 26 := by rw [hw3]; exact At.made _ _ _
 have HB3 : Hid (Below w.heap.size w w3) := bstep hb2 hb3
 have HBx : Hid (∀ W, Below w3.heap.size w3 W → At W w2.heap.size #[.slice (some ⟨w.heap.size, 0, none⟩) 2 2, .slice (some ⟨w1.heap.size, 0, none⟩) 2 2, .slice none 0 0, .int .i64 (-1)] 26) := fun W hW => hbx.later hW
 have HIm : Hid (∀ W, Below w3.heap.size w3 W → Im W (gLI (some ⟨w.heap.size, 0, none⟩) (some ⟨w1.heap.size, 0, none⟩))) := fun W hW => (hi2.later hb3).later hW
 have HW1 : Hid (w1 = _) := hw1
 have HW2 : Hid (w2 = _) := hw2
 have HW3 : Hid (w3 = _) := hw3
 have HCk : Hid (Ans 12 #[.agg #[.slice (some ⟨w.heap.size, 0, none⟩) 2 2, .slice (some ⟨w1.heap.size, 0, none⟩) 2 2, .slice none 0 0, .int .i64 (-1)]] w3 (.tuple #[.int .i64 0, .int .i64 0])) := by
  have := check12_any (HIm.out w3 (Below.refl _ _))
  rw [gLI_agg, gLI_chk] at this; exact this
 have HP0 : Hid (∀ W, Below w3.heap.size w3 W → Ans 25 #[.agg #[.slice (some ⟨w.heap.size, 0, none⟩) 2 2, .slice (some ⟨w1.heap.size, 0, none⟩) 2 2, .slice none 0 0, .int .i64 (-1)], .int .i64 0] W (.int .i64 1)) := fun W hW => by
  have := place_any (f := 0) (HIm.out W hW)
  rw [gLI_agg, gLI_p0] at this; exact this
 have HP1 : Hid (∀ W, Below w3.heap.size w3 W → Ans 25 #[.agg #[.slice (some ⟨w.heap.size, 0, none⟩) 2 2, .slice (some ⟨w1.heap.size, 0, none⟩) 2 2, .slice none 0 0, .int .i64 (-1)], .int .i64 1] W (.int .i64 2)) := fun W hW => by
  have := place_any (f := 1) (HIm.out W hW)
  rw [gLI_agg, gLI_p1] at this; exact this
 have HOb : Hid (∀ W, Below w3.heap.size w3 W → Calls Tryz.prog 23 #[.agg #[.slice (some ⟨w.heap.size, 0, none⟩) 2 2, .slice (some ⟨w1.heap.size, 0, none⟩) 2 2, .slice none 0 0, .int .i64 (-1)], .int .i64 1] W fun e w' => (∃ a c, e = .returned (.slice a 2 c)) ∧ Below W.heap.size W w') := fun W hW => by
  have := object_any (t := 1) (HIm.out W hW) (wf_of (by omega))
  rw [gLI_agg] at this
  refine this.mono ?_
  rintro e w' ⟨v, rfl, ho, hb⟩
  obtain ⟨a, c, hv, _, _⟩ := ho.shape
  rw [gLI_obj] at hv
  exact ⟨⟨a, c, by rw [hv]⟩, hb⟩
 have x3 := hbx.cell
 clear hw1 hw2 hw3 hb2 hb3 hi2 hbx HIm
 go_enter Tryz.func9, Tryz.ntmps9
 go_wp2_with (first | (rw [← HW3.out]) | (rw [← HW2.out]) | (rw [← HW1.out]))
 refine Calls.mono HCk.out ?_
 rintro e w5 ⟨rfl, hb5⟩
 have HB5 : Hid (Below w3.heap.size w3 w5) := hb5
 have x5 := (HBx.out w5 hb5).cell
 clear x3 hb5
 go_wp2_with fail
 refine Calls.mono (HP0.out w5 HB5.out) ?_
 rintro e w6 ⟨rfl, hb6⟩
 have HB6 : Hid (Below w3.heap.size w3 w6) := bstep HB5.out hb6
 have x6 := (HBx.out w6 HB6.out).cell
 clear x5 hb6
 go_wp2_with fail
 refine Calls.mono (HP1.out w6 HB6.out) ?_
 rintro e w7 ⟨rfl, hb7⟩
 have HB7 : Hid (Below w3.heap.size w3 w7) := bstep HB6.out hb7
 have x7 := (HBx.out w7 HB7.out).cell
 clear x6 hb7
 go_wp2_with fail
 refine Calls.mono (HOb.out w7 HB7.out) ?_
 rintro e w8 ⟨⟨a, c, rfl⟩, hb8⟩
 have HB8 : Hid (Below w3.heap.size w3 w8) := bstep HB7.out hb8
 clear x7 hb8
 go_wp2_with fail
 go_ret
 exact ⟨rfl, bstep HB3.out HB8.out⟩
end Go.Proofs.YtkjailahaopehaaGreat
