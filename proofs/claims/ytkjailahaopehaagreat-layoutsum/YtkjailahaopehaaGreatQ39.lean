/- Texts joined: LayTell, LayPlace. -/
import Derived.Test.YtkjailahaopehaaGreatQ38
import Derived.Deep.RegionHeld3
namespace Go.Proofs.YtkjailahaopehaaGreat
set_option linter.unusedVariables false
set_option linter.unusedSimpArgs false
open Go.RowKit
attribute [local go_sem ↓] Go.wp_at_zero Go.wp_at_succ
theorem Fin_.wu {g : Img} (F : Fin_ g) : WU g := ⟨F.wel, F.used⟩
def cel12 (g : Img) (t : Ty) : List Ty := if finB g = true then (if usdB g t = true then celL g t else []) else []
def obj12 (g : Img) (t : Int) : List Ty := if finB g = true then (if kndI g t = 0 then objL g t else []) else []
def sta12 (g : Img) : List Ty := if finB g = true then statL g g.fs.length else []
/-- Answers types, in memory of its own. -/
abbrev AnsT (f : FuncId) (xs : Array Value) (W : World) (l : List Ty) : Prop := Calls Tryz.prog f xs W fun e w' => ∃ v, e = .returned v ∧ OwnE tyE w' W.heap.size 37 v l ∧ Below W.heap.size W w'

theorem cellsF_any {g : Img} (F : Fin_ g) {t : Ty} {w : World} (hg : Im w g) (hu : usdB g t = true) : AnsT 41 #[imA4 g, .agg #[.int .i64 t.1, .int .i64 t.2.1, .int .i64 t.2.2.1, .bool t.2.2.2]] w (celL g t) := by
 refine (cells12_any F.used F.wel hg hu).mono ?_
 rintro e w' ⟨v, rfl, l, ho, hc, hn, hb⟩
 have := hc.le (Nat.le_trans (F.cel8 hu) (by decide))
 subst this
 exact ⟨v, rfl, ho, hb⟩
theorem objectF_any {g : Img} (F : Fin_ g) {t : Int} {w : World} (hg : Im w g) (hk : kndI g t = 0 ∨ numB t g.ts.length = false) (hwf : Wf t) : AnsT 44 #[imA4 g, .int .i64 t] w (objL g t) := by
 refine (objectOf_any hg F.wu hwf).mono ?_
 rintro e w' ⟨v, rfl, l, ho, hc, hn, hb⟩
 have hle : (objL g t).length ≤ 32 := by
  rcases hk with hk | hk
  ·exact F.cls _ hk
  ·rw [objL_out hk]; simp
 have := hc.le hle
 subst this
 exact ⟨v, rfl, ho, hb⟩

set_option maxHeartbeats 2000000 in
theorem cellsT_any {g : Img} (t : Ty) {w : World} (hg : Im w g) : AnsT 18 #[imA4 g, .agg #[.int .i64 t.1, .int .i64 t.2.1, .int .i64 t.2.2.1, .bool t.2.2.2]] w (cel12 g t) := by
 obtain ⟨w0, HW0, HB0, HC, HI⟩ := img_type_head hg t
 have HIs : Hid (Ans 40 #[imA4 g] w0 (.bool (finB g))) := isWell12_any (HI.out w0 (Below.refl _ _))
 have HUw : Hid (∀ W, Below w0.heap.size w0 W → finB g = true → Ans 33 #[imA4 g, .agg #[.int .i64 t.1, .int .i64 t.2.1, .int .i64 t.2.2.1, .bool t.2.2.2]] W (.bool (usdB g t))) := fun W hW hf => usedWell_any t (HI.out W hW) (Fin_.of hf).wu.im
 have HCe : Hid (∀ W, Below w0.heap.size w0 W → finB g = true → usdB g t = true → AnsT 41 #[imA4 g, .agg #[.int .i64 t.1, .int .i64 t.2.1, .int .i64 t.2.2.1, .bool t.2.2.2]] W (celL g t)) := fun W hW hf hu => cellsF_any (Fin_.of hf) (HI.out W hW) hu
 have HR : Hid (cel12 g t = if finB g = true then (if usdB g t = true then celL g t else []) else []) := rfl
 obtain ⟨⟨c0, c1, c2, c3⟩, d0, d1, d2, d3⟩ := HC.out w0 (Below.refl _ _)
 unfold imA4 at HIs HUw HCe ⊢
 clear hg HI
 generalize cel12 g t = R at *
 generalize celL g t = C at *
 generalize finB g = b1 at *
 generalize usdB g t = b2 at *
 go_enter Tryz.func18, Tryz.ntmps18
 go_wp2_with (rw [← HW0.out])
 refine Calls.mono HIs.out ?_
 rintro e w1 ⟨rfl, hb1⟩
 have HB1 : Hid (Below w0.heap.size w0 w1) := hb1
 clear hb1 c0 c1 c2 c3 d0 d1 d2 d3 HIs
 obtain ⟨⟨c0, c1, c2, c3⟩, d0, d1, d2, d3⟩ := HC.out w1 HB1.out
 cases b1 with
 | false =>
  have HR2 : Hid (R = []) := by show _ = _; rw [HR.out]; rfl
  go_wp2_with fail
  go_ret
  exact ⟨_, rfl, by rw [HR2.out]; exact OwnE.nil _ _ _ _, bstep HB0.out HB1.out⟩
 | true =>
  go_wp2_with fail
  refine Calls.mono (HUw.out w1 HB1.out (by trivial)) ?_
  rintro e w2 ⟨rfl, hb2⟩
  have HB2 : Hid (Below w0.heap.size w0 w2) := bstep HB1.out hb2
  clear hb2 c0 c1 c2 c3 d0 d1 d2 d3
  obtain ⟨⟨c0, c1, c2, c3⟩, d0, d1, d2, d3⟩ := HC.out w2 HB2.out
  cases b2 with
  | false =>
   have HR2 : Hid (R = []) := by show _ = _; rw [HR.out]; rfl
   go_wp2_with fail
   go_ret
   exact ⟨_, rfl, by rw [HR2.out]; exact OwnE.nil _ _ _ _, bstep HB0.out HB2.out⟩
  | true =>
   have HR2 : Hid (R = C) := by show _ = _; rw [HR.out]; rfl
   go_wp2_with fail
   refine Calls.mono (HCe.out w2 HB2.out (by trivial) (by trivial)) ?_
   rintro e w3 ⟨v, rfl, ho, hb3⟩
   have HB3 : Hid (Below w0.heap.size w0 w3) := bstep HB2.out hb3
   have HO : Hid (OwnE tyE w3 w2.heap.size 37 v C) := ho
   clear hb3 ho c0 c1 c2 c3 d0 d1 d2 d3
   go_wp2_with fail
   go_ret
   exact ⟨_, rfl, by rw [HR2.out]; exact HO.out.mono (Nat.le_trans HB0.out.size HB2.out.size), bstep HB0.out HB3.out⟩

set_option maxHeartbeats 1000000 in
theorem words_any {g : Img} (t : Ty) {w : World} (hg : Im w g) : Ans 19 #[imA4 g, .agg #[.int .i64 t.1, .int .i64 t.2.1, .int .i64 t.2.2.1, .bool t.2.2.2]] w (.int .i64 (cel12 g t).length) := by
 obtain ⟨w0, HW0, HB0, HC, HI⟩ := img_type_head hg t
 have HCe : Hid (AnsT 18 #[imA4 g, .agg #[.int .i64 t.1, .int .i64 t.2.1, .int .i64 t.2.2.1, .bool t.2.2.2]] w0 (cel12 g t)) := cellsT_any t (HI.out w0 (Below.refl _ _))
 obtain ⟨⟨c0, c1, c2, c3⟩, d0, d1, d2, d3⟩ := HC.out w0 (Below.refl _ _)
 unfold imA4 at HCe ⊢
 clear hg HI
 generalize cel12 g t = R at *
 go_enter Tryz.func19, Tryz.ntmps19
 go_wp2_with (rw [← HW0.out])
 refine Calls.mono HCe.out ?_
 rintro e w1 ⟨v, rfl, ho, hb1⟩
 have HB1 : Hid (Below w.heap.size w w1) := bstep HB0.out hb1
 obtain ⟨a, c, rfl, _, _⟩ := ho.shape
 clear hb1 ho c0 c1 c2 c3 d0 d1 d2 d3 HCe
 go_wp2_with fail
 go_ret
 exact ⟨rfl, HB1.out⟩

set_option maxHeartbeats 2000000 in
theorem object_any {g : Img} {t : Int} {w : World} (hg : Im w g) (hwf : Wf t) : AnsT 23 #[imA4 g, .int .i64 t] w (obj12 g t) := by
 obtain ⟨w0, HW0, HB0, HG, HC, HI, c0, c1, c2, c3⟩ := img_head hg
 have HIs : Hid (Ans 40 #[imA4 g] w0 (.bool (finB g))) := isWell12_any (HI.out w0 (Below.refl _ _))
 have HKn : Hid (∀ W, Below w0.heap.size w0 W → finB g = true → Ans 43 #[imA4 g, .int .i64 t] W (.int .i64 (kndI g t))) := fun W hW hf => kind_any t (HI.out W hW) (FlOk.of (Fin_.of hf).wu.im)
 have HOb : Hid (∀ W, Below w0.heap.size w0 W → finB g = true → kndI g t = 0 → AnsT 44 #[imA4 g, .int .i64 t] W (objL g t)) := fun W hW hf hk => objectF_any (Fin_.of hf) (HI.out W hW) (Or.inl hk) hwf
 have HR : Hid (obj12 g t = if finB g = true then (if kndI g t = 0 then objL g t else []) else []) := rfl
 have HCl : Hid (∀ W, Below w0.heap.size w0 W → Im4 W w.heap.size g) := HC.out
 unfold imA4 at HIs HKn HOb ⊢
 clear hg HI HC hwf
 generalize obj12 g t = R at *
 generalize objL g t = C at *
 generalize finB g = b1 at *
 generalize kndI g t = kn at *
 go_enter Tryz.func23, Tryz.ntmps23
 go_wp2_with (rw [← HW0.out])
 refine Calls.mono HIs.out ?_
 rintro e w1 ⟨rfl, hb1⟩
 have HB1 : Hid (Below w0.heap.size w0 w1) := hb1
 clear hb1 c0 c1 c2 c3 HIs
 obtain ⟨c0, c1, c2, c3⟩ := HCl.out w1 HB1.out
 cases b1 with
 | false =>
  have HR2 : Hid (R = []) := by show _ = _; rw [HR.out]; rfl
  go_wp2_with fail
  go_ret
  exact ⟨_, rfl, by rw [HR2.out]; exact OwnE.nil _ _ _ _, bstep HB0.out HB1.out⟩
 | true =>
  go_wp2_with fail
  refine Calls.mono (HKn.out w1 HB1.out (by trivial)) ?_
  rintro e w2 ⟨rfl, hb2⟩
  have HB2 : Hid (Below w0.heap.size w0 w2) := bstep HB1.out hb2
  clear hb2 c0 c1 c2 c3
  obtain ⟨c0, c1, c2, c3⟩ := HCl.out w2 HB2.out
  by_cases hk : kn = 0
  ·subst hk
   have HR2 : Hid (R = C) := by show _ = _; rw [HR.out]; rfl
   go_wp2_with fail
   refine Calls.mono (HOb.out w2 HB2.out (by trivial) (by trivial)) ?_
   rintro e w3 ⟨v, rfl, ho, hb3⟩
   have HB3 : Hid (Below w0.heap.size w0 w3) := bstep HB2.out hb3
   have HO : Hid (OwnE tyE w3 w2.heap.size 37 v C) := ho
   clear hb3 ho c0 c1 c2 c3
   go_wp2_with fail
   go_ret
   exact ⟨_, rfl, by rw [HR2.out]; exact HO.out.mono (Nat.le_trans HB0.out.size HB2.out.size), bstep HB0.out HB3.out⟩
  ·have hkb : (kn != 0) = true := by simpa using hk
   have HR2 : Hid (R = []) := by show _ = _; rw [HR.out, if_pos (by trivial), if_neg hk]
   clear hk
   go_wp2_with fail
   go_ret
   exact ⟨_, rfl, by rw [HR2.out]; exact OwnE.nil _ _ _ _, bstep HB0.out HB2.out⟩

theorem stat_take {g : Img} {q : Nat} (hq : q < g.fs.length) : statL g (q + 1) = statL g q ++ (if g.fs[q].st = true then celL g g.fs[q].t else []) := by
 unfold statL
 rw [List.take_succ_eq_append_getElem hq, List.filter_append, List.flatMap_append]
 congr 1
 cases h : g.fs[q].st <;> simp [List.filter_cons, h]
theorem stat_len {g : Img} (F : Fin_ g) (q : Nat) : (statL g q).length ≤ 8 * 64 := by
 unfold statL
 have h64 := (im_len F.wu.im).2.1
 have : ∀ l : List FD, (∀ x ∈ l, usdB g x.t = true) → (l.flatMap (fun x => celL g x.t)).length ≤ 8 * l.length := by
  intro l
  induction l with
  | nil => intro _; simp
  | cons a r ih =>
   intro h
   rw [List.flatMap_cons, List.length_append, List.length_cons]
   have h1 := F.cel8 (h a (by simp))
   have h2 := ih (fun x hx => h x (List.mem_cons_of_mem _ hx))
   omega
 have h1 := this ((g.fs.take q).filter (·.st)) (fun x hx => F.used x (List.mem_of_mem_take (List.mem_filter.1 hx).1))
 have h2 := List.length_filter_le (·.st) (g.fs.take q)
 rw [List.length_take] at h2
 omega

set_option maxHeartbeats 8000000 in
set_option maxRecDepth 20000 in
theorem statics_any {g : Img} {w : World} (hg : Im w g) : AnsT 24 #[imA4 g] w (sta12 g) := by
 obtain ⟨w0, HW0, HB0, HG, HC, HI, c0, c1, c2, c3⟩ := img_head hg
 have hfl := hg.fs.len
 unfold maxLen at hfl
 have HIs : Hid (Ans 40 #[imA4 g] w0 (.bool (finB g))) := isWell12_any (HI.out w0 (Below.refl _ _))
 have HFs : Hid (∀ W, Below w0.heap.size w0 W → Es fdE W (.slice g.fa g.fs.length g.fc) g.fs) := fun W hW => (HI.out W hW).fs
 have HC4 : Hid (∀ W, Below w0.heap.size w0 W → Im4 W w.heap.size g) := HC.out
 have HCe : Hid (∀ W (i : Nat) (h : i < g.fs.length), Below w0.heap.size w0 W → finB g = true → AnsT 41 #[imA4 g, .agg #[.int .i64 g.fs[i].t.1, .int .i64 g.fs[i].t.2.1, .int .i64 g.fs[i].t.2.2.1, .bool g.fs[i].t.2.2.2]] W (celL g g.fs[i].t)) := fun W i h hW hf => cellsF_any (Fin_.of hf) (HI.out W hW) ((Fin_.of hf).used _ (List.getElem_mem h))
 have HR : Hid (sta12 g = if finB g = true then statL g g.fs.length else []) := rfl
 have HSl : Hid (finB g = true → ∀ q, (statL g q).length ≤ 8 * 64) := fun h q => stat_len (Fin_.of h) q
 unfold imA4 at HIs HCe ⊢
 unfold Im4 at HC4
 generalize g.fa = fa at *
 clear hg HC HI
 generalize sta12 g = R at *
 generalize finB g = b1 at *
 go_enter Tryz.func24, Tryz.ntmps24
 go_wp2_with (rw [← HW0.out])
 refine Calls.mono HIs.out ?_
 rintro e w1 ⟨rfl, hb1⟩
 have HB1 : Hid (Below w0.heap.size w0 w1) := hb1
 clear hb1 c0 c1 c2 c3 HIs
 obtain ⟨c0, c1, c2, c3⟩ := HC4.out w1 HB1.out
 cases b1 with
 | false =>
  have HR2 : Hid (R = []) := by show _ = _; rw [HR.out]; rfl
  go_wp2_with fail
  go_ret
  exact ⟨_, rfl, by rw [HR2.out]; exact OwnE.nil _ _ _ _, bstep HB0.out HB1.out⟩
 | true =>
  have HR2 : Hid (R = statL g g.fs.length) := by show _ = _; rw [HR.out]; rfl
  have HSq : Hid (∀ q, (statL g q).length ≤ 8 * 64) := HSl.out (by trivial)
  go_wp2_with fail
  clear c0 c1 c2 c3
  go_loopw [3, 5, 12] (fun lv _ z wr => ∃ i : Nat, i ≤ g.fs.length ∧ z = .int .i64 i ∧ Hid (OwnE tyE wr w1.heap.size 37 lv (statL g i)) ∧ Hid (Below w1.heap.size w1 wr)) (fun _ _ z _ => g.fs.length - (intOf z).toNat)
  case atStart => exact ⟨0, Nat.zero_le _, rfl, OwnE.nil _ _ _ _, Below.refl _ _⟩
  case round =>
   obtain ⟨i, hi, rfl, HO, HB⟩ := hrel
   by_cases hil : i < g.fs.length
   ·have hii : (i : Int) < (g.fs.length : Int) := by omega
    have hB01 : Below w0.heap.size w0 wr := bstep HB1.out HB.out
    obtain ⟨tb, off, cap, hla, _, _, htb, hc⟩ := (HFs.out wr hB01).parts (by intro e; rw [e] at hil; simp at hil)
    simp only [Value.slice.injEq] at hla
    obtain ⟨hla, -, hlc2⟩ := hla
    subst hla
    obtain ⟨k0, k1, k2, k3, k4, k5, k6⟩ := (show El fdE wr tb (off + i * 7) g.fs[i] from hc i hil).cells_F
    have HT : Hid (statL g (i + 1) = statL g i ++ (if g.fs[i].st = true then celL g g.fs[i].t else [])) := stat_take hil
    have HL : (statL g i).length ≤ 8 * 64 := HSq.out i
    have HL2 := HSq.out (i + 1)
    rw [HT.out, List.length_append] at HL2
    have HCq : Hid (∀ W, Below w0.heap.size w0 W → AnsT 41 #[.agg #[.slice g.ta g.ts.length g.tc, .slice (some ⟨tb, off, none⟩) g.fs.length g.fc, .slice g.ma g.ms.length g.mc, .int .i64 g.en], .agg #[.int .i64 g.fs[i].t.1, .int .i64 g.fs[i].t.2.1, .int .i64 g.fs[i].t.2.2.1, .bool g.fs[i].t.2.2.2]] W (celL g g.fs[i].t)) := fun W hW => HCe.out W i hil hW (by trivial)
    clear hc hlc2
    generalize g.fs[i] = x at *
    generalize statL g i = S at *
    obtain ⟨wA, hwA⟩ : ∃ W, W = wr.alloc (.cells #[.string x.nm, .int .i64 x.ow, .int .i64 x.t.1, .int .i64 x.t.2.1, .int .i64 x.t.2.2.1, .bool x.t.2.2.2, .bool x.st] 50) := ⟨_, rfl⟩
    have HWA : Hid (wA = _) := hwA
    have hbA : Below wr.heap.size wr wA := by rw [hwA]; exact made_below _ _ _
    have hAA : At wA wr.heap.size #[.string x.nm, .int .i64 x.ow, .int .i64 x.t.1, .int .i64 x.t.2.1, .int .i64 x.t.2.2.1, .bool x.t.2.2.2, .bool x.st] 50 := by rw [hwA]; exact At.made _ _ _
    have HBA : Hid (Below w1.heap.size w1 wA) := bstep HB.out hbA
    have HBA0 : Hid (Below w0.heap.size w0 wA) := bstep hB01 hbA
    have HOA : Hid (OwnE tyE wA w1.heap.size 37 u3 S) := HO.out.later hbA
    obtain ⟨c0, c1, c2, c3⟩ := HC4.out wA HBA0.out
    have a2 := hAA.cell 2
    have a3 := hAA.cell 3
    have a4 := hAA.cell 4
    have a5 := hAA.cell 5
    have a6 := hAA.cell 6
    simp at a2 a3 a4 a5 a6
    clear hwA hbA hAA HO hB01
    cases hst : x.st with
    | false =>
     have HT2 : Hid (statL g (i + 1) = S) := by show _ = _; rw [HT.out, hst]; simp
     rw [hst] at a6 k6 HWA
     clear hst HT
     go_wp2_with (rw [← HWA.out])
     go_roundw
     case rel => exact ⟨i + 1, by omega, by go_num, by rw [HT2.out]; exact HOA.out, HBA.out⟩
     case measure => simp [intOf]; omega
    | true =>
     have HT2 : Hid (statL g (i + 1) = S ++ celL g x.t) := by show _ = _; rw [HT.out, hst, if_pos rfl]
     rw [hst, if_pos rfl] at HL2
     rw [hst] at a6 k6 HWA
     clear hst HT
     go_wp2_with (rw [← HWA.out])
     refine Calls.mono (HCq.out wA HBA0.out) ?_
     rintro e w3 ⟨yv, rfl, hy, hb3⟩
     have HY : Hid (Es tyE w3 yv (celL g x.t)) := hy.es
     have HO3 : Hid (OwnE tyE w3 w1.heap.size 37 u3 S) := HOA.out.later hb3
     have HB3 : Hid (Below w1.heap.size w1 w3) := bstep HBA.out hb3
     clear hy hb3 c0 c1 c2 c3 a2 a3 a4 a5 a6 k0 k1 k2 k3 k4 k5 k6 HOA HWA HCq
     go_wp2_with (at_builtin; go_must (refine wpList_append_es tyE rfl (.tmp 18) (.tmp 22) 39 rfl w1.heap.size 37 _ 32 Tryz.underlying39 Tryz.info12Y rfl rfl rfl HO3.out HY.out (by unfold maxLen; omega) (by omega) HB3.out.size ?_; intro v5 w5 ho5 hg5; have hB5 := HB3.out.trans (grown_belowE HO3.out hg5 (Nat.le_refl _) HB3.out.size)))
     go_roundw
     case rel => exact ⟨i + 1, by omega, by go_num, by rw [HT2.out]; exact ho5, hB5⟩
     case measure => simp [intOf]; omega
   ·have hii : ¬ (i : Int) < (g.fs.length : Int) := by omega
    have hie : i = g.fs.length := by omega
    have HO9 : Hid (OwnE tyE wr w1.heap.size 37 u3 (statL g g.fs.length)) := by have := HO.out; rw [hie] at this; exact this
    clear hie HO
    go_wp2_with fail
    go_ret
    exact ⟨_, rfl, by rw [HR2.out]; exact HO9.out.mono (Nat.le_trans HB0.out.size HB1.out.size), bstep HB0.out (bstep HB1.out HB.out)⟩
/-- A field's cells. -/
def fdA12 (x : FD) : Array Value := #[.string x.nm, .int .i64 x.ow, .int .i64 x.t.1, .int .i64 x.t.2.1, .int .i64 x.t.2.2.1, .bool x.t.2.2.2, .bool x.st]

set_option maxHeartbeats 2000000 in
theorem together_any (x y : FD) (w : World) : Ans 46 #[.agg (fdA12 x), .agg (fdA12 y)] w (.bool (togB x y)) := by
 obtain ⟨w0, hw0⟩ : ∃ W, W = (w.alloc (.cells (fdA12 x) 50)).alloc (.cells (fdA12 y) 50) := ⟨_, rfl⟩
 have HW0 : Hid (w0 = _) := hw0
 obtain ⟨hb0, hat⟩ := two_boxes hw0
 have HB0 : Hid (Below w.heap.size w w0) := hb0
 obtain ⟨hA, hB⟩ := hat w0 (Below.refl _ _)
 have a1 := hA.cell 1
 have a6 := hA.cell 6
 have b1 := hB.cell 1
 have b6 := hB.cell 6
 unfold fdA12 at a1 a6 b1 b6 HW0 ⊢
 simp at a1 a6 b1 b6
 have HR : Hid (togB x y = ((x.st == y.st) && (x.st || decide (x.ow = y.ow)))) := rfl
 clear hw0 hb0 hat hA hB
 generalize togB x y = R at *
 obtain ⟨xs, hxs⟩ : ∃ s, s = x.st := ⟨_, rfl⟩
 obtain ⟨ys, hys⟩ : ∃ s, s = y.st := ⟨_, rfl⟩
 rw [← hxs] at a6 HR HW0 ⊢
 rw [← hys] at b6 HR HW0 ⊢
 clear hxs hys
 cases xs <;> cases ys
 all_goals go_enter Tryz.func46, Tryz.ntmps46
 all_goals go_wp2_with (rw [← HW0.out])
 all_goals go_ret
 all_goals exact ⟨ret_bool (by rw [HR.out]; first | rfl | (rw [Bool.eq_iff_iff]; simp)), HB0.out⟩

/-- The boxes of an image and a field. -/
theorem img_field_head {w : World} {g : Img} (hg : Im w g) (x : FD) : ∃ w0, Hid (w0 = (w.alloc (.cells #[.slice g.ta g.ts.length g.tc, .slice g.fa g.fs.length g.fc, .slice g.ma g.ms.length g.mc, .int .i64 g.en] 26)).alloc (.cells #[.string x.nm, .int .i64 x.ow, .int .i64 x.t.1, .int .i64 x.t.2.1, .int .i64 x.t.2.2.1, .bool x.t.2.2.2, .bool x.st] 50)) ∧ Hid (Below w.heap.size w w0) ∧ Hid (∀ W, Below w0.heap.size w0 W → Im4 W w.heap.size g ∧ (W.cell? ⟨w.heap.size + 1, 1, none⟩ = some (.int .i64 x.ow) ∧ W.cell? ⟨w.heap.size + 1, 6, none⟩ = some (.bool x.st))) ∧ Hid (∀ W, Below w0.heap.size w0 W → Im W g) := by
 obtain ⟨w0, hw0⟩ : ∃ W, W = (w.alloc (.cells (imC g) 26)).alloc (.cells (fdA12 x) 50) := ⟨_, rfl⟩
 obtain ⟨hb0, hat⟩ := two_boxes hw0
 refine ⟨w0, hw0, hb0, fun W hW => ⟨?_, ?_⟩, fun W hW => (hg.later hb0).later hW⟩
 ·have h := (hat W hW).1
  exact ⟨h.cell 0, h.cell 1, h.cell 2, h.cell 3⟩
 ·have h := (hat W hW).2
  exact ⟨h.cell 1, h.cell 6⟩

/-- What a class extends is a class, or nothing. -/
theorem ext_class {g : Img} (F : Fin_ g) {q : Nat} (hq : q < g.ts.length) : kndI g (exI g (q : Int)) = 0 ∨ numB (exI g (q : Int)) g.ts.length = false := by
 have hx := (Wel.of F.wel).ext (q : Int) (by rw [numB_iff]; omega)
 unfold extB at hx
 simp only [Bool.and_eq_true, Bool.or_eq_true, decide_eq_true_iff] at hx
 rcases hx.1 with h | h
 ·right; rw [h]; rfl
 ·left; exact h.1

set_option maxHeartbeats 4000000 in
set_option maxRecDepth 20000 in
theorem beginOf_any {g : Img} (F : Fin_ g) (x : FD) {w : World} (hg : Im w g) (how : numB x.ow g.ts.length = true) : Ans 45 #[imA4 g, .agg #[.string x.nm, .int .i64 x.ow, .int .i64 x.t.1, .int .i64 x.t.2.1, .int .i64 x.t.2.2.1, .bool x.t.2.2.2, .bool x.st]] w (.int .i64 (begN g x)) := by
 obtain ⟨w0, HW0, HB0, HC, HI⟩ := img_field_head hg x
 obtain ⟨q, hqo, hq⟩ := num_nat how
 have hqi : (q : Int) < (g.ts.length : Int) := by omega
 have HKn : Hid (∀ W, Below w0.heap.size w0 W → Ans 43 #[imA4 g, .int .i64 x.ow] W (.int .i64 (kndI g x.ow))) := fun W hW => kind_any x.ow (HI.out W hW) (FlOk.of F.wu.im)
 have hwf : Wf g.ts[q].ex := by
  have hl := (im_len F.wu.im).1
  rcases (im_type F.wu.im hq).1 with h | h
  ·rw [h]; exact wf_of (by omega)
  ·exact wf_num (by omega) h
 have HOb : Hid (∀ W, Below w0.heap.size w0 W → AnsT 44 #[imA4 g, .int .i64 g.ts[q].ex] W (objL g g.ts[q].ex)) := fun W hW => objectF_any F (HI.out W hW) (by have := ext_class F hq; rw [exI_at hq] at this; exact this) hwf
 have hol : (objL g g.ts[q].ex).length ≤ 32 := by
  have := ext_class F hq
  rw [exI_at hq] at this
  rcases this with h | h
  ·exact F.cls _ h
  ·rw [objL_out h]; simp
 have HR : Hid (begN g x = if x.st = true then 0 else if kndI g x.ow = 0 then 1 + (objL g g.ts[q].ex).length else 0) := by
  show _ = _
  unfold begN
  rw [hqo, exI_at hq]
 have HTs : Hid (∀ W, Below w0.heap.size w0 W → Es tdE W (.slice g.ta g.ts.length g.tc) g.ts) := fun W hW => (HI.out W hW).ts
 obtain ⟨tb, off, cap, hla, _, _, htb, hc⟩ := (HTs.out w0 (Below.refl _ _)).parts (by intro e; rw [e] at hq; simp at hq)
 simp only [Value.slice.injEq] at hla
 obtain ⟨hla, -, hlc2⟩ := hla
 obtain ⟨_, _, k2, _⟩ := (show El tdE w0 tb (off + q * 4) g.ts[q] from hc q hq).cells_T
 have HE : Hid (∀ W, Below w0.heap.size w0 W → W.cell? ⟨tb, off + q * 4 + 2, none⟩ = some (.int .i64 g.ts[q].ex)) := fun W hW => by rw [← k2]; exact hW.cell (p := ⟨tb, off + q * 4 + 2, none⟩) htb
 have HCl : Hid (∀ W, Below w0.heap.size w0 W → (W.cell? ⟨w.heap.size, 0, none⟩ = some (.slice (some ⟨tb, off, none⟩) g.ts.length g.tc) ∧ W.cell? ⟨w.heap.size, 1, none⟩ = some (.slice g.fa g.fs.length g.fc) ∧ W.cell? ⟨w.heap.size, 2, none⟩ = some (.slice g.ma g.ms.length g.mc) ∧ W.cell? ⟨w.heap.size, 3, none⟩ = some (.int .i64 g.en)) ∧ W.cell? ⟨w.heap.size + 1, 1, none⟩ = some (.int .i64 (q : Int)) ∧ W.cell? ⟨w.heap.size + 1, 6, none⟩ = some (.bool x.st)) := fun W hW => by
  have := HC.out W hW
  unfold Im4 at this
  rw [hla, hqo] at this
  exact this
 unfold imA4 at HKn HOb ⊢
 rw [hla] at HKn HOb HW0 ⊢
 rw [hqo] at HKn HR HW0 ⊢
 clear hg F hwf HI HTs hc k2 hla hlc2 how HC hqo
 generalize begN g x = R at *
 generalize objL g g.ts[q].ex = C at *
 generalize g.ts[q].ex = ex at *
 generalize kndI g (q : Int) = kn at *
 obtain ⟨⟨c0, c1, c2, c3⟩, d1, d6⟩ := HCl.out w0 (Below.refl _ _)
 obtain ⟨xs, hxs⟩ : ∃ s, s = x.st := ⟨_, rfl⟩
 rw [← hxs] at d6 HR HW0 HCl ⊢
 clear hxs
 go_enter Tryz.func45, Tryz.ntmps45
 cases xs with
 | true =>
  have HR2 : Hid (R = 0) := by show _ = _; rw [HR.out]; rfl
  go_wp2_with (rw [← HW0.out])
  go_ret
  exact ⟨by rw [HR2.out]; rfl, HB0.out⟩
 | false =>
  go_wp2_with (rw [← HW0.out])
  refine Calls.mono (HKn.out w0 (Below.refl _ _)) ?_
  rintro e w1 ⟨rfl, hb1⟩
  have HB1 : Hid (Below w0.heap.size w0 w1) := hb1
  clear hb1 c0 c1 c2 c3 d1 d6
  obtain ⟨⟨c0, c1, c2, c3⟩, d1, d6⟩ := HCl.out w1 HB1.out
  by_cases hk : kn = 0
  ·subst hk
   have HR2 : Hid (R = 1 + C.length) := by show _ = _; rw [HR.out]; rfl
   have HK : Hid (∀ W, Below w1.heap.size w1 W → ((W.cell? ⟨w.heap.size, 0, none⟩ = some (.slice (some ⟨tb, off, none⟩) g.ts.length g.tc) ∧ W.cell? ⟨w.heap.size, 1, none⟩ = some (.slice g.fa g.fs.length g.fc) ∧ W.cell? ⟨w.heap.size, 2, none⟩ = some (.slice g.ma g.ms.length g.mc) ∧ W.cell? ⟨w.heap.size, 3, none⟩ = some (.int .i64 g.en)) ∧ W.cell? ⟨w.heap.size + 1, 1, none⟩ = some (.int .i64 (q : Int)) ∧ W.cell? ⟨w.heap.size + 1, 6, none⟩ = some (.bool false)) ∧ W.cell? ⟨tb, off + q * 4 + 2, none⟩ = some (.int .i64 ex)) := fun W hW => ⟨HCl.out W (bstep HB1.out hW), HE.out W (bstep HB1.out hW)⟩
   have HOq : Hid (∀ W, Below w1.heap.size w1 W → AnsT 44 #[.agg #[.slice (some ⟨tb, off, none⟩) g.ts.length g.tc, .slice g.fa g.fs.length g.fc, .slice g.ma g.ms.length g.mc, .int .i64 g.en], .int .i64 ex] W C) := fun W hW => HOb.out W (bstep HB1.out hW)
   go_wp2_with fail
   go_region_held3 (fun W : World => ((W.cell? ⟨w.heap.size, 0, none⟩ = some (.slice (some ⟨tb, off, none⟩) g.ts.length g.tc) ∧ W.cell? ⟨w.heap.size, 1, none⟩ = some (.slice g.fa g.fs.length g.fc) ∧ W.cell? ⟨w.heap.size, 2, none⟩ = some (.slice g.ma g.ms.length g.mc) ∧ W.cell? ⟨w.heap.size, 3, none⟩ = some (.int .i64 g.en)) ∧ W.cell? ⟨w.heap.size + 1, 1, none⟩ = some (.int .i64 (q : Int)) ∧ W.cell? ⟨w.heap.size + 1, 6, none⟩ = some (.bool false)) ∧ W.cell? ⟨tb, off + q * 4 + 2, none⟩ = some (.int .i64 ex))
    (first | (exact HK.out _ hBc) | (exact HK.out _ (bdrew _)))
    ((go_at_call 44; refine (HOq.out _ (bdrew _)).mono ?_; rintro e w2 ⟨hv, rfl, hv2, hb2⟩; obtain ⟨ha, hc2, hvv, _, hhc⟩ := hv2.shape; subst hvv; have hBc : Below w1.heap.size w1 w2 := bstep (bdrew _) hb2))
   rename_i hheld
   clear hheld
   have HB2 : Hid (Below w0.heap.size w0 w2) := bstep HB1.out hBc
   clear hv2 hb2 hBc c0 c1 c2 c3 d1 d6
   go_wp2_with fail
   go_ret
   exact ⟨ret_int (by rw [HR2.out]; simp [IntKind.wrap, IntKind.bits, IntKind.signed]; omega), bstep HB0.out HB2.out⟩
  ·have hkb : (kn != 0) = true := by simpa using hk
   have HR2 : Hid (R = 0) := by show _ = _; rw [HR.out, if_neg (by decide), if_neg hk]
   clear hk
   go_wp2_with fail
   go_ret
   exact ⟨by rw [HR2.out]; rfl, bstep HB0.out HB1.out⟩
end Go.Proofs.YtkjailahaopehaaGreat
