/- Texts joined: SlotMath, ChkExt11. -/
import Derived.Test.YthpmpdpfnlecmaaGreatQ13
import Derived.Test.YthpmpdpfnlecmaaGreatQ15
import Derived.Test.YthpmpdpfnlecmaaGreatQ11
import Derived.Test.YthpmpdpfnlecmaaGreatQ06
import Derived.Deep.QuietTactic
import Derived.BigQuiet
namespace Go.Proofs.YthpmpdpfnlecmaaGreat
set_option linter.unusedVariables false
set_option linter.unusedSimpArgs false
open Go.RowKit
theorem smI_comm {g : Img} {i k : Int} (h : smI g i k = false) : smI g k i = false:=by
 cases h2 : smI g k i with
 | false => rfl
 | true => rw [smI_symm h2] at h; cases h
theorem mtd_apart {g : Img} (h : welB g = true) {t : Int} (ht : numB t g.ts.length = true) : (mtdN g t).Pairwise (fun a b => smI g a b = false):=by
 obtain ⟨_,ha⟩:=wel_all h
 obtain ⟨_,_,_,hn,_⟩:=ha t ht
 unfold nmdB at hn
 rw [Bool.and_eq_true] at hn
 have hd:=difB_iff.1 hn.2
 rw [List.pairwise_iff_getElem]
 intro i j hi hj hij
 have:=hd j hj
 rw [List.all_eq_true] at this
 have h2:=this (mtdN g t)[i] (List.mem_take_iff_getElem.2 ⟨i,by omega,rfl⟩)
 exact smI_comm (by simpa using h2)
theorem vir_apart {g : Img} (h : welB g = true) {t : Int} (ht : numB t g.ts.length = true) : (virL g t).Pairwise (fun a b => smI g a b = false):=(mtd_apart h ht).filter _
theorem mow_num {g : Img} (hi : imB g = true) {m : Int} (hm : mNum g m) : numB (mowI g m) g.ts.length = true:=by
 have h0:=numB_iff.1 hm
 have hq : m.toNat < g.ms.length:=by omega
 unfold imB at hi
 simp only [Bool.and_eq_true,List.all_eq_true] at hi
 have:=hi.1.2.1 g.ms[m.toNat] (List.getElem_mem hq)
 unfold mdB at this
 simp only [Bool.and_eq_true] at this
 unfold mowI
 rw [List.getElem?_eq_getElem hq]
 exact this.1.1.1.1.1.1.2
theorem mfl_bound {g : Img} (hi : imB g = true) {q : Nat} (hq : q < g.ms.length) : 0 ≤ g.ms[q].fl∧g.ms[q].fl ≤ 31:=by
 unfold imB at hi
 simp only [Bool.and_eq_true,List.all_eq_true] at hi
 have:=hi.1.2.1 g.ms[q] (List.getElem_mem hq)
 unfold mdB at this
 simp only [Bool.and_eq_true] at this
 have:=this.1.1.1.1.1.2
 unfold witB at this
 simpa using this
theorem vir_has {g : Img} (hi : imB g = true) {m : Int} (hm : mNum g m) (hv : virB g m = true) : m ∈ virL g (mowI g m):=by
 have h0:=numB_iff.1 hm
 have hq : m.toNat < g.ms.length:=by omega
 have hw:=mow_num hi hm
 have e : m = ((m.toNat : Nat) : Int):=by omega
 have hw2 : mowI g m = g.ms[m.toNat].ow:=by unfold mowI; rw [List.getElem?_eq_getElem hq]
 rw [hw2] at hw ⊢
 unfold virL
 rw [List.mem_filter]
 refine ⟨?_,hv⟩
 have:=mtd_has hq hw
 rw [← e] at this
 exact this
theorem tab_has {g : Img} (hw : welB g = true) {m : Int} (hm : mNum g m) (hv : virB g m = true) : m ∈ tabL g (mowI g m):=by
 have W:=Wel.of hw
 have hn:=mow_num W.im hm
 rw [tabL_cons W hn]
 exact fold_has (vir_has W.im hm hv) (vir_apart hw hn)
theorem idx_at {l : List Int} {m : Int} (h : m ∈ l) : ∃ (k : Nat) (hk : k < l.length),ixI l m = (k : Int)∧l[k] = m:=by
 rcases fid_cases (fun k => k == m) l with ⟨_,h2⟩ | ⟨k,hk,h1,h2,_⟩
 ·rw [List.any_eq_false] at h2
  exact absurd (beq_self_eq_true m) (h2 m h)
 ·exact ⟨k,hk,h1,by simpa using h2⟩
theorem idx_not {l : List Int} {m : Int} (h : m ∉ l) : ixI l m = -1:=fid_no (by
 rw [List.any_eq_false]
 intro x hx e
 have : x = m:=by simpa using e
 exact h (this ▸ hx))
theorem slo_at {g : Img} (hw : welB g = true) {m : Int} (hm : mNum g m) (hv : virB g m = true) : ∃ (k : Nat) (hk : k < (tabL g (mowI g m)).length),sloI g m = (k : Int)∧(tabL g (mowI g m))[k] = m:=by
 obtain ⟨k,hk,h1,h2⟩:=idx_at (tab_has hw hm hv)
 exact ⟨k,hk,h1,h2⟩
theorem slo_not {g : Img} {m : Int} (hv : virB g m = false) : sloI g m = -1:=idx_not (fun h => by rw [tab_vir h] at hv; cases hv)
theorem tab_up {g : Img} (W : Wel g) : ∀ (n : Nat) (t u : Int),numB t g.ts.length = true → (upL g t).length ≤ n → u ∈ upL g t → Keep13 g (tabL g u) (tabL g t)
 | 0,t,u,ht,hn,hu => by rw [upL_cons W ht] at hn; simp at hn
 | n + 1,t,u,ht,hn,hu => by
  have hc:=upL_cons W ht
  rw [hc] at hu
  rcases List.mem_cons.1 hu with rfl | hu
  ·exact Keep13.refl (fun x hx => tab_num hx)
  ·have he : numB (exI g t) g.ts.length = true:=by
    cases he : numB (exI g t) g.ts.length with
    | true => rfl
    | false => rw [upL_out he] at hu; simp at hu
   exact (tab_up W n (exI g t) u he (by rw [hc] at hn; simpa using hn) hu).trans (tab_keep W ht)
theorem don_at {g : Img} (hw : welB g = true) {t m : Int} (ht : numB t g.ts.length = true) (hm : mNum g m) (hv : virB g m = true) (hu : mowI g m ∈ upL g t) :
  ∃ (k : Nat) (hk : k < (tabL g t).length),sloI g m = (k : Int)∧donC g t m = (tabL g t)[k]∧0 ≤ donC g t m:=by
 obtain ⟨k,hk,h1,h2⟩:=slo_at hw hm hv
 have K:=tab_up (Wel.of hw) _ t _ ht (Nat.le_refl _) hu
 have hk2 : k < (tabL g t).length:=Nat.lt_of_lt_of_le hk K.1
 have h3 : donC g t m = (tabL g t)[k]:=by
  unfold donC
  rw [h1,Int.toNat_natCast,List.getElem?_eq_getElem hk2]
 exact ⟨k,hk2,h1,h3,by rw [h3]; exact (numB_iff.1 (tab_num (List.getElem_mem hk2))).1⟩
theorem bel_class {g : Img} (W : Wel g) {t u : Int} (h : belB g t u = true) (hk : kndI g u ≠ 2) : u ∈ upL g t:=by
 rcases bel_iff.1 h with h | h
 ·exact h
 ·exact absurd (fac_kind W h) hk
theorem up_class {g : Img} (W : Wel g) {t u : Int} (ht : kndI g t = 0) (h : u ∈ upL g t) : kndI g u = 0:=by
 have hn:=knd_num (show kndI g t ≠ -1 by rw [ht]; decide)
 by_cases e : u = t
 ·rw [e]; exact ht
 ·exact up_kind W _ t hn (Nat.le_refl _) u (up_mem_drop W hn h e)
def flgM (g : Img) (x : MD) : Bool :=
 (!bitB x.fl 16 || (decide (kndI g x.ow = 0) && decide (x.rt.1 = 1) && decide (x.fl = 16))) && (!bitB x.fl 2 || (!bitB x.fl 1 && decide (kndI g x.ow ≠ 1))) && (bitB x.fl 2 || (!bitB x.fl 4 && !bitB x.fl 8)) &&
  (!bitB x.fl 4 || (decide (x.co = []) && decide (x.ls = []) && decide (x.cl = []) && decide (x.mx ≤ 0))) && (bitB x.fl 4 || (decide (x.co ≠ []) && decide (kndI g x.ow < 2))) &&
  (decide (kndI g x.ow ≠ 3) || decide ((mtdN g x.ow).length = 1)) && (!bitB x.fl 4 || decide (2 ≤ kndI g x.ow) || bitB (flI g x.ow) 4)
def flg1 (k : Int) (x : MD) : Bool:=if bitB x.fl 16 = true then decide (k = 0) && (decide (x.rt.1 = 1) && decide (x.fl = 16)) else if bitB x.fl 2 = true then !bitB x.fl 1 && decide (k ≠ 1) else !(bitB x.fl 4 || bitB x.fl 8)
def flg2 (x : MD) : Bool:=if bitB x.fl 4 = true then decide (x.co = []) && (decide (x.ls = []) && (decide (x.cl = []) && decide (x.mx = 0))) else decide (x.co ≠ [])
def flg3 (g : Img) (x : MD) : Bool :=
 if kndI g x.ow = 2 then bitB x.fl 4 else if kndI g x.ow = 3 then bitB x.fl 4 && decide ((mtdN g x.ow).length = 1) else if kndI g x.ow = 0 then !bitB x.fl 4 || bitB (flI g x.ow) 4 else true
theorem knd_five (g : Img) (t : Int) : kndI g t = 0 ∨ kndI g t = 1 ∨ kndI g t = 2 ∨ kndI g t = 3 ∨ kndI g t = -1:=by
 unfold kndI
 split
 ·rcases kindF_four (flI g t) with h | h | h | h <;> simp [h]
 ·simp
theorem bit16_all {f : Int} (h : f = 16) : bitB f 1 = false∧bitB f 2 = false∧bitB f 4 = false∧bitB f 8 = false∧bitB f 16 = true:=by subst h; decide
theorem flg_eq {g : Img} {x : MD} (hn : numB x.ow g.ts.length = true) (hm : 0 ≤ x.mx) : (flg1 (kndI g x.ow) x && flg2 x && flg3 g x) = flgM g x:=by
 have hk : kndI g x.ow = 0 ∨ kndI g x.ow = 1 ∨ kndI g x.ow = 2 ∨ kndI g x.ow = 3:=by
  rcases knd_five g x.ow with h | h | h | h | h
  ·exact Or.inl h
  ·exact Or.inr (Or.inl h)
  ·exact Or.inr (Or.inr (Or.inl h))
  ·exact Or.inr (Or.inr (Or.inr h))
  ·unfold kndI at h
   rw [if_pos hn] at h
   rcases kindF_four (flI g x.ow) with h2 | h2 | h2 | h2 <;> rw [h2] at h <;> omega
 have hmx : decide (x.mx ≤ 0) = decide (x.mx = 0):=by rw [Bool.eq_iff_iff]; simp; omega
 have h16 : decide (x.fl = 16) = true → bitB x.fl 1 = false∧bitB x.fl 2 = false∧bitB x.fl 4 = false∧bitB x.fl 8 = false∧bitB x.fl 16 = true:=fun h => bit16_all (of_decide_eq_true h)
 unfold flgM flg1 flg2 flg3
 rw [hmx]
 generalize decide (x.fl = 16) = e16 at *
 generalize bitB x.fl 1 = b1 at *
 generalize bitB x.fl 2 = b2 at *
 generalize bitB x.fl 4 = b4 at *
 generalize bitB x.fl 8 = b8 at *
 generalize bitB x.fl 16 = b16 at *
 have hco : decide (x.co ≠ []) = !decide (x.co = []):=by simp
 rw [hco]
 generalize decide (x.co = []) = ec at *
 generalize decide (x.ls = []) = el at *
 generalize decide (x.cl = []) = ek at *
 generalize decide (x.mx = 0) = em at *
 generalize decide (x.rt.1 = 1) = er at *
 generalize decide ((mtdN g x.ow).length = 1) = eo at *
 generalize bitB (flI g x.ow) 4 = ea at *
 clear hmx hco hn hm
 rcases hk with hk | hk | hk | hk
 all_goals rw [hk]
 all_goals clear hk
 all_goals cases e16
 all_goals first | (obtain ⟨rfl,rfl,rfl,rfl,rfl⟩:=h16 rfl; simp [Bool.and_assoc]; done) | (clear h16; cases b1 <;> cases b2 <;> cases b4 <;> cases b8 <;> cases b16 <;> simp [Bool.and_assoc])

def ityL (l : List Ins) : List Ty:=(l.filter (fun x => decide (opP x.1 = 8))).map (fun x => x.2.2)
def ctyL (l : List Cl) : List Ty:=(l.filter (fun c => decide (c.k = 1))).map (fun c => (c.t0,c.t1,c.t2,c.t3))
def typL (x : MD) : List Ty := [x.rt] ++ x.ps ++ x.ls ++ ityL x.co ++ ctyL x.cl
def typM (g : Img) (x : MD) : Bool:=(typL x).all (usdB g)
def errM (g : Img) (x : MD) : Int:=if flgM g x = false then 8 else if typM g x = false then 10 else 0
def whoB (g : Img) (t : Int) : Bool:=(tabL g t).all (fun m => !bitB (mflI g m) 4) && (facL g t).all (fun f => (mtdN g f).all (fun m => decide (donI g t m ≠ -1)))
def badC (g : Img) (t : Int) : Bool:=decide (kndI g t = 0) && (!bitB (flI g t) 4 && !whoB g t)
def badD (g : Img) (t : Int) : Bool:=decide (kndI g t = 3) && decide (mtdN g t = [])
def begM (x : MD) : Bool:=bitB x.fl 1 && (decide (x.ps = []) && (!bitB x.fl 4 && (decide (x.rt.2.2.1 = 0) && decide (1 ≤ x.rt.1∧x.rt.1 ≤ 3))))
def entB (g : Img) : Bool:=decide (g.en = -1) || (match g.ms[g.en.toNat]? with | some x => begM x | none => true)
def schI (g : Img) : Int × Int × Int :=
 if finB g = false then (0,0,17) else
 match g.ms.findIdx? (fun x => decide (errM g x ≠ 0)) with
 | some i => (1,(i : Int),match g.ms[i]? with | some x => errM g x | none => 0)
 | none => match (List.range g.ts.length).findIdx? (fun t : Nat => badC g (t : Int)) with
  | some t => (0,(t : Int),18)
  | none => match (List.range g.ts.length).findIdx? (fun t : Nat => badD g (t : Int)) with
   | some t => (0,(t : Int),8)
   | none => if entB g = false then (1,g.en,11) else (0,0,0)

theorem sch_fin {g : Img} (h : finB g = false) : schI g = (0,0,17):=by unfold schI; rw [h]; rfl
theorem sch_mth {g : Img} (h : finB g = true) {i : Nat} (hi : i < g.ms.length) (ha : ∀ j (hj : j < i),errM g g.ms[j] = 0) (hu : errM g g.ms[i] ≠ 0) : schI g = (1,(i : Int),errM g g.ms[i]):=by
 unfold schI
 have : g.ms.findIdx? (fun x => decide (errM g x ≠ 0)) = some i:=by
  rw [List.findIdx?_eq_some_iff_getElem]
  exact ⟨hi,by simpa using hu,fun j hj => by simpa using ha j hj⟩
 rw [h,if_neg (by decide),this]
 simp only [List.getElem?_eq_getElem hi]
theorem mth_none {g : Img} (ha : ∀ j (hj : j < g.ms.length),errM g g.ms[j] = 0) : g.ms.findIdx? (fun x => decide (errM g x ≠ 0)) = none:=by
 rw [List.findIdx?_eq_none_iff]
 intro x hx
 obtain ⟨j,hj,rfl⟩:=List.mem_iff_getElem.1 hx
 simpa using ha j hj
theorem rng_some {n i : Nat} {p : Int → Bool} (hi : i < n) (ha : ∀ j < i,p (j : Int) = false) (hp : p (i : Int) = true) : (List.range n).findIdx? (fun t : Nat => p (t : Int)) = some i:=by
 rw [List.findIdx?_eq_some_iff_getElem]
 refine ⟨by simpa using hi,by simpa using hp,fun j hj => ?_⟩
 simpa using ha j hj
theorem rng_none {n : Nat} {p : Int → Bool} (ha : ∀ j < n,p (j : Int) = false) : (List.range n).findIdx? (fun t : Nat => p (t : Int)) = none:=by
 rw [List.findIdx?_eq_none_iff]
 intro x hx
 exact ha x (List.mem_range.1 hx)
theorem sch_cls {g : Img} (h : finB g = true) (ha : ∀ j (hj : j < g.ms.length),errM g g.ms[j] = 0) {i : Nat} (hi : i < g.ts.length) (hb : ∀ j < i,badC g (j : Int) = false) (hu : badC g (i : Int) = true) : schI g = (0,(i : Int),18):=by
 unfold schI
 rw [h,if_neg (by decide),mth_none ha,rng_some hi hb hu]
theorem sch_del {g : Img} (h : finB g = true) (ha : ∀ j (hj : j < g.ms.length),errM g g.ms[j] = 0) (hb : ∀ j < g.ts.length,badC g (j : Int) = false) {i : Nat} (hi : i < g.ts.length) (hc : ∀ j < i,badD g (j : Int) = false) (hu : badD g (i : Int) = true) : schI g = (0,(i : Int),8):=by
 unfold schI
 rw [h,if_neg (by decide),mth_none ha,rng_none hb]
 simp only
 rw [rng_some hi hc hu]
theorem sch_end {g : Img} (h : finB g = true) (ha : ∀ j (hj : j < g.ms.length),errM g g.ms[j] = 0) (hb : ∀ j < g.ts.length,badC g (j : Int) = false) (hc : ∀ j < g.ts.length,badD g (j : Int) = false) : schI g = if entB g = false then (1,g.en,11) else (0,0,0):=by
 unfold schI
 rw [h,if_neg (by decide),mth_none ha,rng_none hb]
 simp only
 rw [rng_none hc]
end Go.Proofs.YthpmpdpfnlecmaaGreat

namespace Go.Proofs.YthpmpdpfnlecmaaGreat
set_option linter.unusedVariables false
set_option linter.unusedSimpArgs false
open Go.RowKit
attribute [local go_sem ↓] Go.wp_at_zero Go.wp_at_succ
def opnB (g : Img) (t : Int) : Bool:=decide (kndI g t = 0) && !bitB (flI g t) 8

set_option maxHeartbeats 2000000 in
theorem openC_any {g : Img} {q : Nat} {w : World} (hg : Im w g) (hi : imB g = true) (hq : q < g.ts.length) :
  Calls Tryz.prog 157 #[imV g,.int .i64 q] w fun e w' => e = .returned (.bool (opnB g (q : Int)))∧Below w.heap.size w w':=by
 obtain ⟨w0,hw0⟩ : ∃ W,W = w.alloc (.cells (imC g) 26):=⟨_,rfl⟩
 have HW0 : Hid (w0 = _):=hw0
 obtain ⟨hb0,hgb⟩:=GB.made hg hw0
 have HB0 : Hid (Below w.heap.size w w0):=hb0
 have HG : Hid (GB w0 w.heap.size g):=hgb
 have HI : Hid (imB g = true):=hi
 have hln:=im_len hi
 obtain ⟨tb,off,hta,h8,h9,hty⟩:=hgb.ty (by intro e; rw [e] at hq; simp at hq)
 have HTA : Hid (g.ta = some ⟨tb,off,none⟩):=hta
 have HTY : Hid (∀ W,Below w0.heap.size w0 W → ∀ k (hk : k < g.ts.length),W.cell? ⟨tb,off + k * 4,none⟩ = some (.string g.ts[k].nm)∧W.cell? ⟨tb,off + k * 4 + 1,none⟩ = some (.int .i64 g.ts[k].fl)∧W.cell? ⟨tb,off + k * 4 + 2,none⟩ = some (.int .i64 g.ts[k].ex)∧W.cell? ⟨tb,off + k * 4 + 3,none⟩ = some (.slice g.ts[k].fa g.ts[k].fs.length g.ts[k].fc)):=fun W hW k hk => (hty W hW).2 k hk
 have HC4 : Hid (∀ W,Below w0.heap.size w0 W → W.cell? ⟨w.heap.size,0,none⟩ = some (.slice (some ⟨tb,off,none⟩) g.ts.length g.tc)∧W.cell? ⟨w.heap.size,1,none⟩ = some (.slice g.fa g.fs.length g.fc)∧W.cell? ⟨w.heap.size,2,none⟩ = some (.slice g.ma g.ms.length g.mc)∧W.cell? ⟨w.heap.size,3,none⟩ = some (.int .i64 g.en)):=fun W hW => by
  have:=(HG.out.later hW).cells
  rw [HTA.out] at this
  exact this
 have HKd : Hid (∀ W,Below w0.heap.size w0 W → Calls Tryz.prog 16 #[.agg #[.slice (some ⟨tb,off,none⟩) g.ts.length g.tc,.slice g.fa g.fs.length g.fc,.slice g.ma g.ms.length g.mc,.int .i64 g.en],.int .i64 q] W fun e w' => e = .returned (.int .i64 (kindF g.ts[q].fl))∧Below W.heap.size W w'):=fun W hW => by
  have:=kind_any (q : Int) (HG.out.im.later hW) (FlOk.of HI.out)
  rw [knd_at hq] at this
  unfold imV at this
  rw [HTA.out] at this
  exact this
 obtain ⟨c0,c1,c2,c3⟩:=HC4.out w0 (Below.refl _ _)
 have hqi : (q : Int) < (g.ts.length : Int):=by omega
 unfold maxLen at h9
 unfold imC at HW0
 rw [hta] at HW0
 have HFl : Hid (0 ≤ g.ts[q].fl∧g.ts[q].fl ≤ 31):=FlOk.of HI.out _ (List.getElem_mem hq)
 have HR : Hid (opnB g (q : Int) = (decide (kindF g.ts[q].fl = 0) && !bitB g.ts[q].fl 8)):=by show _ = _; unfold opnB; rw [knd_at hq,flI_at hq]
 clear hw0 hb0 hgb hty hta
 unfold imV
 rw [HTA.out]
 go_enter Tryz.func157,Tryz.ntmps157
 go_wp2_with (rw [← HW0.out])
 refine Calls.mono (HKd.out _ (Below.refl _ _)) ?_
 rintro e w1 ⟨rfl,hb1⟩
 have HB1 : Hid (Below w0.heap.size w0 w1):=hb1
 clear hb1 c0 c1 c2 c3
 obtain ⟨c0,c1,c2,c3⟩:=HC4.out w1 HB1.out
 obtain ⟨_,k1,_,_⟩:=HTY.out w1 HB1.out q hq
 obtain ⟨_,_,_,hf8⟩:=and_flags HFl.out
 generalize g.ts[q].fl = f at *
 by_cases hk : kindF f = 0
 ·rw [hk]
  cases hb : bitB f 8 with
  | true =>
   have hf : bits .and .i64 f 8 = 8:=by rw [hf8,if_pos hb]
   have HR2 : Hid (opnB g (q : Int) = false):=by show _ = _; rw [HR.out,hb]; simp
   clear hf8 hb hk
   go_wp2_with fail
   go_ret
   exact ⟨ret_bool HR2.out.symm,bstep HB0.out HB1.out⟩
  | false =>
   have hf : bits .and .i64 f 8 = 0:=by rw [hf8,if_neg (by rw [hb]; decide)]
   have HR2 : Hid (opnB g (q : Int) = true):=by show _ = _; rw [HR.out,hb,hk]; rfl
   clear hf8 hb hk
   go_wp2_with fail
   go_ret
   exact ⟨ret_bool HR2.out.symm,bstep HB0.out HB1.out⟩
 ·have HR2 : Hid (opnB g (q : Int) = false):=by show _ = _; rw [HR.out,decide_eq_false hk]; rfl
  have hk' : (kindF f == 0) = false:=by rw [beq_eq_false_iff_ne]; exact hk
  clear hf8
  go_wp2_with fail
  go_ret
  exact ⟨ret_bool HR2.out.symm,bstep HB0.out HB1.out⟩

set_option maxHeartbeats 4000000 in
theorem ext11_any {g : Img} {q : Nat} {w : World} (hg : Im w g) (hi : imB g = true) (hq : q < g.ts.length) :
  Calls Tryz.prog 109 #[imV g,.int .i64 q] w fun e w' => e = .returned (.bool (extB g (q : Int)))∧Below w.heap.size w w':=by
 have hexq:=(im_type hi hq).1
 have HE : Hid (extB g (q : Int) = ((decide (g.ts[q].ex = -1) || opnB g g.ts[q].ex) && (match (upL g (q : Int)).getLast? with | some u => decide (exI g u = -1) | none => true))):=by
  show _ = _
  unfold extB opnB
  rw [exI_at hq]
  cases (upL g (q : Int)).getLast? <;> rfl
 obtain ⟨w0,hw0⟩ : ∃ W,W = w.alloc (.cells (imC g) 26):=⟨_,rfl⟩
 have HW0 : Hid (w0 = _):=hw0
 obtain ⟨hb0,hgb⟩:=GB.made hg hw0
 have HB0 : Hid (Below w.heap.size w w0):=hb0
 have HG : Hid (GB w0 w.heap.size g):=hgb
 have HI : Hid (imB g = true):=hi
 have hln:=im_len hi
 obtain ⟨tb,off,hta,h8,h9,hty⟩:=hgb.ty (by intro e; rw [e] at hq; simp at hq)
 have HTA : Hid (g.ta = some ⟨tb,off,none⟩):=hta
 have HTY : Hid (∀ W,Below w0.heap.size w0 W → ∀ k (hk : k < g.ts.length),W.cell? ⟨tb,off + k * 4,none⟩ = some (.string g.ts[k].nm)∧W.cell? ⟨tb,off + k * 4 + 1,none⟩ = some (.int .i64 g.ts[k].fl)∧W.cell? ⟨tb,off + k * 4 + 2,none⟩ = some (.int .i64 g.ts[k].ex)∧W.cell? ⟨tb,off + k * 4 + 3,none⟩ = some (.slice g.ts[k].fa g.ts[k].fs.length g.ts[k].fc)):=fun W hW k hk => (hty W hW).2 k hk
 have HC4 : Hid (∀ W,Below w0.heap.size w0 W → W.cell? ⟨w.heap.size,0,none⟩ = some (.slice (some ⟨tb,off,none⟩) g.ts.length g.tc)∧W.cell? ⟨w.heap.size,1,none⟩ = some (.slice g.fa g.fs.length g.fc)∧W.cell? ⟨w.heap.size,2,none⟩ = some (.slice g.ma g.ms.length g.mc)∧W.cell? ⟨w.heap.size,3,none⟩ = some (.int .i64 g.en)):=fun W hW => by
  have:=(HG.out.later hW).cells
  rw [HTA.out] at this
  exact this
 obtain ⟨c0,c1,c2,c3⟩:=HC4.out w0 (Below.refl _ _)
 have hqi : (q : Int) < (g.ts.length : Int):=by omega
 unfold maxLen at h9
 unfold imC at HW0
 rw [hta] at HW0
 have HUp : Hid (∀ W,Below w0.heap.size w0 W → Calls Tryz.prog 14 #[.agg #[.slice (some ⟨tb,off,none⟩) g.ts.length g.tc,.slice g.fa g.fs.length g.fc,.slice g.ma g.ms.length g.mc,.int .i64 g.en],.int .i64 q] W fun e w' => ∃ v,e = .returned v∧OwnI w' W.heap.size v (upL g (q : Int))∧Below W.heap.size W w'):=fun W hW => by
  have:=up_any (t:=(q : Int)) (HG.out.im.later hW) HI.out (wf_num (n:=g.ts.length) (by omega) (by rw [numB_iff]; omega))
  unfold imV at this
  rw [HTA.out] at this
  exact this
 have HOp : Hid (∀ W,Below w0.heap.size w0 W → ∀ j,j < g.ts.length → Calls Tryz.prog 157 #[.agg #[.slice (some ⟨tb,off,none⟩) g.ts.length g.tc,.slice g.fa g.fs.length g.fc,.slice g.ma g.ms.length g.mc,.int .i64 g.en],.int .i64 (j : Int)] W fun e w' => e = .returned (.bool (opnB g (j : Int)))∧Below W.heap.size W w'):=fun W hW j hj => by
  have:=openC_any (HG.out.im.later hW) HI.out hj
  unfold imV at this
  rw [HTA.out] at this
  exact this
 obtain ⟨_,_,k2,_⟩:=HTY.out w0 (Below.refl _ _) q hq
 generalize g.ts[q].ex = ex at *
 clear hw0 hb0 hgb hty hta
 unfold imV
 rw [HTA.out]
 go_enter Tryz.func109,Tryz.ntmps109
 have HT : Hid (∀ (w1 : World),Below w0.heap.size w0 w1 → True):=fun _ _ => trivial
 by_cases hex : ex = -1
 ·have HOk : Hid ((decide (ex = -1) || opnB g ex) = true):=by show _ = _; rw [decide_eq_true hex]; rfl
  subst hex
  go_wp2_with (rw [← HW0.out])
  refine Calls.mono (HUp.out w0 (Below.refl _ _)) ?_
  rintro e w2 ⟨uv,rfl,hu,hb2⟩
  have HB2 : Hid (Below w0.heap.size w0 w2):=hb2
  have hne : upL g (q : Int) ≠ []:=by intro e; have:=upL_self (g:=g) (t:=(q : Int)) (by rw [numB_iff]; omega); rw [e] at this; simp at this
  obtain ⟨m,hm⟩ : ∃ m,(upL g (q : Int)).length = m + 1:=⟨(upL g (q : Int)).length - 1,by have:=List.length_pos_iff.2 hne; omega⟩
  obtain ⟨gl,capl,hlv,p1,p2,p3,p4,p5⟩:=hu.parts hne
  have cz:=p5 m (by omega)
  obtain ⟨z,hz,hzl⟩:=num_nat ((upL_nd g (q : Int)).1 _ (List.getElem_mem (show m < (upL g (q : Int)).length by omega)))
  rw [hz] at cz
  have HE4 : Hid (extB g (q : Int) = decide (g.ts[z].ex = -1)):=by
   show _ = _
   rw [HE.out,HOk.out,Bool.true_and,List.getLast?_eq_getElem?,show (upL g (q : Int)).length - 1 = m by omega,List.getElem?_eq_getElem (by omega),hz]
   simp only [exI_at hzl]
  obtain ⟨_,_,kz,_⟩:=HTY.out w2 HB2.out z hzl
  have hzi : (z : Int) < (g.ts.length : Int):=by omega
  rw [hm] at hlv p1
  subst hlv
  unfold maxLen at p2
  clear hb2 c0 c1 c2 c3 hu hne p5 HE hm hz k2 HOk
  obtain ⟨c0,c1,c2,c3⟩:=HC4.out w2 HB2.out
  generalize g.ts[z].ex = ez at *
  have HR : Hid (extB g (q : Int) = (ez == -1)):=by show _ = _; rw [HE4.out,Bool.eq_iff_iff]; simp
  go_wp2_with fail
  go_quiet (fail)
  go_wp2_with fail
  go_ret
  exact ⟨ret_bool HR.out.symm,bstep HB0.out (Below.drewN HB2.out _)⟩
 ·obtain ⟨j,rfl,hjl⟩:=num_nat (hexq.resolve_left hex)
  have hjb : ((j : Int) != -1) = true:=by rw [bne_iff_ne]; omega
  go_wp2_with (rw [← HW0.out])
  refine Calls.mono (HOp.out w0 (Below.refl _ _) j hjl) ?_
  rintro e w1 ⟨rfl,hb1⟩
  have HB1 : Hid (Below w0.heap.size w0 w1):=hb1
  clear hb1 c0 c1 c2 c3
  obtain ⟨c0,c1,c2,c3⟩:=HC4.out w1 HB1.out
  cases ho : opnB g (j : Int) with
  | false =>
   have HR : Hid (extB g (q : Int) = false):=by show _ = _; rw [HE.out,ho,decide_eq_false hex]; rfl
   clear ho
   go_wp2_with fail
   go_ret
   exact ⟨ret_bool HR.out.symm,bstep HB0.out HB1.out⟩
  | true =>
    have HOk : Hid ((decide ((j : Int) = -1) || opnB g (j : Int)) = true):=by show _ = _; rw [ho]; simp
    clear ho
    go_wp2_with fail
    refine Calls.mono (HUp.out w1 HB1.out) ?_
    rintro e w2 ⟨uv,rfl,hu,hb2⟩
    have HB2 : Hid (Below w0.heap.size w0 w2):=bstep HB1.out hb2
    have hne : upL g (q : Int) ≠ []:=by intro e; have:=upL_self (g:=g) (t:=(q : Int)) (by rw [numB_iff]; omega); rw [e] at this; simp at this
    obtain ⟨m,hm⟩ : ∃ m,(upL g (q : Int)).length = m + 1:=⟨(upL g (q : Int)).length - 1,by have:=List.length_pos_iff.2 hne; omega⟩
    obtain ⟨gl,capl,hlv,p1,p2,p3,p4,p5⟩:=hu.parts hne
    have cz:=p5 m (by omega)
    obtain ⟨z,hz,hzl⟩:=num_nat ((upL_nd g (q : Int)).1 _ (List.getElem_mem (show m < (upL g (q : Int)).length by omega)))
    rw [hz] at cz
    have HE4 : Hid (extB g (q : Int) = decide (g.ts[z].ex = -1)):=by
     show _ = _
     rw [HE.out,HOk.out,Bool.true_and,List.getLast?_eq_getElem?,show (upL g (q : Int)).length - 1 = m by omega,List.getElem?_eq_getElem (by omega),hz]
     simp only [exI_at hzl]
    obtain ⟨_,_,kz,_⟩:=HTY.out w2 HB2.out z hzl
    have hzi : (z : Int) < (g.ts.length : Int):=by omega
    rw [hm] at hlv p1
    subst hlv
    unfold maxLen at p2
    clear hb2 c0 c1 c2 c3 hu hne p5 HE hm hz k2 HOk
    obtain ⟨c0,c1,c2,c3⟩:=HC4.out w2 HB2.out
    generalize g.ts[z].ex = ez at *
    have HR : Hid (extB g (q : Int) = (ez == -1)):=by show _ = _; rw [HE4.out,Bool.eq_iff_iff]; simp
    go_wp2_with fail
    go_quiet (fail)
    go_wp2_with fail
    go_ret
    exact ⟨ret_bool HR.out.symm,bstep HB0.out (Below.drewN HB2.out _)⟩
end Go.Proofs.YthpmpdpfnlecmaaGreat
