/- Texts joined: LaySpec, ChkKind11. -/
import Derived.Test.YtkjailahaopehaaGreatQ10
import Derived.Test.YtkjailahaopehaaGreatQ15
import Derived.Test.YtkjailahaopehaaGreatQ14
namespace Go.Proofs.YtkjailahaopehaaGreat
set_option linter.unusedVariables false
set_option linter.unusedSimpArgs false
open Go.RowKit
/-- The types of a type's own fields that aren't static. -/
def ownF (t : Int) (x : FD) : Bool := decide (x.ow = t) && !x.st
def hldL (g : Img) (t : Int) : List Ty := (g.fs.filter (ownF t)).map (·.t)
/-- One cell, or none. -/
def whlB (t : Ty) : Bool := decide (t.1 ≠ 6) || (t.2.2.2 || decide (0 < t.2.2.1))
def intT : Ty := (2, 0, 0, false)
def orI (l : List Ty) : List Ty := if l = [] then [intT] else l
def oneL (t : Ty) : List Ty := if t.1 = 1 then [] else [t]
/-- A type's cells, so many steps down. -/
def celK (g : Img) : Nat → Ty → List Ty
 | 0, t => oneL t
 | k + 1, t => if whlB t = true then oneL t else orI ((hldL g t.2.1).flatMap (celK g k))
/-- So many steps down there is nothing that holds anything. -/
def dpB (g : Img) : Nat → Ty → Bool
 | 0, t => whlB t
 | k + 1, t => whlB t || (hldL g t.2.1).all (dpB g k)
def celL (g : Img) (t : Ty) : List Ty := celK g g.ts.length t
/-- Used well. -/
def usdB (g : Img) (t : Ty) : Bool := plainT t && (if t.1 = 5 then decide (kndI g t.2.1 ≠ -1) && decide (kndI g t.2.1 ≠ 1) else if t.1 = 6 then decide (kndI g t.2.1 = 1) else true)
def ownC (g : Img) (u : Int) : List Ty := (hldL g u).flatMap (celL g)
def objL (g : Img) (t : Int) : List Ty := (upL g t).reverse.flatMap (ownC g)
def tooB (g : Img) (t : Int) : Bool := if kndI g t = 1 then decide (8 < (celL g (6, t, 0, false)).length) else if kndI g t = 0 then decide (32 < (objL g t).length) else false
/-- Check. -/
def lchI (g : Img) : Int × Int :=
 if welB g = false then (0, 17) else
 match g.fs.findIdx? (fun x => !usdB g x.t) with
 | some i => ((i : Int), 10)
 | none => match (List.range g.ts.length).findIdx? (fun t : Nat => tooB g (t : Int)) with
  | some t => ((t : Int), 20)
  | none => (0, 0)
def finB (g : Img) : Bool := decide ((lchI g).2 = 0)
/-- The cells of the static fields ahead of one; where a field begins. -/
def statL (g : Img) (q : Nat) : List Ty := ((g.fs.take q).filter (·.st)).flatMap (fun x => celL g x.t)
def begN (g : Img) (x : FD) : Nat := if x.st = true then 0 else if kndI g x.ow = 0 then 1 + (objL g (exI g x.ow)).length else 0
def togB (x y : FD) : Bool := (x.st == y.st) && (x.st || decide (x.ow = y.ow))
def fwdN (g : Img) (x : FD) (q : Nat) : Nat := (((g.fs.take q).filter (fun y => togB y x)).flatMap (fun y => celL g y.t)).length
def plcN (g : Img) (x : FD) (q : Nat) : Nat := begN g x + fwdN g x q
def plcI (g : Img) (f : Int) : Int := match g.fs[f.toNat]? with | some x => if 0 ≤ f then (plcN g x f.toNat : Int) else -1 | none => -1

theorem whl_dp {g : Img} {k : Nat} {t : Ty} (h : whlB t = true) : dpB g k t = true := by
 cases k with
 | zero => exact h
 | succ k => unfold dpB; rw [h]; rfl
theorem dp_next {g : Img} : ∀ {k : Nat} {t : Ty}, dpB g k t = true → dpB g (k + 1) t = true ∧ celK g (k + 1) t = celK g k t
 | 0, t, h => by
  refine ⟨whl_dp h, ?_⟩
  unfold dpB at h
  show (if whlB t = true then oneL t else _) = oneL t
  rw [if_pos h]
 | k + 1, t, h => by
  cases hw : whlB t with
  | true =>
   refine ⟨whl_dp hw, ?_⟩
   show (if whlB t = true then oneL t else _) = (if whlB t = true then oneL t else _)
   rw [if_pos hw, if_pos hw]
  | false =>
   have h1 : (hldL g t.2.1).all (dpB g k) = true := by
    unfold dpB at h; rw [hw] at h; simpa using h
   rw [List.all_eq_true] at h1
   refine ⟨?_, ?_⟩
   ·show (whlB t || (hldL g t.2.1).all (dpB g (k + 1))) = true
    rw [hw, Bool.false_or, List.all_eq_true]
    exact fun x hx => (dp_next (h1 x hx)).1
   ·show (if whlB t = true then oneL t else orI ((hldL g t.2.1).flatMap (celK g (k + 1)))) = (if whlB t = true then oneL t else orI ((hldL g t.2.1).flatMap (celK g k)))
    rw [hw, if_neg (by decide), if_neg (by decide)]
    congr 1
    have : ∀ l : List Ty, (∀ x ∈ l, celK g (k + 1) x = celK g k x) → l.flatMap (celK g (k + 1)) = l.flatMap (celK g k) := by
     intro l
     induction l with
     | nil => intro _; rfl
     | cons a r ih =>
      intro hl
      rw [List.flatMap_cons, List.flatMap_cons, hl a (by simp), ih (fun x hx => hl x (List.mem_cons_of_mem _ hx))]
    exact this _ (fun x hx => (dp_next (h1 x hx)).2)

theorem knd_num {g : Img} {t : Int} (h : kndI g t ≠ -1) : numB t g.ts.length = true := by
 cases hn : numB t g.ts.length with
 | true => rfl
 | false => exact absurd (by unfold kndI; rw [hn]; rfl) h
theorem mem_hld {g : Img} {t : Int} {y : Ty} (h : y ∈ hldL g t) : ∃ (i : Nat) (hi : i < g.fs.length), g.fs[i].t = y ∧ g.fs[i].ow = t ∧ g.fs[i].st = false := by
 unfold hldL at h
 rw [List.mem_map] at h
 obtain ⟨x, hx, rfl⟩ := h
 rw [List.mem_filter] at hx
 obtain ⟨i, hi, rfl⟩ := List.mem_iff_getElem.1 hx.1
 have := hx.2
 unfold ownF at this
 simp only [Bool.and_eq_true, decide_eq_true_iff, Bool.not_eq_true'] at this
 exact ⟨i, hi, rfl, this.1, this.2⟩
theorem mem_pkN {α : Type} (p : α → Bool) : ∀ (l : List α) (s : Nat) (i : Nat) (h : i < l.length), p l[i] = true → (((s + i : Nat) : Int)) ∈ pkN p (s : Int) l
 | c :: r, s, 0, h, hp => by
  unfold pkN
  have : p c = true := hp
  rw [if_pos this]; simp
 | c :: r, s, i + 1, h, hp => by
  unfold pkN
  have := mem_pkN p r (s + 1) i (by simpa using h) hp
  rw [List.mem_append]
  refine Or.inr ?_
  rw [show s + (i + 1) = s + 1 + i by omega]
  exact this
theorem usd_val {g : Img} {t : Ty} (hu : usdB g t = true) (hw : whlB t = false) : t.1 = 6 ∧ t.2.2.2 = false ∧ t.2.2.1 = 0 ∧ kndI g t.2.1 = 1 ∧ numB t.2.1 g.ts.length = true := by
 unfold whlB at hw
 simp only [Bool.or_eq_false_iff, decide_eq_false_iff_not, ne_eq, Decidable.not_not] at hw
 obtain ⟨h1, h2, h3⟩ := hw
 unfold usdB at hu
 rw [h1, if_neg (by decide), if_pos rfl, Bool.and_eq_true, decide_eq_true_iff] at hu
 have hd : 0 ≤ t.2.2.1 := by
  have := hu.1
  unfold plainT plainB at this
  rw [decide_eq_true_iff] at this
  exact this.1
 exact ⟨h1, h2, by omega, hu.2, knd_num (by rw [hu.2]; decide)⟩
theorem held_prt {g : Img} {t : Int} {y : Ty} (ht : numB t g.ts.length = true) (hy : y ∈ hldL g t) (hu : usdB g y = true) (hw : whlB y = false) : y.2.1 ∈ prtL g t := by
 obtain ⟨i, hi, h1, h2, h3⟩ := mem_hld hy
 obtain ⟨v1, v2, v3, v4, v5⟩ := usd_val hu hw
 have hf : fvtI g (i : Int) = y := by unfold fvtI; rw [Int.toNat_natCast, List.getElem?_eq_getElem hi]; exact h1
 have hs : fstI g (i : Int) = false := by unfold fstI; rw [Int.toNat_natCast, List.getElem?_eq_getElem hi]; exact h3
 unfold prtL
 rw [List.mem_map]
 refine ⟨(i : Int), ?_, by rw [hf]⟩
 rw [List.mem_filter]
 refine ⟨?_, ?_⟩
 ·unfold fldN
  rw [if_pos ht]
  have := mem_pkN (fun x : FD => decide (x.ow = t)) g.fs 0 i hi (by simpa using h2)
  simpa using this
 ·unfold prtB
  rw [hf, hs, v1, v3, v4]; rfl

/-- All fields' types are used well. -/
def AllU (g : Img) : Prop := ∀ x ∈ g.fs, usdB g x.t = true
def ValA (g : Img) : Prop := ∀ t, numB t g.ts.length = true → kndI g t = 1 → t ∉ reachL g.ts.length (prtL g) (prtL g t)
theorem AllU.hld {g : Img} (h : AllU g) {t : Int} {y : Ty} (hy : y ∈ hldL g t) : usdB g y = true := by
 obtain ⟨i, hi, h1, _⟩ := mem_hld hy
 rw [← h1]; exact h _ (List.getElem_mem hi)
theorem ValA.of {g : Img} (h : welB g = true) : ValA g := by
 intro t ht hk hm
 have := ((wel_all h).2 t ht).2.2.2.2
 unfold szdB at this
 rw [hk, if_neg (by decide), if_neg (by decide), if_pos rfl] at this
 rw [List.contains_iff_mem.2 hm] at this
 cases this
theorem dp_path {g : Img} (U : AllU g) (V : ValA g) : ∀ (k : Nat) (P : List Int) (t : Ty), usdB g t = true → whlB t = false → P.Nodup → (∀ p ∈ P, numB p g.ts.length = true ∧ Rch g.ts.length (prtL g) (prtL g p) t.2.1) → dpB g k t = false → P.length + k + 1 ≤ g.ts.length
 | k, P, t, hu, hw, hd, hp, hf => by
  obtain ⟨v1, v2, v3, v4, v5⟩ := usd_val hu hw
  have hn : t.2.1 ∉ P := fun hm => V _ v5 v4 (reachL_iff.2 (hp _ hm).2)
  have hd2 : (t.2.1 :: P).Nodup := List.nodup_cons.2 ⟨hn, hd⟩
  have hnum : ∀ x ∈ t.2.1 :: P, numB x g.ts.length = true := by
   intro x hx
   rcases List.mem_cons.1 hx with rfl | hx
   ·exact v5
   ·exact (hp x hx).1
  cases k with
  | zero =>
   have := nodup_len g.ts.length _ hd2 (fun x hx => numB_iff.1 (hnum x hx))
   simpa using this
  | succ k =>
   have hf2 : (hldL g t.2.1).all (dpB g k) = false := by
    unfold dpB at hf; rw [hw] at hf; simpa using hf
   rw [List.all_eq_false] at hf2
   obtain ⟨y, hy, hyd⟩ := hf2
   have hyd2 : dpB g k y = false := by simpa using hyd
   have hyw : whlB y = false := by
    cases h : whlB y with
    | false => rfl
    | true => rw [whl_dp h] at hyd2; cases hyd2
   have hyu := U.hld hy
   have hyp := held_prt v5 hy hyu hyw
   have hyn := (usd_val hyu hyw).2.2.2.2
   have hstep : Rch g.ts.length (prtL g) (prtL g t.2.1) y.2.1 := fun S hS _ => hS _ hyp hyn
   have := dp_path U V k (t.2.1 :: P) y hyu hyw hd2 (fun p hp2 => ⟨hnum p hp2, by
    rcases List.mem_cons.1 hp2 with rfl | hp3
    ·exact hstep
    ·exact (hp p hp3).2.trans hstep⟩) hyd2
   rw [List.length_cons] at this
   omega
theorem dp_all {g : Img} (U : AllU g) (V : ValA g) {t : Ty} (hu : usdB g t = true) : dpB g g.ts.length t = true := by
 cases hw : whlB t with
 | true => exact whl_dp hw
 | false =>
  cases hd : dpB g g.ts.length t with
  | true => rfl
  | false =>
   have := dp_path U V g.ts.length [] t hu hw (by simp) (fun p hp => absurd hp (by simp)) hd
   simp at this
   omega
theorem cel_whole {g : Img} {t : Ty} (hw : whlB t = true) : celL g t = oneL t := by
 unfold celL
 cases g.ts.length with
 | zero => rfl
 | succ k => show (if whlB t = true then oneL t else _) = _; rw [if_pos hw]
theorem flatMap_eq {α β : Type} {f h : α → List β} : ∀ {l : List α}, (∀ x ∈ l, f x = h x) → l.flatMap f = l.flatMap h
 | [], _ => rfl
 | a :: r, hl => by rw [List.flatMap_cons, List.flatMap_cons, hl a (by simp), flatMap_eq (fun x hx => hl x (List.mem_cons_of_mem _ hx))]
theorem cel_value {g : Img} (U : AllU g) (V : ValA g) {t : Ty} (hu : usdB g t = true) (hw : whlB t = false) : celL g t = orI (ownC g t.2.1) := by
 have hd := dp_all U V hu
 have hn := (usd_val hu hw).2.2.2.2
 have hpos : 0 < g.ts.length := by rw [numB_iff] at hn; omega
 obtain ⟨m, hm⟩ : ∃ m, g.ts.length = m + 1 := ⟨g.ts.length - 1, by omega⟩
 unfold ownC
 unfold celL
 rw [hm] at hd ⊢
 have h1 : (hldL g t.2.1).all (dpB g m) = true := by
  unfold dpB at hd; rw [hw] at hd; simpa using hd
 rw [List.all_eq_true] at h1
 show (if whlB t = true then oneL t else orI ((hldL g t.2.1).flatMap (celK g m))) = _
 rw [hw, if_neg (by decide)]
 congr 1
 exact flatMap_eq (fun x hx => ((dp_next (h1 x hx)).2).symm)

/-- What is cut off: all, or enough to show that it is too much. -/
def Cut (l c : List Ty) : Prop := l = c ∨ (32 < l.length ∧ 32 < c.length)
theorem Cut.le {l c : List Ty} (h : Cut l c) (hc : c.length ≤ 32) : l = c := by
 rcases h with h | ⟨_, h⟩
 ·exact h
 ·omega
theorem Cut.lt8 {l c : List Ty} (h : Cut l c) : (8 < l.length) ↔ (8 < c.length) := by
 rcases h with rfl | ⟨h1, h2⟩
 ·exact Iff.rfl
 ·omega
theorem Cut.lt32 {l c : List Ty} (h : Cut l c) : (32 < l.length) ↔ (32 < c.length) := by
 rcases h with rfl | ⟨h1, h2⟩
 ·exact Iff.rfl
 ·omega
theorem Cut.app {l c a b : List Ty} (h : Cut l c) (k : Cut a b) : Cut (l ++ a) (c ++ b) := by
 unfold Cut at *
 simp only [List.length_append]
 rcases h with rfl | ⟨h1, h2⟩
 ·rcases k with rfl | ⟨k1, k2⟩
  ·exact Or.inl rfl
  ·exact Or.inr ⟨by omega, by omega⟩
 ·exact Or.inr ⟨by omega, by omega⟩
theorem Cut.stop {l c : List Ty} (h : Cut l c) (hl : 32 < l.length) (b : List Ty) : Cut l (c ++ b) := by
 unfold Cut at *
 simp only [List.length_append]
 rcases h with rfl | ⟨h1, h2⟩
 ·exact Or.inr ⟨by omega, by omega⟩
 ·exact Or.inr ⟨by omega, by omega⟩

/-- The facts of an image whose fields are well. -/
structure Fin_ (g : Img) : Prop where
 wel : welB g = true
 used : AllU g
 val : ∀ t, kndI g t = 1 → (celL g (6, t, 0, false)).length ≤ 8
 cls : ∀ t, kndI g t = 0 → (objL g t).length ≤ 32
theorem findIdx_none {α : Type} {p : α → Bool} {l : List α} : l.findIdx? p = none ↔ ∀ x ∈ l, p x = false := List.findIdx?_eq_none_iff
theorem findIdx_at {α : Type} {p : α → Bool} {l : List α} {q : Nat} (hq : q < l.length) (h : ∀ x ∈ l.take q, p x = false) (hp : p l[q] = true) : l.findIdx? p = some q := by
 rw [List.findIdx?_eq_some_iff_getElem]
 refine ⟨hq, hp, fun j hj => ?_⟩
 have := h l[j] (by rw [List.mem_take_iff_getElem]; exact ⟨j, by omega, rfl⟩)
 rw [this]; decide
theorem Fin_.of {g : Img} (h : finB g = true) : Fin_ g := by
 unfold finB lchI at h
 rw [decide_eq_true_iff] at h
 cases hw : welB g with
 | false => rw [hw, if_pos rfl] at h; simp at h
 | true =>
  rw [hw, if_neg (by decide)] at h
  cases h1 : g.fs.findIdx? (fun x => !usdB g x.t) with
  | some i => rw [h1] at h; simp at h
  | none =>
   rw [h1] at h
   cases h2 : (List.range g.ts.length).findIdx? (fun t : Nat => tooB g (t : Int)) with
   | some i => rw [h2] at h; simp at h
   | none =>
    rw [findIdx_none] at h1 h2
    have hT : ∀ t : Int, kndI g t ≠ -1 → tooB g t = false := fun t ht => by
     have hn := numB_iff.1 (knd_num ht)
     have := h2 t.toNat (by rw [List.mem_range]; omega)
     rwa [show ((t.toNat : Nat) : Int) = t by omega] at this
    refine ⟨hw, fun x hx => by simpa using h1 x hx, fun t ht => ?_, fun t ht => ?_⟩
    ·have := hT t (by rw [ht]; decide)
     unfold tooB at this
     rw [ht, if_pos rfl, decide_eq_false_iff_not] at this
     omega
    ·have := hT t (by rw [ht]; decide)
     unfold tooB at this
     rw [ht, if_neg (by decide), if_pos rfl, decide_eq_false_iff_not] at this
     omega
theorem Fin_.valA {g : Img} (F : Fin_ g) : ValA g := ValA.of F.wel
theorem Fin_.cel8 {g : Img} (F : Fin_ g) {t : Ty} (hu : usdB g t = true) : (celL g t).length ≤ 8 := by
 cases hw : whlB t with
 | true => rw [cel_whole hw]; unfold oneL; split <;> simp
 | false =>
  obtain ⟨v1, v2, v3, v4, v5⟩ := usd_val hu hw
  have := F.val _ v4
  have e : t = (6, t.2.1, 0, false) := by
   obtain ⟨a, b, c, d⟩ := t
   simp only at v1 v2 v3
   subst v1 v2 v3
   rfl
  rw [e]; exact this
/-- An object is one of what is extended, and behind it its own. -/
theorem objL_cons {g : Img} (W : Wel g) {t : Int} (h : numB t g.ts.length = true) : objL g t = objL g (exI g t) ++ ownC g t := by
 unfold objL
 rw [upL_cons W h]
 simp
theorem objL_out {g : Img} {t : Int} (h : numB t g.ts.length = false) : objL g t = [] := by
 unfold objL
 rw [upL_out h]; rfl

theorem fmc_len {g : Img} : ∀ l : List FD, (∀ x ∈ l, (celL g x.t).length ≤ 8) → (l.flatMap (fun x => celL g x.t)).length ≤ 8 * l.length
 | [], _ => by simp
 | a :: r, h => by
  rw [List.flatMap_cons, List.length_append, List.length_cons]
  have h1 := h a (by simp)
  have h2 := fmc_len r (fun x hx => h x (List.mem_cons_of_mem _ hx))
  omega
end Go.Proofs.YtkjailahaopehaaGreat

namespace Go.Proofs.YtkjailahaopehaaGreat
set_option linter.unusedVariables false
set_option linter.unusedSimpArgs false
open Go.RowKit
attribute [local go_sem ↓] Go.wp_at_zero Go.wp_at_succ
theorem and_asked0 : ∀ f : Fin 32, ((bits .and .i64 (f.val : Int) 29 == 4) = (bitB (f.val : Int) 4 && !bitB (f.val : Int) 1 && !bitB (f.val : Int) 8 && !bitB (f.val : Int) 16)) ∧ ((bits .and .i64 (f.val : Int) 28 == 8) = (bitB (f.val : Int) 8 && !bitB (f.val : Int) 4 && !bitB (f.val : Int) 16)) ∧ ((bits .and .i64 (f.val : Int) 12 == 8) = (bitB (f.val : Int) 8 && !bitB (f.val : Int) 4)) := by decide +kernel
theorem and_asked {f : Int} (h : 0 ≤ f ∧ f ≤ 31) : ((bits .and .i64 f 29 == 4) = (bitB f 4 && !bitB f 1 && !bitB f 8 && !bitB f 16)) ∧ ((bits .and .i64 f 28 == 8) = (bitB f 8 && !bitB f 4 && !bitB f 16)) ∧ ((bits .and .i64 f 12 == 8) = (bitB f 8 && !bitB f 4)) := by
 have := and_asked0 ⟨f.toNat, by omega⟩
 have e : ((f.toNat : Nat) : Int) = f := by omega
 simp only [e] at this
 exact this
theorem kindF_four (f : Int) : kindF f = 0 ∨ kindF f = 2 ∨ kindF f = 1 ∨ kindF f = 3 := by
 unfold kindF
 split
 ·simp
 ·split
  ·simp
  ·split <;> simp

set_option maxHeartbeats 4000000 in
theorem ofKind_any {g : Img} {q : Nat} {w : World} (hg : Im w g) (hi : imB g = true) (hq : q < g.ts.length) :
  Calls Tryz.prog 72 #[imV g, .int .i64 q] w fun e w' => e = .returned (.bool (flgF g.ts[q].fl g.ts[q].ex)) ∧ Below w.heap.size w w' := by
 obtain ⟨w0, hw0⟩ : ∃ W, W = w.alloc (.cells (imC g) 26) := ⟨_, rfl⟩
 have HW0 : Hid (w0 = _) := hw0
 obtain ⟨hb0, hgb⟩ := GB.made hg hw0
 have HB0 : Hid (Below w.heap.size w w0) := hb0
 have hfq := FlOk.of hi _ (List.getElem_mem hq)
 have HKd : Hid (Calls Tryz.prog 43 #[.agg (imC g), .int .i64 q] w0 fun e w' => e = .returned (.int .i64 (kindF g.ts[q].fl)) ∧ Below w0.heap.size w0 w') := by
  have := kind_any (q : Int) hgb.im (FlOk.of hi)
  rwa [knd_at hq] at this
 obtain ⟨tb, off, hta, h8, h9, hty⟩ := hgb.ty (by intro e; rw [e] at hq; simp at hq)
 have HTY : Hid (∀ W, Below w0.heap.size w0 W → W.cell? ⟨w.heap.size, 0, none⟩ = some (.slice (some ⟨tb, off, none⟩) g.ts.length g.tc) ∧ W.cell? ⟨tb, off + q * 4, none⟩ = some (.string g.ts[q].nm) ∧ W.cell? ⟨tb, off + q * 4 + 1, none⟩ = some (.int .i64 g.ts[q].fl) ∧ W.cell? ⟨tb, off + q * 4 + 2, none⟩ = some (.int .i64 g.ts[q].ex) ∧ W.cell? ⟨tb, off + q * 4 + 3, none⟩ = some (.slice g.ts[q].fa g.ts[q].fs.length g.ts[q].fc)) := fun W hW => ⟨(hty W hW).1, (hty W hW).2 q hq⟩
 obtain ⟨c0, c1, c2, c3⟩ := hgb.cells
 have hqi : (q : Int) < (g.ts.length : Int) := by omega
 obtain ⟨ha1, ha2, ha3⟩ := and_asked hfq
 unfold imC at HW0 HKd
 unfold maxLen at h9
 rw [hta] at HKd c0 HW0
 clear hw0 hb0 hgb hg hi hfq hty
 unfold imV
 rw [hta]
 clear hta
 generalize g.ts[q] = x at *
 obtain ⟨f, hf⟩ : ∃ f, f = x.fl := ⟨_, rfl⟩
 rw [← hf] at HKd ha1 ha2 ha3 HTY
 rw [← hf]
 clear hf
 go_enter Tryz.func72, Tryz.ntmps72
 go_wp2_with (rw [← HW0.out])
 refine Calls.mono HKd.out ?_
 rintro e w1 ⟨rfl, hb1⟩
 have HB1 : Hid (Below w0.heap.size w0 w1) := hb1
 obtain ⟨d0, k0, k1, k2, k3⟩ := HTY.out w1 hb1
 obtain ⟨w2, hw2⟩ : ∃ W, W = w1.alloc (.cells #[.string x.nm, .int .i64 f, .int .i64 x.ex, .slice x.fa x.fs.length x.fc] 54) := ⟨_, rfl⟩
 have HW2 : Hid (w2 = _) := hw2
 have hA : At w2 w1.heap.size #[.string x.nm, .int .i64 f, .int .i64 x.ex, .slice x.fa x.fs.length x.fc] 54 := by rw [hw2]; exact At.made _ _ _
 have HB2 : Hid (Below w.heap.size w w2) := bstep HB0.out (bstep HB1.out (by rw [hw2]; exact made_below _ _ _))
 have e1 := hA.cell 1
 have e2 := hA.cell 2
 simp at e1 e2
 clear hA hw2 hb1 c0 c1 c2 c3 HKd HTY
 rcases kindF_four f with hk | hk | hk | hk
 ·have HR : Hid (flgF f x.ex = true) := by show _ = _; unfold flgF; rw [hk]; rfl
  rw [hk]
  clear hk
  go_wp2_with (rw [← HW2.out])
  go_ret
  exact ⟨ret_bool HR.out.symm, bstep HB0.out HB1.out⟩
 ·have HR : Hid (flgF f x.ex = (decide (x.ex = -1) && (bits .and .i64 f 29 == 4))) := by show _ = _; unfold flgF; rw [if_pos hk, ha1]
  rw [hk]
  clear hk ha1 ha2 ha3
  obtain ⟨b, hb⟩ : ∃ b, b = (bits .and .i64 f 29 == 4) := ⟨_, rfl⟩
  rw [← hb] at HR
  cases b with
  | false =>
   have hb' := hb.symm
   clear hb
   go_wp2_with (rw [← HW2.out])
   go_ret
   exact ⟨ret_bool (by rw [HR.out]; simp), HB2.out⟩
  | true =>
   have hb' := hb.symm
   clear hb
   go_wp2_with (rw [← HW2.out])
   go_ret
   exact ⟨ret_bool (by rw [HR.out, Bool.and_true, Bool.eq_iff_iff]; simp), HB2.out⟩
 ·have HR : Hid (flgF f x.ex = (decide (x.ex = -1) && (bits .and .i64 f 28 == 8))) := by show _ = _; unfold flgF; rw [hk, if_neg (by decide), if_pos rfl, ha2]
  rw [hk]
  clear hk ha1 ha2 ha3
  obtain ⟨b, hb⟩ : ∃ b, b = (bits .and .i64 f 28 == 8) := ⟨_, rfl⟩
  rw [← hb] at HR
  cases b with
  | false =>
   have hb' := hb.symm
   clear hb
   go_wp2_with (rw [← HW2.out])
   go_ret
   exact ⟨ret_bool (by rw [HR.out]; simp), HB2.out⟩
  | true =>
   have hb' := hb.symm
   clear hb
   go_wp2_with (rw [← HW2.out])
   go_ret
   exact ⟨ret_bool (by rw [HR.out, Bool.and_true, Bool.eq_iff_iff]; simp), HB2.out⟩
 ·have HR : Hid (flgF f x.ex = (decide (x.ex = -1) && (bits .and .i64 f 12 == 8))) := by show _ = _; unfold flgF; rw [hk, if_neg (by decide), if_neg (by decide), if_pos rfl, ha3]
  rw [hk]
  clear hk ha1 ha2 ha3
  obtain ⟨b, hb⟩ : ∃ b, b = (bits .and .i64 f 12 == 8) := ⟨_, rfl⟩
  rw [← hb] at HR
  cases b with
  | false =>
   have hb' := hb.symm
   clear hb
   go_wp2_with (rw [← HW2.out])
   go_ret
   exact ⟨ret_bool (by rw [HR.out]; simp), HB2.out⟩
  | true =>
   have hb' := hb.symm
   clear hb
   go_wp2_with (rw [← HW2.out])
   go_ret
   exact ⟨ret_bool (by rw [HR.out, Bool.and_true, Bool.eq_iff_iff]; simp), HB2.out⟩
end Go.Proofs.YtkjailahaopehaaGreat
