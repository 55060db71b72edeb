/- Texts joined: SlotSpec. -/
import Derived.Test.YthpmpdpfnlecmaaGreatQ12
namespace Go.Proofs.YthpmpdpfnlecmaaGreat
set_option linter.unusedVariables false
set_option linter.unusedSimpArgs false
open Go.RowKit
def mflI (g : Img) (i : Int) : Int:=match g.ms[i.toNat]? with | some x => x.fl | none => 0
def mowI (g : Img) (i : Int) : Int:=match g.ms[i.toNat]? with | some x => x.ow | none => -1
theorem mflI_at {g : Img} {q : Nat} (h : q < g.ms.length) : mflI g (q : Int) = g.ms[q].fl:=by unfold mflI; rw [Int.toNat_natCast,List.getElem?_eq_getElem h]
theorem mowI_at {g : Img} {q : Nat} (h : q < g.ms.length) : mowI g (q : Int) = g.ms[q].ow:=by unfold mowI; rw [Int.toNat_natCast,List.getElem?_eq_getElem h]
def virB (g : Img) (i : Int) : Bool:=bitB (mflI g i) 2
def virL (g : Img) (t : Int) : List Int:=(mtdN g t).filter (virB g)
def plcO (g : Img) (l : List Int) (m : Int) : Option Nat:=if bitB (mflI g m) 8 = true then none else l.findIdx? (fun k => smI g k m)
def putL (g : Img) (l : List Int) (m : Int) : List Int:=match plcO g l m with | some k => l.set k m | none => l ++ [m]
def tabL (g : Img) (t : Int) : List Int:=((upL g t).reverse.flatMap (virL g)).foldl (putL g) []
def fidI (p : Int → Bool) (l : List Int) : Int:=match l.findIdx? p with | some k => (k : Int) | none => -1
theorem fid_yes {p : Int → Bool} {l : List Int} {q : Nat} (hq : q < l.length) (h : (l.take q).any p = false) (hx : p l[q] = true) : fidI p l = (q : Int):=by
 unfold fidI
 have : l.findIdx? p = some q:=by
  rw [List.findIdx?_eq_some_iff_getElem]
  refine ⟨hq,hx,fun j hj => ?_⟩
  rw [List.any_eq_false] at h
  exact h _ (List.mem_take_iff_getElem.2 ⟨j,by omega,rfl⟩)
 rw [this]
theorem fid_no {p : Int → Bool} {l : List Int} (h : l.any p = false) : fidI p l = -1:=by
 unfold fidI
 have : l.findIdx? p = none:=by
  rw [List.findIdx?_eq_none_iff]
  intro x hx
  rw [List.any_eq_false] at h
  simpa using h x hx
 rw [this]
theorem fid_cases (p : Int → Bool) (l : List Int) : fidI p l = -1∧l.any p = false ∨ ∃ (q : Nat) (hq : q < l.length),fidI p l = (q : Int)∧p l[q] = true∧(l.take q).any p = false:=by
 cases hf : l.findIdx? p with
 | none =>
  refine Or.inl ⟨by unfold fidI; rw [hf], ?_⟩
  rw [List.findIdx?_eq_none_iff] at hf
  rw [List.any_eq_false]
  intro x hx
  simp [hf x hx]
 | some k =>
  refine Or.inr ?_
  have hf2:=hf
  rw [List.findIdx?_eq_some_iff_getElem] at hf
  obtain ⟨hk,h1,h2⟩:=hf
  refine ⟨k,hk,by unfold fidI; rw [hf2],h1, ?_⟩
  rw [List.any_eq_false]
  intro x hx
  obtain ⟨j,hj,rfl⟩:=List.mem_take_iff_getElem.1 hx
  exact h2 j (by omega)
def ixI (l : List Int) (m : Int) : Int:=fidI (fun k => k == m) l
def sloI (g : Img) (m : Int) : Int:=ixI (tabL g (mowI g m)) m
def donC (g : Img) (t m : Int) : Int:=match (tabL g t)[(sloI g m).toNat]? with | some k => k | none => -1
def fstV (g : Img) (t m : Int) : Option Int:=((upL g t).flatMap (virL g)).find? (fun k => smI g k m)
def donI (g : Img) (t m : Int) : Int :=
 if virB g m = false then m else if kndI g (mowI g m) = 0 then donC g t m else match fstV g t m with | some k => donC g t k | none => -1

def mNum (g : Img) (m : Int) : Prop:=numB m g.ms.length = true
theorem pkN_mem {α : Type} (p : α → Bool) : ∀ (l : List α) (s : Nat) (i : Int),i ∈ pkN p (s : Int) l → ∃ (q : Nat) (h : q < l.length),i = ((s + q : Nat) : Int)∧p l[q] = true
 | [],s,i,h => by simp [pkN] at h
 | c :: r,s,i,h => by
  unfold pkN at h
  rcases List.mem_append.1 h with h | h
  ·split at h
   ·rename_i hc
    simp at h
    exact ⟨0,by simp,by simpa using h,hc⟩
   ·simp at h
  ·obtain ⟨q,hq,e,hp⟩:=pkN_mem p r (s + 1) i (by simpa using h)
   exact ⟨q + 1,by simpa using hq,by rw [e]; omega,hp⟩
theorem mtd_mem {g : Img} {t i : Int} (h : i ∈ mtdN g t) : ∃ (q : Nat) (hq : q < g.ms.length),i = (q : Int)∧g.ms[q].ow = t:=by
 unfold mtdN at h
 split at h
 ·obtain ⟨q,hq,e,hp⟩:=pkN_mem _ g.ms 0 i (by simpa using h)
  exact ⟨q,hq,by simpa using e,by simpa using hp⟩
 ·simp at h
theorem mtd_has {g : Img} {q : Nat} (hq : q < g.ms.length) (hn : numB g.ms[q].ow g.ts.length = true) : (q : Int) ∈ mtdN g g.ms[q].ow:=by
 unfold mtdN
 rw [if_pos hn]
 have:=mem_pkN (fun x : MD => decide (x.ow = g.ms[q].ow)) g.ms 0 q hq (by simp)
 simpa using this
theorem vir_mem {g : Img} {t i : Int} (h : i ∈ virL g t) : ∃ (q : Nat) (hq : q < g.ms.length),i = (q : Int)∧g.ms[q].ow = t∧virB g i = true:=by
 unfold virL at h
 rw [List.mem_filter] at h
 obtain ⟨q,hq,e,ho⟩:=mtd_mem h.1
 exact ⟨q,hq,e,ho,h.2⟩
theorem vir_len (g : Img) (t : Int) : (virL g t).length ≤ g.ms.length:=by
 unfold virL mtdN
 refine Nat.le_trans (List.length_filter_le _ _) ?_
 split
 ·have : ∀ (l : List MD) (i : Int),(pkN (fun x => decide (x.ow = t)) i l).length ≤ l.length:=by
   intro l
   induction l with
   | nil => intro i; simp [pkN]
   | cons a r ih =>
    intro i
    unfold pkN
    rw [List.length_append,List.length_cons]
    have:=ih (i + 1)
    split <;> simp <;> omega
  exact this _ _
 ·simp

theorem tabL_cons {g : Img} (W : Wel g) {t : Int} (h : numB t g.ts.length = true) : tabL g t = (virL g t).foldl (putL g) (tabL g (exI g t)):=by
 unfold tabL
 rw [upL_cons W h,List.reverse_cons,List.flatMap_append,List.foldl_append]
 simp
theorem tabL_out {g : Img} {t : Int} (h : numB t g.ts.length = false) : tabL g t = []:=by
 unfold tabL; rw [upL_out h]; rfl

theorem smM_refl (x : MD) : smM x x = true:=by simp [smM]
theorem smM_symm {x y : MD} (h : smM x y = true) : smM y x = true:=by
 unfold smM at h ⊢
 rw [decide_eq_true_iff] at h ⊢
 exact ⟨h.1.symm,h.2.1.symm,h.2.2.1.symm,h.2.2.2.symm⟩
theorem smM_trans {x y z : MD} (h : smM x y = true) (h2 : smM y z = true) : smM x z = true:=by
 unfold smM at h h2 ⊢
 rw [decide_eq_true_iff] at h h2 ⊢
 exact ⟨h.1.trans h2.1,h.2.1.trans h2.2.1,h.2.2.1.trans h2.2.2.1,h.2.2.2.trans h2.2.2.2⟩
theorem smI_refl {g : Img} {i : Int} (h : mNum g i) : smI g i i = true:=by
 have:=numB_iff.1 h
 unfold smI
 rw [List.getElem?_eq_getElem (show i.toNat < g.ms.length by omega)]
 exact smM_refl _
theorem smI_symm {g : Img} {i k : Int} (h : smI g i k = true) : smI g k i = true:=by
 unfold smI at h ⊢
 cases h1 : g.ms[i.toNat]? with
 | none => rw [h1] at h; simp at h
 | some x =>
  cases h2 : g.ms[k.toNat]? with
  | none => rw [h1,h2] at h; simp at h
  | some y => rw [h1,h2] at h; exact smM_symm h
theorem smI_trans {g : Img} {i k j : Int} (h : smI g i k = true) (h0 : smI g k j = true) : smI g i j = true:=by
 unfold smI at h h0 ⊢
 cases h1 : g.ms[i.toNat]? with
 | none => rw [h1] at h; simp at h
 | some x =>
  cases h2 : g.ms[k.toNat]? with
  | none => rw [h1,h2] at h; simp at h
  | some y =>
   cases h3 : g.ms[j.toNat]? with
   | none => rw [h2,h3] at h0; simp at h0
   | some z => rw [h1,h2] at h; rw [h2,h3] at h0; exact smM_trans h h0

theorem plc_some {g : Img} {l : List Int} {m : Int} {k : Nat} (h : plcO g l m = some k) : ∃ hk : k < l.length,smI g l[k] m = true∧bitB (mflI g m) 8 = false:=by
 unfold plcO at h
 split at h
 ·simp at h
 ·rename_i hn
  rw [List.findIdx?_eq_some_iff_getElem] at h
  obtain ⟨hk,h1,_⟩:=h
  exact ⟨hk,h1,by simpa using hn⟩
theorem put_some {g : Img} {l : List Int} {m : Int} {k : Nat} (h : plcO g l m = some k) : putL g l m = l.set k m:=by unfold putL; rw [h]
theorem put_none {g : Img} {l : List Int} {m : Int} (h : plcO g l m = none) : putL g l m = l ++ [m]:=by unfold putL; rw [h]
def Keep13 (g : Img) (l l2 : List Int) : Prop:=l.length ≤ l2.length∧∀ i (h : i < l.length) (h2 : i < l2.length),smI g l2[i] l[i] = true
theorem Keep13.refl {g : Img} {l : List Int} (h : ∀ x ∈ l,mNum g x) : Keep13 g l l:=⟨Nat.le_refl _,fun i h1 _ => smI_refl (h _ (List.getElem_mem h1))⟩
theorem Keep13.trans {g : Img} {a b c : List Int} (h1 : Keep13 g a b) (h2 : Keep13 g b c) : Keep13 g a c :=
 ⟨Nat.le_trans h1.1 h2.1,fun i ha hc => smI_trans (h2.2 i (by have:=h1.1; omega) hc) (h1.2 i ha (by have:=h1.1; omega))⟩
theorem Keep13.put {g : Img} {l : List Int} {m : Int} (h : ∀ x ∈ l,mNum g x) : Keep13 g l (putL g l m):=by
 cases hp : plcO g l m with
 | none =>
  rw [put_none hp]
  refine ⟨by simp,fun i h1 h2 => ?_⟩
  rw [List.getElem_append_left h1]
  exact smI_refl (h _ (List.getElem_mem h1))
 | some k =>
  rw [put_some hp]
  obtain ⟨hk,h1,_⟩:=plc_some hp
  refine ⟨by simp,fun i h3 h2 => ?_⟩
  rw [List.getElem_set]
  split
  ·rename_i e; subst e; exact smI_symm h1
  ·exact smI_refl (h _ (List.getElem_mem h3))
theorem put_num {g : Img} {l : List Int} {m x : Int} (h : x ∈ putL g l m) : x ∈ l ∨ x = m:=by
 cases hp : plcO g l m with
 | none => rw [put_none hp] at h; simpa using h
 | some k => rw [put_some hp] at h; exact List.mem_or_eq_of_mem_set h
theorem fold_mem {g : Img} : ∀ {v l : List Int} {x : Int},x ∈ v.foldl (putL g) l → x ∈ l ∨ x ∈ v
 | [],l,x,h => Or.inl h
 | a :: r,l,x,h => by
  rcases fold_mem (v:=r) (l:=putL g l a) h with h | h
  ·rcases put_num h with h | h
   ·exact Or.inl h
   ·exact Or.inr (by simp [h])
  ·exact Or.inr (List.mem_cons_of_mem _ h)
theorem fold_keep {g : Img} : ∀ {v l : List Int},(∀ x ∈ l,mNum g x) → (∀ x ∈ v,mNum g x) → Keep13 g l (v.foldl (putL g) l)
 | [],l,h,_ => Keep13.refl h
 | a :: r,l,h,hv => (Keep13.put h).trans (fold_keep (v:=r) (fun x hx => by
   rcases put_num hx with hx | hx
   ·exact h x hx
   ·rw [hx]; exact hv a (by simp)) (fun x hx => hv x (List.mem_cons_of_mem _ hx)))
theorem vir_num {g : Img} {t x : Int} (h : x ∈ virL g t) : mNum g x:=by
 obtain ⟨q,hq,e,_⟩:=vir_mem h
 rw [e]; exact numB_iff.2 (by omega)
theorem fold_len {g : Img} : ∀ (v l : List Int),(v.foldl (putL g) l).length ≤ l.length + v.length
 | [],l => by simp
 | a :: r,l => by
  have:=fold_len (g:=g) r (putL g l a)
  have h2 : (putL g l a).length ≤ l.length + 1:=by
   cases hp : plcO g l a with
   | none => rw [put_none hp]; simp
   | some k => rw [put_some hp]; simp
  rw [List.foldl_cons,List.length_cons]; omega
theorem tab_mem {g : Img} {t x : Int} (h : x ∈ tabL g t) : ∃ u ∈ upL g t,x ∈ virL g u:=by
 unfold tabL at h
 rcases fold_mem h with h | h
 ·simp at h
 ·obtain ⟨u,hu,hx⟩:=List.mem_flatMap.1 h
  exact ⟨u,by simpa using hu,hx⟩
theorem tab_num {g : Img} {t x : Int} (h : x ∈ tabL g t) : mNum g x:=by
 obtain ⟨u,_,hx⟩:=tab_mem h
 exact vir_num hx
theorem tab_vir {g : Img} {t x : Int} (h : x ∈ tabL g t) : virB g x = true:=by
 obtain ⟨u,_,hx⟩:=tab_mem h
 obtain ⟨_,_,_,_,h⟩:=vir_mem hx
 exact h
theorem up_len (g : Img) (t : Int) : (upL g t).length ≤ g.ts.length:=by simpa using (upL_nd g t).len
theorem tab_len {g : Img} (t : Int) : (tabL g t).length ≤ g.ts.length * g.ms.length:=by
 unfold tabL
 have h1:=fold_len (g:=g) ((upL g t).reverse.flatMap (virL g)) []
 have h2 : ∀ l : List Int,(l.flatMap (virL g)).length ≤ l.length * g.ms.length:=by
  intro l
  induction l with
  | nil => simp
  | cons a r ih =>
   rw [List.flatMap_cons,List.length_append,List.length_cons,Nat.succ_mul]
   have:=vir_len g a
   omega
 have h3:=h2 (upL g t).reverse
 rw [List.length_reverse] at h3
 have h4:=Nat.mul_le_mul_right g.ms.length (up_len g t)
 simp only [List.length_nil,Nat.zero_add] at h1
 omega
theorem tab_keep {g : Img} (W : Wel g) {t : Int} (h : numB t g.ts.length = true) : Keep13 g (tabL g (exI g t)) (tabL g t):=by
 rw [tabL_cons W h]
 exact fold_keep (fun x hx => tab_num hx) (fun x hx => vir_num hx)
theorem put_self {g : Img} {l : List Int} {m : Int} : m ∈ putL g l m:=by
 cases hp : plcO g l m with
 | none => rw [put_none hp]; simp
 | some k =>
  rw [put_some hp]
  obtain ⟨hk,_⟩:=plc_some hp
  exact List.mem_set hk _
theorem put_stay {g : Img} {l : List Int} {m x : Int} (h : x ∈ l) (hs : smI g x m = false) : x ∈ putL g l m:=by
 cases hp : plcO g l m with
 | none => rw [put_none hp]; simp [h]
 | some k =>
  rw [put_some hp]
  obtain ⟨hk,h1,_⟩:=plc_some hp
  obtain ⟨i,hi,rfl⟩:=List.mem_iff_getElem.1 h
  have hne : k ≠ i:=by rintro rfl; rw [h1] at hs; cases hs
  refine List.mem_iff_getElem.2 ⟨i,by simpa using hi, ?_⟩
  rw [List.getElem_set_ne hne]
theorem fold_stay {g : Img} {x : Int} : ∀ {v l : List Int},x ∈ l → (∀ y ∈ v,smI g x y = false) → x ∈ v.foldl (putL g) l
 | [],l,h,_ => h
 | a :: r,l,h,hs => fold_stay (v:=r) (put_stay h (hs a (by simp))) (fun y hy => hs y (List.mem_cons_of_mem _ hy))
theorem fold_has {g : Img} {x : Int} : ∀ {v l : List Int},x ∈ v → v.Pairwise (fun a b => smI g a b = false) → x ∈ v.foldl (putL g) l
 | a :: r,l,h,hp => by
  rw [List.foldl_cons]
  rw [List.pairwise_cons] at hp
  rcases List.mem_cons.1 h with rfl | h
  ·exact fold_stay put_self hp.1
  ·exact fold_has h hp.2
end Go.Proofs.YthpmpdpfnlecmaaGreat
