/- Texts joined: FitSpec, Ints, Conv, Elems, Cls9, Im10. -/
import Derived.Test.YtapocgcdjkbnhaaDoorQ04
import Derived.Test.YtapocgcdjkbnhaaDoorQ01
import Derived.Test.YtapocgcdjkbnhaaDoorRows
import Derived.Test.YtapocgcdjkbnhaaDoorQ02
import Derived.Deep.RegionLaw
import Derived.Lib.BytesEntry
import Derived.Laws.BytesArg
import Derived.Deep.QuietTactic
import Derived.BigQuiet
import Derived.Test.YtapocgcdjkbnhaaDoorQ03
import Derived.Deep.RegionHeld3
import Derived.Deep.DrawnRows
import Derived.Laws.EntriesVeiled
namespace Go.Proofs.YtapocgcdjkbnhaaDoor
set_option linter.unusedVariables false
set_option linter.unusedSimpArgs false
open Go.RowKit
def objT (t : Ty) : Bool := !t.2.2.2 && (decide (0 < t.2.2.1) || (decide (t.1 = 4) || decide (t.1 = 5) || decide (t.1 = 7) || decide (t.1 = 8)))
def isT (t : Ty) (k : Int) : Bool:=decide (t.1 = k) && decide (t.2.2.1 = 0)
def fitT (g : Img) (a b : Ty) : Bool:=decide (a = b) || (objT a && objT b && (isT a 8 || isT b 4 || (isT a 5 && isT b 5 && belB g a.2.1 b.2.1) || (isT a 7 && isT b 7 && decide (b = (7,0,0,false)))))
def clsT (g : Img) (t : Ty) : Bool:=isT t 5 && decide (kndI g t.2.1 = 0)
def comT (g : Img) (a b : Ty) : Ty:=match (upL g a.2.1).find? (fun u => (upL g b.2.1).contains u) with | some u => (5,u,0,false) | none => (4,0,0,false)
def noM (a b : Ty) : Bool := !decide (a = b) && (!objT a || !objT b)
def mrgT (g : Img) (a b : Ty) : Ty :=
 if fitT g b a = true then a else if fitT g a b = true then b else if (isT a 7 && isT b 7) = true then (7,0,0,false) else if (clsT g a && clsT g b) = true then comT g a b else (4,0,0,false)
def ThrT (g : Img) (t : Ty) : Prop:=t.1 = 5 → numB t.2.1 g.ts.length = true

theorem ty_eq {k i d : Int} {r : Bool} {t : Ty} (h1 : t.1 = k) (h2 : t.2.1 = i) (h3 : t.2.2.1 = d) (h4 : t.2.2.2 = r) : t = (k,i,d,r):=by
 obtain ⟨a,b,c,e⟩:=t
 simp only at h1 h2 h3 h4
 subst h1 h2 h3 h4
 rfl
theorem isT_iff {t : Ty} {k : Int} : isT t k = true ↔ t.1 = k∧t.2.2.1 = 0:=by simp [isT]
theorem obj_ref {t : Ty} (h : objT t = true) : t.2.2.2 = false:=by
 unfold objT at h; rw [Bool.and_eq_true] at h; simpa using h.1
theorem fit_self (g : Img) (a : Ty) : fitT g a a = true:=by simp [fitT]
theorem noM_symm (a b : Ty) : noM a b = noM b a:=by
 unfold noM
 rw [show decide (a = b) = decide (b = a) by rw [decide_eq_decide]; exact eq_comm]
 cases objT a <;> cases objT b <;> rfl
theorem fit_iff {g : Img} {a b : Ty} : fitT g a b = true ↔ a = b ∨ (objT a = true∧objT b = true∧((isT a 8 = true ∨ isT b 4 = true) ∨ (isT a 5 = true∧isT b 5 = true∧belB g a.2.1 b.2.1 = true) ∨ (isT a 7 = true∧isT b 7 = true∧b = (7,0,0,false)))):=by
 simp [fitT,and_assoc,or_assoc]
theorem obj4 : objT (4,0,0,false) = true:=by decide
theorem is44 : isT (4,0,0,false) 4 = true:=by decide
theorem obj7 : objT (7,0,0,false) = true:=by decide
theorem is77 : isT (7,0,0,false) 7 = true:=by decide
theorem obj5 (u : Int) : objT (5,u,0,false) = true:=by simp [objT]
theorem is55 (u : Int) : isT (5,u,0,false) 5 = true:=by simp [isT]
theorem fit_anti {g : Img} (W : Wel g) {a b : Ty} (ha : ThrT g a) (hb : ThrT g b) (h1 : fitT g a b = true) (h2 : fitT g b a = true) : a = b ∨ ((a.1 = 8 ∨ a.1 = 4)∧(b.1 = 8 ∨ b.1 = 4)):=by
 rcases fit_iff.1 h1 with h | ⟨oa,ob,h⟩
 ·exact Or.inl h
 rcases fit_iff.1 h2 with h' | ⟨_,_,h'⟩
 ·exact Or.inl h'.symm
 simp only [isT_iff] at h h'
 rcases h with (⟨a1,a2⟩ | ⟨b1,b2⟩) | ⟨⟨a1,a2⟩,⟨b1,b2⟩,hl⟩ | ⟨⟨a1,a2⟩,⟨b1,b2⟩,he⟩
 ·rcases h' with (⟨c1,c2⟩ | ⟨c1,c2⟩) | ⟨⟨c1,c2⟩,⟨d1,d2⟩,hl'⟩ | ⟨⟨c1,c2⟩,⟨d1,d2⟩,he'⟩ <;> first | omega | exact Or.inr ⟨by omega,by omega⟩
 ·rcases h' with (⟨c1,c2⟩ | ⟨c1,c2⟩) | ⟨⟨c1,c2⟩,⟨d1,d2⟩,hl'⟩ | ⟨⟨c1,c2⟩,⟨d1,d2⟩,he'⟩ <;> first | omega | exact Or.inr ⟨by omega,by omega⟩
 ·rcases h' with (⟨c1,c2⟩ | ⟨c1,c2⟩) | ⟨_,_,hl'⟩ | ⟨⟨c1,c2⟩,⟨d1,d2⟩,he'⟩
  ·omega
  ·omega
  ·have:=bel_anti W (ha a1) (hb b1) hl hl'
   refine Or.inl ?_
   rw [ty_eq b1 rfl b2 (obj_ref ob)]
   exact ty_eq a1 this a2 (obj_ref oa)
  ·omega
 ·rcases h' with (⟨c1,c2⟩ | ⟨c1,c2⟩) | ⟨⟨c1,c2⟩,_,hl'⟩ | ⟨_,_,he'⟩
  ·omega
  ·omega
  ·omega
  ·exact Or.inl (he'.trans he.symm)
theorem fit_trans {g : Img} (W : Wel g) {a b c : Ty} (h1 : fitT g a b = true) (h2 : fitT g b c = true) : fitT g a c = true:=by
 rcases fit_iff.1 h1 with rfl | ⟨oa,ob,h⟩
 ·exact h2
 rcases fit_iff.1 h2 with rfl | ⟨_,oc,h'⟩
 ·exact h1
 refine fit_iff.2 (Or.inr ⟨oa,oc, ?_⟩)
 simp only [isT_iff] at h h' ⊢
 rcases h with (h | ⟨b1,b2⟩) | ⟨⟨a1,a2⟩,⟨b1,b2⟩,hl⟩ | ⟨⟨a1,a2⟩,⟨b1,b2⟩,he⟩
 ·exact Or.inl (Or.inl h)
 ·rcases h' with (⟨c1,c2⟩ | h') | ⟨⟨c1,c2⟩,_⟩ | ⟨⟨c1,c2⟩,_⟩
  ·omega
  ·exact Or.inl (Or.inr h')
  ·omega
  ·omega
 ·rcases h' with (⟨c1,c2⟩ | h') | ⟨_,hc,hl'⟩ | ⟨⟨c1,c2⟩,_⟩
  ·omega
  ·exact Or.inl (Or.inr h')
  ·exact Or.inr (Or.inl ⟨⟨a1,a2⟩,hc,bel_trans W hl hl'⟩)
  ·omega
 ·rcases h' with (⟨c1,c2⟩ | h') | ⟨⟨c1,c2⟩,_⟩ | ⟨_,hc,he'⟩
  ·omega
  ·exact Or.inl (Or.inr h')
  ·omega
  ·exact Or.inr (Or.inr ⟨⟨a1,a2⟩,hc,he'⟩)
theorem mrg_fits {g : Img} {a b : Ty} (h : noM a b = false) : fitT g a (mrgT g a b) = true∧fitT g b (mrgT g a b) = true:=by
 unfold mrgT
 by_cases h1 : fitT g b a = true
 ·rw [if_pos h1]; exact ⟨fit_self g a,h1⟩
 rw [if_neg h1]
 by_cases h2 : fitT g a b = true
 ·rw [if_pos h2]; exact ⟨h2,fit_self g b⟩
 rw [if_neg h2]
 have hne : ¬ a = b:=fun e => h1 (by rw [e]; exact fit_self g b)
 obtain ⟨oa,ob⟩ : objT a = true∧objT b = true:=by
  unfold noM at h
  rw [decide_eq_false hne] at h
  simpa using h
 have h4 : fitT g a (4,0,0,false) = true∧fitT g b (4,0,0,false) = true:=⟨fit_iff.2 (Or.inr ⟨oa,obj4,Or.inl (Or.inr is44)⟩),fit_iff.2 (Or.inr ⟨ob,obj4,Or.inl (Or.inr is44)⟩)⟩
 by_cases h3 : (isT a 7 && isT b 7) = true
 ·rw [if_pos h3]
  rw [Bool.and_eq_true] at h3
  exact ⟨fit_iff.2 (Or.inr ⟨oa,obj7,Or.inr (Or.inr ⟨h3.1,is77,rfl⟩)⟩),fit_iff.2 (Or.inr ⟨ob,obj7,Or.inr (Or.inr ⟨h3.2,is77,rfl⟩)⟩)⟩
 rw [if_neg h3]
 by_cases h5 : (clsT g a && clsT g b) = true
 ·rw [if_pos h5]
  unfold comT
  cases hf : (upL g a.2.1).find? (fun u => (upL g b.2.1).contains u) with
  | none => exact h4
  | some u =>
   have hu:=List.mem_of_find?_eq_some hf
   have hv:=List.find?_some hf
   unfold clsT at h5
   simp only [Bool.and_eq_true] at h5
   exact ⟨fit_iff.2 (Or.inr ⟨oa,obj5 u,Or.inr (Or.inl ⟨h5.1.1,is55 u,bel_iff.2 (Or.inl hu)⟩)⟩),fit_iff.2 (Or.inr ⟨ob,obj5 u,Or.inr (Or.inl ⟨h5.2.1,is55 u,bel_iff.2 (Or.inl (List.contains_iff_mem.1 hv))⟩)⟩)⟩
 ·rw [if_neg h5]; exact h4
theorem fit_up {g : Img} (W : Wel g) {a c : Ty} (ha : a.1 = 5) (hc : c.1 = 5) (tc : numB c.2.1 g.ts.length = true) (hk : kndI g c.2.1 = 0) (h : fitT g a c = true) : c.2.1 ∈ upL g a.2.1:=by
 rcases fit_iff.1 h with rfl | ⟨_,_,h⟩
 ·exact upL_self tc
 simp only [isT_iff] at h
 rcases h with (⟨a1,a2⟩ | ⟨b1,b2⟩) | ⟨_,_,hl⟩ | ⟨⟨a1,a2⟩,_⟩
 ·omega
 ·omega
 ·rcases bel_iff.1 hl with h | h
  ·exact h
  ·have:=fac_kind W h; omega
 ·omega
theorem com_up {g : Img} (W : Wel g) {x c u : Int} {L : List Int} (hx : numB x g.ts.length = true) (hc : c ∈ upL g x) (hL : L.contains c = true) (hf : (upL g x).find? (fun u => L.contains u) = some u) : c ∈ upL g u:=by
 have hu:=List.mem_of_find?_eq_some hf
 obtain ⟨l,hl⟩:=upL_suffix W _ x u hx (Nat.le_refl _) hu
 have hnd:=(upL_nd g x).2
 rw [List.drop_zero] at hnd
 rw [← hl] at hc
 rcases List.mem_append.1 hc with hc | hc
 ·exfalso
  rw [← hl,List.find?_append] at hf
  cases hq : l.find? (fun u => L.contains u) with
  | none => exact absurd hL (by have:=List.find?_eq_none.1 hq c hc; simpa using this)
  | some v =>
   rw [hq] at hf
   have hvu : v = u:=by simpa using hf
   have hv:=List.mem_of_find?_eq_some hq
   rw [← hl] at hnd
   have:=(List.nodup_append.1 hnd).2.2 v hv u (upL_self (up_num hu))
   exact this hvu
 ·exact hc
theorem mrg_least {g : Img} (W : Wel g) {a b c : Ty} (ta : ThrT g a) (tb : ThrT g b) (tc : ThrT g c) (ha : clsT g a = true) (hb : clsT g b = true) (hc : clsT g c = true) (rc : c.2.2.2 = false)
  (h1 : fitT g a c = true) (h2 : fitT g b c = true) : fitT g (mrgT g a b) c = true:=by
 unfold mrgT
 by_cases e1 : fitT g b a = true
 ·rw [if_pos e1]; exact h1
 rw [if_neg e1]
 by_cases e2 : fitT g a b = true
 ·rw [if_pos e2]; exact h2
 rw [if_neg e2]
 have hcl : (clsT g a && clsT g b) = true:=by rw [ha,hb]; rfl
 unfold clsT at ha hb hc
 simp only [Bool.and_eq_true,isT_iff,decide_eq_true_iff] at ha hb hc
 have e3 : ¬ (isT a 7 && isT b 7) = true:=by
  rw [Bool.and_eq_true,isT_iff,isT_iff]
  rintro ⟨⟨h,_⟩,_⟩
  have:=ha.1.1
  omega
 rw [if_neg e3,if_pos hcl]
 have u1:=fit_up W ha.1.1 hc.1.1 (tc hc.1.1) hc.2 h1
 have u2:=fit_up W hb.1.1 hc.1.1 (tc hc.1.1) hc.2 h2
 have oc : objT c = true:=by unfold objT; rw [rc,hc.1.1]; simp
 unfold comT
 cases hf : (upL g a.2.1).find? (fun u => (upL g b.2.1).contains u) with
 | none =>
  have:=List.find?_eq_none.1 hf _ u1
  exact absurd (List.contains_iff_mem.2 u2) this
 | some u =>
  exact fit_iff.2 (Or.inr ⟨obj5 u,oc,Or.inr (Or.inl ⟨is55 u,isT_iff.2 hc.1,bel_iff.2 (Or.inl (com_up W (ta ha.1.1) u1 (List.contains_iff_mem.2 u2) hf))⟩)⟩)
theorem mrg_thr {g : Img} {a b : Ty} (ta : ThrT g a) (tb : ThrT g b) : ThrT g (mrgT g a b):=by
 unfold mrgT
 split
 ·exact ta
 ·split
  ·exact tb
  ·split
   ·intro h; exact absurd h (by decide)
   ·split
    ·unfold comT
     cases hf : (upL g a.2.1).find? (fun u => (upL g b.2.1).contains u) with
     | none => intro h; exact absurd h (by decide)
     | some u => intro _; exact up_num (List.mem_of_find?_eq_some hf)
    ·intro h; exact absurd h (by decide)
theorem fit_not {g : Img} {a : Ty} (h : objT a = false) (b : Ty) : fitT g a b = decide (a = b)∧fitT g b a = decide (a = b):=by
 unfold fitT
 rw [h]
 simp [eq_comm]
def i64s (l : List Int) : List Value:=l.map (Value.int .i64)
theorem i64s_length (l : List Int) : (i64s l).length = l.length:=by simp [i64s]
theorem i64s_one (l : List Int) : ∀ u ∈ i64s l,u.oneCell' = true:=fun u hu => by simp [i64s] at hu; obtain ⟨x,_,rfl⟩:=hu; rfl

def Is (w : World) (v : Value) (l : List Int) : Prop:=Sl w v (i64s l)
end Go.Proofs.YtapocgcdjkbnhaaDoor

namespace Go.Proofs.YtapocgcdjkbnhaaDoor
set_option linter.unusedVariables false
set_option linter.unusedSimpArgs false
open Go.RowKit Go.Maps
theorem toList_eq (s : ByteArray) : s.toList = s.data.toList:=Lib.toList_data s
theorem str_eq (s t : ByteArray) : (s.toList == t.toList) = decide (s.data.toList = t.data.toList):=by
 rw [toList_eq,toList_eq]
 generalize s.data.toList = a
 generalize t.data.toList = b
 by_cases h : a = b <;> simp [h]

theorem one_src0 {P : Program} {tx e' : TypeId} (hk : P.underlying tx = some (.slice e')) (w : World) (x : Value) (e : TypeId) (g : Nat) (hg : g = w.heap.size) (h1 : x.oneCell' = true) : Src P 1 tx (.slice (some ⟨g,0,none⟩) 1 1) 1 [x] (w.alloc (Obj.cells #[x] e)):=by
 subst hg
 exact (Sl.made w [x] #[x] e 1 rfl rfl (by simp [maxLen])).src hk (by intro u hu; simp at hu; subst hu; exact h1)
end Go.Proofs.YtapocgcdjkbnhaaDoor

namespace Go.Proofs.YtapocgcdjkbnhaaDoor
set_option linter.unusedVariables false
set_option linter.unusedSimpArgs false
open Go.RowKit
structure Enc (α : Type) where
 cells : α → List Value
 size : Nat
 pos : 0 < size
 len : ∀ x,(cells x).length = size
 one : ∀ x,∀ u ∈ cells x,u.oneCell' = true

def ecL {α : Type} (E : Enc α) (l : List α) : List Value:=l.flatMap E.cells
theorem ecL_length {α : Type} (E : Enc α) (l : List α) : (ecL E l).length = l.length * E.size:=by
 induction l with
 | nil => simp [ecL]
 | cons x r ih =>
  have h : ecL E (x :: r) = E.cells x ++ ecL E r:=by simp [ecL]
  rw [h,List.length_append,E.len,ih,List.length_cons,Nat.add_mul]; omega
theorem ecL_append {α : Type} (E : Enc α) (a b : List α) : ecL E (a ++ b) = ecL E a ++ ecL E b:=by simp [ecL]
theorem ecL_get {α : Type} (E : Enc α) : ∀ (l : List α) (i : Nat) (h : i < l.length) (j : Nat) (hj : j < E.size),(ecL E l)[i * E.size + j]? = (E.cells l[i])[j]?
 | x :: r,0,_,j,hj => by
  have h : ecL E (x :: r) = E.cells x ++ ecL E r:=by simp [ecL]
  rw [h,Nat.zero_mul,Nat.zero_add,List.getElem?_append_left (by rw [E.len]; exact hj)]
  rfl
 | x :: r,i + 1,h,j,hj => by
  have e : ecL E (x :: r) = E.cells x ++ ecL E r:=by simp [ecL]
  rw [e,List.getElem?_append_right (by rw [E.len,Nat.add_mul]; omega),E.len,show (i + 1) * E.size + j - E.size = i * E.size + j by rw [Nat.add_mul]; omega,ecL_get E r i (by simpa using h) j hj]
  rfl
def Es {α : Type} (E : Enc α) (w : World) (v : Value) (l : List α) : Prop :=
 ∃ a cap,v = .slice a l.length cap∧l.length ≤ cap∧cap ≤ maxLen ∧
  (l ≠ [] → ∃ b off,a = some ⟨b,off,none⟩∧b < w.heap.size∧∀ j u,(ecL E l)[j]? = some u → w.cell? ⟨b,off + j,none⟩ = some u)

theorem Es.nil {α : Type} (E : Enc α) (w : World) : Es E w (.slice none 0 0) []:=⟨none,0,rfl,Nat.le_refl _,Nat.zero_le _,fun h => absurd rfl h⟩
theorem Es.len {α : Type} {E : Enc α} {w : World} {v : Value} {l : List α} (h : Es E w v l) : l.length ≤ maxLen:=by
 obtain ⟨a,cap,_,h1,h2,_⟩:=h; omega
theorem Es.shape {α : Type} {E : Enc α} {w : World} {v : Value} {l : List α} (h : Es E w v l) : ∃ a c,v = .slice a l.length c∧l.length ≤ c∧c ≤ maxLen:=by
 obtain ⟨a,c,h1,h2,h3,_⟩:=h
 exact ⟨a,c,h1,h2,h3⟩
theorem Es.of_block {α : Type} {E : Enc α} {w w' : World} {v : Value} {l : List α} (h : Es E w v l) (hs : w.heap.size ≤ w'.heap.size) (hk : ∀ k,v.ownBlock = some k → k < w.heap.size → w'.heap[k]? = w.heap[k]?) : Es E w' v l:=by
 obtain ⟨a,cap,rfl,h1,h2,h3⟩:=h
 refine ⟨a,cap,rfl,h1,h2,fun hne => ?_⟩
 obtain ⟨b,off,rfl,hb,hc⟩:=h3 hne
 refine ⟨b,off,rfl,by omega,fun j u hj => ?_⟩
 rw [← hc j u hj]
 exact World.cell?_of_block (hk b rfl hb)
theorem Es.below {α : Type} {E : Enc α} {w w' : World} {v : Value} {l : List α} {B : Nat} (h : Es E w v l) (hb : Below B w w') (hk : ∀ k,v.ownBlock = some k → k < B) : Es E w' v l :=
 h.of_block hb.size fun k hv _ => hb.block k (hk k hv)
theorem Es.later {α : Type} {E : Enc α} {w w' : World} {v : Value} {l : List α} (h : Es E w v l) (hb : Below w.heap.size w w') : Es E w' v l :=
 h.of_block hb.size fun k _ hk => hb.block k hk
def El {α : Type} (E : Enc α) (w : World) (b o : Nat) (x : α) : Prop := ∀ j u,(E.cells x)[j]? = some u → w.cell? ⟨b,o + j,none⟩ = some u
theorem El.below {α : Type} {E : Enc α} {w w' : World} {b o B : Nat} {x : α} (h : El E w b o x) (hb : Below B w w') (hB : b < B) : El E w' b o x :=
 fun j u hj => by rw [← h j u hj]; exact hb.cell (p:=⟨b,o + j,none⟩) hB
theorem Es.parts {α : Type} {E : Enc α} {w : World} {v : Value} {l : List α} (h : Es E w v l) (hne : l ≠ []) : ∃ b off cap,v = .slice (some ⟨b,off,none⟩) l.length cap∧l.length ≤ cap∧cap ≤ maxLen∧b < w.heap.size∧∀ i (hi : i < l.length),El E w b (off + i * E.size) l[i]:=by
 obtain ⟨a,cap,rfl,h1,h2,h3⟩:=h
 obtain ⟨b,off,rfl,hb,hc⟩:=h3 hne
 refine ⟨b,off,cap,rfl,h1,h2,hb,fun i hi j u hj => ?_⟩
 have hjs : j < E.size:=by rw [← E.len l[i]]; exact (List.getElem?_eq_some_iff.1 hj).1
 rw [Nat.add_assoc]
 exact hc _ _ (by rw [ecL_get E l i hi j hjs]; exact hj)
theorem Es.of_parts {α : Type} {E : Enc α} {w : World} {b off cap : Nat} {l : List α} (h1 : l.length ≤ cap) (h2 : cap ≤ maxLen) (hb : b < w.heap.size) (h : ∀ i (hi : i < l.length),El E w b (off + i * E.size) l[i]) : Es E w (.slice (some ⟨b,off,none⟩) l.length cap) l:=by
 refine ⟨_,_,rfl,h1,h2,fun _ => ⟨b,off,rfl,hb,fun j u hj => ?_⟩⟩
 have hjl : j < l.length * E.size:=by rw [← ecL_length]; exact (List.getElem?_eq_some_iff.1 hj).1
 have hq : j / E.size < l.length:=by rw [Nat.div_lt_iff_lt_mul E.pos]; exact hjl
 have hr : j % E.size < E.size:=Nat.mod_lt _ E.pos
 have he : j / E.size * E.size + j % E.size = j:=by rw [Nat.mul_comm]; exact Nat.div_add_mod j E.size
 have hg:=ecL_get E l (j / E.size) hq (j % E.size) hr
 rw [he] at hg
 rw [hg] at hj
 have:=h _ hq _ _ hj
 rwa [Nat.add_assoc,he] at this

def OwnE {α : Type} (E : Enc α) (w : World) (base : Nat) (t : TypeId) (v : Value) (l : List α) : Prop:=w.ownsRow base t E.size v l.length (ecL E l)

theorem OwnE.es {α : Type} {E : Enc α} {w : World} {base : Nat} {t : TypeId} {v : Value} {l : List α} (h : OwnE E w base t v l) : Es E w v l:=by
 obtain ⟨h1,h2⟩:=h
 rcases h2 with ⟨rfl,h0⟩ | ⟨g,cap,cur,rfl,hg,hh,hn,hm,hs,ht⟩
 ·have : l = []:=List.eq_nil_of_length_eq_zero h0
  subst this; exact Es.nil E w
 ·refine ⟨_,cap,rfl,hn,hm,fun _ => ⟨g,0,rfl,(Array.getElem?_eq_some_iff.1 hh).1,fun j u hj => ?_⟩⟩
  have hjl : j < l.length * E.size:=by rw [← ecL_length]; exact (List.getElem?_eq_some_iff.1 hj).1
  rw [← ht,List.getElem?_take,if_pos (by omega)] at hj
  simp only [World.cell?,hh,Nat.zero_add]
  simpa using hj
theorem OwnE.block {α : Type} {E : Enc α} {w : World} {base : Nat} {t : TypeId} {v : Value} {l : List α} (h : OwnE E w base t v l) : ∀ k,v.ownBlock = some k → base ≤ k∧k < w.heap.size:=World.ownsRow.lt h
theorem OwnE.of_block {α : Type} {E : Enc α} {w w' : World} {base : Nat} {t : TypeId} {v : Value} {l : List α} (h : OwnE E w base t v l) (hb : ∀ k,v.ownBlock = some k → k < w.heap.size → w'.heap[k]? = w.heap[k]?) : OwnE E w' base t v l:=by
 obtain ⟨h1,h2⟩:=h
 refine ⟨h1, ?_⟩
 rcases h2 with h2 | ⟨g,cap,cur,rfl,hg,hh,r⟩
 ·exact Or.inl h2
 ·exact Or.inr ⟨g,cap,cur,rfl,hg,by rw [hb g rfl (Array.getElem?_eq_some_iff.1 hh).1]; exact hh,r⟩
theorem OwnE.later {α : Type} {E : Enc α} {w w' : World} {base : Nat} {t : TypeId} {v : Value} {l : List α} (h : OwnE E w base t v l) (hb : Below w.heap.size w w') : OwnE E w' base t v l :=
 h.of_block fun k _ hk => hb.block k hk
theorem OwnE.mono {α : Type} {E : Enc α} {w : World} {base base' : Nat} {t : TypeId} {v : Value} {l : List α} (h : OwnE E w base t v l) (hb : base' ≤ base) : OwnE E w base' t v l:=by
 obtain ⟨h1,h2⟩:=h
 refine ⟨h1, ?_⟩
 rcases h2 with h2 | ⟨g,cap,cur,rfl,hg,r⟩
 ·exact Or.inl h2
 ·exact Or.inr ⟨g,cap,cur,rfl,Nat.le_trans hb hg,r⟩
theorem OwnE.nil {α : Type} (E : Enc α) (w : World) (base : Nat) (t : TypeId) : OwnE E w base t (.slice none 0 0) []:=World.ownsRow_nil w base t E.size
theorem OwnE.typed {α : Type} {E : Enc α} {w : World} {base : Nat} {t : TypeId} {v : Value} {l : List α} (h : OwnE E w base t v l) : ∀ k,v.ownBlock = some k → ∃ C,At w k C t:=by
 intro k hk
 rcases h.2 with ⟨rfl,_⟩ | ⟨g,cap,cur,rfl,hg,hh,r⟩
 ·simp [Value.ownBlock] at hk
 ·simp [Value.ownBlock] at hk; subst hk; exact ⟨cur,hh⟩
theorem OwnE.lit {α : Type} (E : Enc α) (w : World) (base : Nat) (t : TypeId) (l : List α) (C : Array Value) (n : Nat) (hb : base ≤ w.heap.size) (hC : C = (ecL E l).toArray) (hn : n = l.length) (hm : l.length ≤ maxLen) :
  OwnE E (w.alloc (.cells C t)) base t (.slice (some ⟨w.heap.size,0,none⟩) n n) l:=by
 subst hC hn
 have:=World.ownsRow_lit (base:=base) (e:=t) (size:=E.size) w (ecL E l).toArray l.length hb hm (by simp [ecL_length])
 unfold OwnE
 simpa using this
theorem OwnE.ne {α : Type} {E : Enc α} {w : World} {base g : Nat} {t s : TypeId} {v : Value} {l : List α} {C : Array Value} (ho : OwnE E w base t v l) (h : At w g C s) (ht : s ≠ t) : v.ownBlock ≠ some g:=by
 intro e
 obtain ⟨C',hC⟩:=ho.typed g e
 unfold At at h hC
 rw [h] at hC
 simp only [Option.some.injEq,Obj.cells.injEq] at hC
 exact ht hC.2.1
theorem At.grownE {α : Type} {E : Enc α} {w w' : World} {g base : Nat} {C : Array Value} {t s : TypeId} {v : Value} {l : List α} (h : At w g C s) (ho : OwnE E w base t v l) (ht : s ≠ t) (hg : w.grownBy w' v.ownBlock) : At w' g C s:=by
 have hl:=h.lt
 have hne:=ho.ne h ht
 unfold At at h ⊢
 rw [hg.block g hl (fun e => hne e.symm)]; exact h
theorem ecL_take {α : Type} (E : Enc α) (l : List α) (n : Nat) : ∀ (j : Nat) (u : Value),(ecL E (l.take n))[j]? = some u → (ecL E l)[j]? = some u:=by
 intro j u hj
 have h : ecL E l = ecL E (l.take n) ++ ecL E (l.drop n):=by rw [← ecL_append,List.take_append_drop]
 rw [h,List.getElem?_append_left (List.getElem?_eq_some_iff.1 hj).1]
 exact hj
theorem slice_toE {α : Type} {E : Enc α} {P : Program} {w : World} {a : Option Addr} {cap : Nat} {l : List α} (hv : Es E w (.slice a l.length cap) l) (n : Nat) (h : n ≤ l.length) (ts t : TypeId) (ht : P.underlying ts = some (.slice t)) (hs : (P.info? t).map (·.size) = some E.size) :
  (∀ (W : World) (k : IntKind),(Instr.slice ts (.slice a l.length cap) none (some (.int k (n : Int))) none).run P W = .ok (.slice a n cap) W)∧Es E w (.slice a n cap) (l.take n):=by
 obtain ⟨a0,c0,he,h1,h2,h3⟩:=hv
 simp only [Value.slice.injEq] at he
 obtain ⟨rfl,_,rfl⟩:=he
 have hl : (l.take n).length = n:=by rw [List.length_take,Nat.min_eq_left h]
 refine ⟨fun W k => ?_,⟨a,cap,by rw [hl],by omega,h2,fun hne => ?_⟩⟩
 ·cases hq : P.info? t with
  | none => simp [hq] at hs
  | some i =>
   have hi : i.size = E.size:=by simpa [hq] using hs
   have b1 : (Instr.sliceBound (.int k (n : Int)) cap .sliceAcap).run P W = .ok n W:=by rw [run_sliceBound _ _ _ _ _ (by omega) (by omega)]; simp
   have b2 : (Instr.sliceBound (.int .i64 0) n .sliceB).run P W = .ok 0 W:=by rw [run_sliceBound _ _ _ _ _ (by omega) (by omega)]; simp
   have hadd : ∀ x : Addr,x.add 0 = x:=fun x => by unfold Addr.add; cases x with | mk b o d => split <;> simp_all
   have hmap : Option.map (fun x : Addr => x.add 0) a = a:=by cases a <;> simp [hadd]
   simp [Instr.slice,run_underlying ht,Instr.sliceBounds,b1,b2,sizeOf,typeInfo,hq,hi,hmap]
 ·have hne' : l ≠ []:=by intro e; subst e; simp at hne
  obtain ⟨b,off,rfl,hb,hc⟩:=h3 hne'
  exact ⟨b,off,rfl,hb,fun j u hj => hc j u (ecL_take E l n j u hj)⟩
end Go.Proofs.YtapocgcdjkbnhaaDoor

namespace Go.Proofs.YtapocgcdjkbnhaaDoor
set_option linter.unusedVariables false
set_option linter.unusedSimpArgs false
open Go.RowKit
attribute [local go_sem ↓] Go.wp_at_zero Go.wp_at_succ
def clC (c : Cl) : List Value := [.int .i64 c.k,.int .i64 c.tf,.int .i64 c.tt,.int .i64 c.hf,.int .i64 c.ht,.int .i64 c.fi,.int .i64 c.t0,.int .i64 c.t1,.int .i64 c.t2,.bool c.t3]
def clE9 : Enc Cl:=⟨clC,10,by decide,fun _ => rfl,fun x u hu => by
 simp only [clC,List.mem_cons,List.not_mem_nil,or_false] at hu
 rcases hu with rfl | rfl | rfl | rfl | rfl | rfl | rfl | rfl | rfl | rfl <;> rfl⟩
def clV (c : Cl) : Value := .agg #[.int .i64 c.k,.int .i64 c.tf,.int .i64 c.tt,.int .i64 c.hf,.int .i64 c.ht,.int .i64 c.fi,.int .i64 c.t0,.int .i64 c.t1,.int .i64 c.t2,.bool c.t3]
def Ten (w : World) (b o : Nat) (c : Cl) : Prop:=w.cell? ⟨b,o,none⟩ = some (.int .i64 c.k)∧w.cell? ⟨b,o + 1,none⟩ = some (.int .i64 c.tf)∧w.cell? ⟨b,o + 2,none⟩ = some (.int .i64 c.tt)∧w.cell? ⟨b,o + 3,none⟩ = some (.int .i64 c.hf) ∧
 w.cell? ⟨b,o + 4,none⟩ = some (.int .i64 c.ht)∧w.cell? ⟨b,o + 5,none⟩ = some (.int .i64 c.fi)∧w.cell? ⟨b,o + 6,none⟩ = some (.int .i64 c.t0)∧w.cell? ⟨b,o + 7,none⟩ = some (.int .i64 c.t1)∧w.cell? ⟨b,o + 8,none⟩ = some (.int .i64 c.t2)∧w.cell? ⟨b,o + 9,none⟩ = some (.bool c.t3)
theorem El.ten {w : World} {b o : Nat} {c : Cl} (h : El clE9 w b o c) : Ten w b o c :=
 ⟨h 0 _ rfl,h 1 _ rfl,h 2 _ rfl,h 3 _ rfl,h 4 _ rfl,h 5 _ rfl,h 6 _ rfl,h 7 _ rfl,h 8 _ rfl,h 9 _ rfl⟩
theorem bstep {w w1 w2 : World} (h : Below w.heap.size w w1) (h2 : Below w1.heap.size w1 w2) : Below w.heap.size w w2:=h.trans (h2.mono h.size)
theorem bdrew (w : World) : Below w.heap.size w w.drew:=Below.drewN (Below.refl w.heap.size w) 1
theorem bbox {w w1 : World} (h : Below w.heap.size w w1) (o : Obj) : Below w.heap.size w (w1.alloc o):=h.alloc h.size o

theorem At.ten {w : World} {g : Nat} {c : Cl} (h : At w g (clC c).toArray 84) : Ten w g 0 c :=
 ⟨h.cell 0,h.cell 1,h.cell 2,h.cell 3,h.cell 4,h.cell 5,h.cell 6,h.cell 7,h.cell 8,h.cell 9⟩
end Go.Proofs.YtapocgcdjkbnhaaDoor

namespace Go.Proofs.YtapocgcdjkbnhaaDoor
set_option linter.unusedVariables false
set_option linter.unusedSimpArgs false
open Go.RowKit
def tyC (x : Ty) : List Value := [.int .i64 x.1,.int .i64 x.2.1,.int .i64 x.2.2.1,.bool x.2.2.2]
def tyE : Enc Ty:=⟨tyC,4,by decide,fun _ => rfl,fun x u hu => by
 simp only [tyC,List.mem_cons,List.not_mem_nil,or_false] at hu
 rcases hu with rfl | rfl | rfl | rfl <;> rfl⟩
def insC (x : Ins) : List Value := [.int .i64 x.1,.int .i64 x.2.1,.int .i64 x.2.2.1,.int .i64 x.2.2.2.1,.int .i64 x.2.2.2.2.1,.bool x.2.2.2.2.2]
def insE : Enc Ins:=⟨insC,6,by decide,fun _ => rfl,fun x u hu => by
 simp only [insC,List.mem_cons,List.not_mem_nil,or_false] at hu
 rcases hu with rfl | rfl | rfl | rfl | rfl | rfl <;> rfl⟩
def intC (x : Int) : List Value := [.int .i64 x]
def intE : Enc Int:=⟨intC,1,by decide,fun _ => rfl,fun x u hu => by
 simp only [intC,List.mem_cons,List.not_mem_nil,or_false] at hu
 rcases hu with rfl <;> rfl⟩
def tdC (x : TD) : List Value := [.string x.nm,.int .i64 x.fl,.int .i64 x.ex,.slice x.fa x.fs.length x.fc]
def tdE : Enc TD:=⟨tdC,4,by decide,fun _ => rfl,fun x u hu => by
 simp only [tdC,List.mem_cons,List.not_mem_nil,or_false] at hu
 rcases hu with rfl | rfl | rfl | rfl <;> rfl⟩
def tdV (x : TD) : Value := .agg #[.string x.nm,.int .i64 x.fl,.int .i64 x.ex,.slice x.fa x.fs.length x.fc]
def fdC (x : FD) : List Value := [.string x.nm,.int .i64 x.ow,.int .i64 x.t.1,.int .i64 x.t.2.1,.int .i64 x.t.2.2.1,.bool x.t.2.2.2,.bool x.st]
def fdE : Enc FD:=⟨fdC,7,by decide,fun _ => rfl,fun x u hu => by
 simp only [fdC,List.mem_cons,List.not_mem_nil,or_false] at hu
 rcases hu with rfl | rfl | rfl | rfl | rfl | rfl | rfl <;> rfl⟩
def mdC (x : MD) : List Value := [.string x.nm,.int .i64 x.ow,.int .i64 x.fl,.slice x.pa x.ps.length x.pc,.int .i64 x.rt.1,.int .i64 x.rt.2.1,.int .i64 x.rt.2.2.1,.bool x.rt.2.2.2,.slice x.la x.ls.length x.lc,.int .i64 x.mx,.slice x.ca x.co.length x.cc,.slice x.ka x.cl.length x.kc]
def mdE : Enc MD:=⟨mdC,12,by decide,fun _ => rfl,fun x u hu => by
 simp only [mdC,List.mem_cons,List.not_mem_nil,or_false] at hu
 rcases hu with rfl | rfl | rfl | rfl | rfl | rfl | rfl | rfl | rfl | rfl | rfl | rfl <;> rfl⟩
def mdV (x : MD) : Value := .agg #[.string x.nm,.int .i64 x.ow,.int .i64 x.fl,.slice x.pa x.ps.length x.pc,.int .i64 x.rt.1,.int .i64 x.rt.2.1,.int .i64 x.rt.2.2.1,.bool x.rt.2.2.2,.slice x.la x.ls.length x.lc,.int .i64 x.mx,.slice x.ca x.co.length x.cc,.slice x.ka x.cl.length x.kc]

theorem El.cells_Y {w : World} {b o : Nat} {x : Ty} (h : El tyE w b o x) : w.cell? ⟨b,o,none⟩ = some (.int .i64 x.1)∧w.cell? ⟨b,o + 1,none⟩ = some (.int .i64 x.2.1)∧w.cell? ⟨b,o + 2,none⟩ = some (.int .i64 x.2.2.1)∧w.cell? ⟨b,o + 3,none⟩ = some (.bool x.2.2.2) :=
 ⟨h 0 _ rfl,h 1 _ rfl,h 2 _ rfl,h 3 _ rfl⟩
theorem El.cells_I {w : World} {b o : Nat} {x : Ins} (h : El insE w b o x) : w.cell? ⟨b,o,none⟩ = some (.int .i64 x.1)∧w.cell? ⟨b,o + 1,none⟩ = some (.int .i64 x.2.1)∧w.cell? ⟨b,o + 2,none⟩ = some (.int .i64 x.2.2.1)∧w.cell? ⟨b,o + 3,none⟩ = some (.int .i64 x.2.2.2.1)∧w.cell? ⟨b,o + 4,none⟩ = some (.int .i64 x.2.2.2.2.1)∧w.cell? ⟨b,o + 5,none⟩ = some (.bool x.2.2.2.2.2) :=
 ⟨h 0 _ rfl,h 1 _ rfl,h 2 _ rfl,h 3 _ rfl,h 4 _ rfl,h 5 _ rfl⟩
theorem El.cells_N {w : World} {b o q : Nat} {x : Int} (h : El intE w b (o + q * 1) x) : w.cell? ⟨b,o + q,none⟩ = some (.int .i64 x):=by
 have:=h 0 _ rfl
 simpa using this
theorem El.cells_T {w : World} {b o : Nat} {x : TD} (h : El tdE w b o x) : w.cell? ⟨b,o,none⟩ = some (.string x.nm)∧w.cell? ⟨b,o + 1,none⟩ = some (.int .i64 x.fl)∧w.cell? ⟨b,o + 2,none⟩ = some (.int .i64 x.ex)∧w.cell? ⟨b,o + 3,none⟩ = some (.slice x.fa x.fs.length x.fc) :=
 ⟨h 0 _ rfl,h 1 _ rfl,h 2 _ rfl,h 3 _ rfl⟩
theorem El.cells_F {w : World} {b o : Nat} {x : FD} (h : El fdE w b o x) : w.cell? ⟨b,o,none⟩ = some (.string x.nm)∧w.cell? ⟨b,o + 1,none⟩ = some (.int .i64 x.ow)∧w.cell? ⟨b,o + 2,none⟩ = some (.int .i64 x.t.1)∧w.cell? ⟨b,o + 3,none⟩ = some (.int .i64 x.t.2.1)∧w.cell? ⟨b,o + 4,none⟩ = some (.int .i64 x.t.2.2.1)∧w.cell? ⟨b,o + 5,none⟩ = some (.bool x.t.2.2.2)∧w.cell? ⟨b,o + 6,none⟩ = some (.bool x.st) :=
 ⟨h 0 _ rfl,h 1 _ rfl,h 2 _ rfl,h 3 _ rfl,h 4 _ rfl,h 5 _ rfl,h 6 _ rfl⟩
theorem El.cells_M {w : World} {b o : Nat} {x : MD} (h : El mdE w b o x) : w.cell? ⟨b,o,none⟩ = some (.string x.nm)∧w.cell? ⟨b,o + 1,none⟩ = some (.int .i64 x.ow)∧w.cell? ⟨b,o + 2,none⟩ = some (.int .i64 x.fl)∧w.cell? ⟨b,o + 3,none⟩ = some (.slice x.pa x.ps.length x.pc) ∧
  w.cell? ⟨b,o + 4,none⟩ = some (.int .i64 x.rt.1)∧w.cell? ⟨b,o + 5,none⟩ = some (.int .i64 x.rt.2.1)∧w.cell? ⟨b,o + 6,none⟩ = some (.int .i64 x.rt.2.2.1)∧w.cell? ⟨b,o + 7,none⟩ = some (.bool x.rt.2.2.2) ∧
  w.cell? ⟨b,o + 8,none⟩ = some (.slice x.la x.ls.length x.lc)∧w.cell? ⟨b,o + 9,none⟩ = some (.int .i64 x.mx)∧w.cell? ⟨b,o + 10,none⟩ = some (.slice x.ca x.co.length x.cc)∧w.cell? ⟨b,o + 11,none⟩ = some (.slice x.ka x.cl.length x.kc) :=
 ⟨h 0 _ rfl,h 1 _ rfl,h 2 _ rfl,h 3 _ rfl,h 4 _ rfl,h 5 _ rfl,h 6 _ rfl,h 7 _ rfl,h 8 _ rfl,h 9 _ rfl,h 10 _ rfl,h 11 _ rfl⟩

def TD.ok (w : World) (x : TD) : Prop:=Es intE w (.slice x.fa x.fs.length x.fc) x.fs
structure MD.ok (w : World) (x : MD) : Prop where
 ps : Es tyE w (.slice x.pa x.ps.length x.pc) x.ps
 ls : Es tyE w (.slice x.la x.ls.length x.lc) x.ls
 co : Es insE w (.slice x.ca x.co.length x.cc) x.co
 cl : Es clE9 w (.slice x.ka x.cl.length x.kc) x.cl
theorem TD.ok.later {w w' : World} {x : TD} (h : x.ok w) (hb : Below w.heap.size w w') : x.ok w':=Es.later h hb
theorem MD.ok.later {w w' : World} {x : MD} (h : x.ok w) (hb : Below w.heap.size w w') : x.ok w':=⟨h.ps.later hb,h.ls.later hb,h.co.later hb,h.cl.later hb⟩

structure Im (w : World) (g : Img) : Prop where
 ts : Es tdE w (.slice g.ta g.ts.length g.tc) g.ts
 tok : ∀ x ∈ g.ts,x.ok w
 fs : Es fdE w (.slice g.fa g.fs.length g.fc) g.fs
 ms : Es mdE w (.slice g.ma g.ms.length g.mc) g.ms
 mok : ∀ x ∈ g.ms,x.ok w
def imV (g : Img) : Value := .agg #[.slice g.ta g.ts.length g.tc,.slice g.fa g.fs.length g.fc,.slice g.ma g.ms.length g.mc,.int .i64 g.en]
theorem Im.later {w w' : World} {g : Img} (h : Im w g) (hb : Below w.heap.size w w') : Im w' g :=
 ⟨h.ts.later hb,fun x hx => (h.tok x hx).later hb,h.fs.later hb,h.ms.later hb,fun x hx => (h.mok x hx).later hb⟩

structure Img.nmOk (g : Img) : Prop where
 ts : ∀ x ∈ g.ts,x.nm.size ≤ maxLen
 fs : ∀ x ∈ g.fs,x.nm.size ≤ maxLen
 ms : ∀ x ∈ g.ms,x.nm.size ≤ maxLen

theorem ecL_int (l : List Int) : ecL intE l = i64s l:=by
 induction l with
 | nil => rfl
 | cons x r ih =>
  have h : ecL intE (x :: r) = intC x ++ ecL intE r:=by simp [ecL,intE]
  rw [h,ih]; simp [i64s,intC]
theorem Es.toIs {w : World} {v : Value} {l : List Int} (h : Es intE w v l) : Is w v l:=by
 obtain ⟨a,cap,rfl,h1,h2,h3⟩:=h
 refine ⟨a,cap,by rw [i64s_length],by rw [i64s_length]; exact h1,h2,fun hne => ?_⟩
 obtain ⟨b,off,rfl,hb,hc⟩:=h3 (by intro e; subst e; exact hne rfl)
 refine ⟨b,off,rfl,hb,fun i hi => hc i _ ?_⟩
 rw [ecL_int]
 exact List.getElem?_eq_getElem hi
theorem Is.toEs {w : World} {v : Value} {l : List Int} (h : Is w v l) : Es intE w v l:=by
 obtain ⟨a,cap,rfl,h1,h2,h3⟩:=h
 rw [i64s_length] at h1
 refine ⟨a,cap,by rw [i64s_length],h1,h2,fun hne => ?_⟩
 obtain ⟨b,off,rfl,hb,hc⟩:=h3 (by intro e; apply hne; simpa [i64s] using e)
 refine ⟨b,off,rfl,hb,fun j u hj => ?_⟩
 rw [ecL_int] at hj
 obtain ⟨hlt,he⟩:=List.getElem?_eq_some_iff.1 hj
 rw [hc j hlt,he]
end Go.Proofs.YtapocgcdjkbnhaaDoor
