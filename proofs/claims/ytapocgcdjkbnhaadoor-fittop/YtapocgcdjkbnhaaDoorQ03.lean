/- Texts joined: RegSpec, ImSpec. -/
import Derived.Test.YtapocgcdjkbnhaaDoorQ01
import Derived.Test.YtapocgcdjkbnhaaDoorQ02
namespace Go.Proofs.YtapocgcdjkbnhaaDoor
set_option linter.unusedVariables false
set_option linter.unusedSimpArgs false
structure Cl where
 k : Int
 tf : Int
 tt : Int
 hf : Int
 ht : Int
 fi : Int
 t0 : Int
 t1 : Int
 t2 : Int
 t3 : Bool

abbrev Sp:=Int × Int
def triS (c : Cl) : Sp:=(c.tf,c.tt)
def hanS (c : Cl) : Sp:=(c.hf,c.ht)
def filS (c : Cl) : Sp:=(c.fi,c.hf)
def spansL (c : Cl) : List Sp:=if c.k = 2 then [triS c,hanS c,filS c] else [triS c,hanS c]
def partB (s o : Sp) : Bool:=decide (s.1 < s.2) && decide (o.1 ≤ s.1) && decide (s.2 ≤ o.2)
def shrB (s o : Sp) : Bool:=decide (max s.1 o.1 < min s.2 o.2)
def rngB (n : Int) (c : Cl) : Bool :=
 decide (1 ≤ c.k) && decide (c.k ≤ 4) && partB (triS c) (0,n) && partB (hanS c) (0,n) && (if c.k = 2 then partB (filS c) (0,n) else decide (c.fi = -1))
def ovlAt (l : List Sp) (i : Nat) : Bool:=(l.take i).any (shrB (l.getD i (0,0)))
def ovlB (l : List Sp) : Bool:=(List.range l.length).any (ovlAt l)
def meetB (a b : List Sp) : Bool:=a.any fun s => b.any (shrB s)
def inB9 (a : List Sp) (o : Sp) : Bool:=a.all fun s => partB s o && !decide (s = o)
def fitB9 (a b : List Sp) : Bool :=
 if meetB a b = true then (if a.headD (0,0) = b.headD (0,0) then !meetB a.tail b.tail else b.any (inB9 a)) else true
def clE (n : Int) (pre : List Cl) (c : Cl) : Int :=
 if rngB n c = true then (if ovlB (spansL c) = true then 12 else if (pre.any fun x => !fitB9 (spansL x) (spansL c)) = true then 12 else 0) else 3
def clAt (n : Int) (l : List Cl) (i : Nat) : Int:=match l[i]? with
 | some c => clE n (l.take i) c
 | none => 0
theorem clAt_eq (n : Int) (l : List Cl) (i : Nat) (h : i < l.length) : clAt n l i = clE n (l.take i) l[i]:=by
 simp [clAt,List.getElem?_eq_getElem h]

def FirstR (f : Nat → Int) (m : Nat) (i e : Int) : Prop:=(i = 0∧e = 0∧∀ k,k < m → f k = 0) ∨ (∃ q,q < m∧i = (q : Int)∧e = f q∧f q ≠ 0∧∀ k,k < q → f k = 0)
def bnd (c : Cl) (p : Int) : Sp:=if p = 1 then (c.tf,c.tt) else if p = 2 then (c.hf,c.ht) else if c.k = 2 then (c.fi,c.hf) else (0,0)
def rmeetB (a : Cl) (p : Int) (b : Cl) (q : Int) : Bool :=
 decide ((bnd a p).1 < (bnd b q).2) && decide ((bnd b q).1 < (bnd a p).2) && decide ((bnd a p).1 < (bnd a p).2) && decide ((bnd b q).1 < (bnd b q).2)
def rwithinB (a : Cl) (p : Int) (b : Cl) (q : Int) : Bool :=
 if (bnd a p).1 = 0∧(bnd a p).2 = 0 then true
 else decide ((bnd b q).1 ≤ (bnd a p).1) && decide ((bnd a p).2 ≤ (bnd b q).2) && (decide ((bnd b q).1 < (bnd a p).1) || decide ((bnd a p).2 < (bnd b q).2))
def raloneI (n : Int) (c : Cl) : Int :=
 if c.k < 1 ∨ 4 < c.k ∨ ¬ (0 ≤ c.tf∧c.tf < c.tt∧c.tt ≤ n) ∨ ¬ (0 ≤ c.hf∧c.hf < c.ht∧c.ht ≤ n) then 3
 else if (c.k = 2∧(c.fi < 0 ∨ c.hf ≤ c.fi)) ∨ (c.k ≠ 2∧c.fi ≠ -1) then 3
 else if (rmeetB c 1 c 2 || rmeetB c 1 c 3 || rmeetB c 2 c 3) = true then 12 else 0
def rholdB (a b : Cl) (q : Int) : Bool:=decide ((bnd b q).1 < (bnd b q).2) && rwithinB a 1 b q && rwithinB a 2 b q && rwithinB a 3 b q
def rsameB (a b : Cl) : Bool:=decide (a.tf = b.tf) && decide (a.tt = b.tt)
def rbadB (a b : Cl) (p q : Int) : Bool:=rmeetB a p b q && !(rsameB a b && decide (p = 1) && decide (q = 1))
def rbadsB (a b : Cl) (p : Int) : Bool:=rbadB a b p 1 || rbadB a b p 2 || rbadB a b p 3
def rfitB (a b : Cl) : Bool:=if (rholdB a b 1 || rholdB a b 2 || rholdB a b 3) = true then true else !(rbadsB a b 1 || rbadsB a b 2 || rbadsB a b 3)
def rclE (n : Int) (pre : List Cl) (c : Cl) : Int :=
 if raloneI n c = 0 then (if (pre.any fun x => !rfitB x c) = true then 12 else 0) else raloneI n c
def rclAt (n : Int) (l : List Cl) (i : Nat) : Int:=match l[i]? with
 | some c => rclE n (l.take i) c
 | none => 0
theorem rclAt_eq (n : Int) (l : List Cl) (i : Nat) (h : i < l.length) : rclAt n l i = rclE n (l.take i) l[i]:=by
 simp [rclAt,List.getElem?_eq_getElem h]
def RCheckR (n : Int) (l : List Cl) (i e : Int) : Prop:=if 6 < l.length then i = 0∧e = 4 else FirstR (rclAt n l) l.length i e

theorem shr_iff (s o : Sp) : shrB s o = true ↔ s.1 < s.2∧s.1 < o.2∧o.1 < s.2∧o.1 < o.2:=by
 simp only [shrB,decide_eq_true_eq,Int.max_lt,Int.lt_min]
 constructor
 ·rintro ⟨⟨a,b⟩,c,d⟩; exact ⟨a,c,b,d⟩
 ·rintro ⟨a,c,b,d⟩; exact ⟨⟨a,b⟩,c,d⟩
theorem part_iff (s o : Sp) : partB s o = true ↔ s.1 < s.2∧o.1 ≤ s.1∧s.2 ≤ o.2:=by
 simp only [partB,Bool.and_eq_true,decide_eq_true_eq,and_assoc]
theorem rng_iff (n : Int) (c : Cl) : rngB n c = true ↔ 1 ≤ c.k∧c.k ≤ 4∧c.tf < c.tt∧0 ≤ c.tf∧c.tt ≤ n∧c.hf < c.ht∧0 ≤ c.hf∧c.ht ≤ n∧(c.k = 2 → c.fi < c.hf∧0 ≤ c.fi∧c.hf ≤ n)∧(c.k ≠ 2 → c.fi = -1):=by
 obtain ⟨k,tf,tt,hf,ht,fi,t0,t1,t2,t3⟩:=c
 by_cases hk : k = 2
 ·simp only [rngB,Bool.and_eq_true,decide_eq_true_eq,part_iff,triS,hanS,filS,hk,if_true,true_implies,ne_eq,not_true_eq_false,false_implies,and_true,and_assoc]
 ·simp only [rngB,Bool.and_eq_true,decide_eq_true_eq,part_iff,triS,hanS,filS,hk,if_false,false_implies,ne_eq,not_false_eq_true,true_implies,true_and,and_assoc]
theorem ovl_two (a b : Sp) : ovlB [a,b] = shrB b a:=by
 simp [ovlB,ovlAt,List.range,List.range.loop]
theorem ovl_three (a b c : Sp) : ovlB [a,b,c] = (shrB b a || (shrB c a || shrB c b)):=by
 simp [ovlB,ovlAt,List.range,List.range.loop]
theorem ovl_iff (c : Cl) : ovlB (spansL c) = true ↔ shrB (hanS c) (triS c) = true ∨ (c.k = 2∧(shrB (filS c) (triS c) = true ∨ shrB (filS c) (hanS c) = true)):=by
 by_cases hk : c.k = 2
 ·simp only [spansL,hk,if_true,ovl_three,Bool.or_eq_true,true_and]
 ·simp only [spansL,hk,if_false,ovl_two,false_and,or_false]
theorem rmeet_iff (a : Cl) (p : Int) (b : Cl) (q : Int) : rmeetB a p b q = shrB (bnd a p) (bnd b q):=by
 rw [Bool.eq_iff_iff,shr_iff]
 simp only [rmeetB,Bool.and_eq_true,decide_eq_true_eq]
 constructor
 ·rintro ⟨⟨⟨a,b⟩,c⟩,d⟩; exact ⟨c,a,b,d⟩
 ·rintro ⟨c,a,b,d⟩; exact ⟨⟨⟨a,b⟩,c⟩,d⟩
theorem bnd1 (c : Cl) : bnd c 1 = triS c:=rfl
theorem bnd2 (c : Cl) : bnd c 2 = hanS c:=rfl
theorem bnd3 (c : Cl) : bnd c 3 = if c.k = 2 then filS c else (0,0):=rfl

theorem alone_eq (n : Int) (c : Cl) : raloneI n c = (if rngB n c = true then (if ovlB (spansL c) = true then 12 else 0) else 3):=by
 have h1:=rng_iff n c
 have h2:=ovl_iff c
 have h3 : (rmeetB c 1 c 2 || rmeetB c 1 c 3 || rmeetB c 2 c 3) = true ↔ ovlB (spansL c) = true:=by
  rw [h2]
  simp only [Bool.or_eq_true,rmeet_iff,bnd1,bnd2,bnd3]
  by_cases hk : c.k = 2
  ·simp only [hk,if_true,true_and,shr_iff]; constructor <;> (intro h; omega)
  ·simp only [hk,if_false,false_and,or_false,shr_iff]; constructor <;> (intro h; omega)
 unfold raloneI
 by_cases hr : rngB n c = true
 ·have hr':=h1.1 hr
  rw [if_neg (by omega),if_neg (by omega),if_pos hr]
  by_cases ho : ovlB (spansL c) = true
  ·rw [if_pos (h3.2 ho),if_pos ho]
  ·rw [if_neg (fun h => ho (h3.1 h)),if_neg ho]
 ·have hr':=fun h => hr (h1.2 h)
  rw [if_neg hr]
  split
  ·rfl
  ·rw [if_pos (Classical.byContradiction fun hB => hr' ⟨by omega,by omega,by omega,by omega,by omega,by omega,by omega,by omega,fun hk => by omega,fun hk => by omega⟩)]

theorem fit_eq (n : Int) (a b : Cl) (ha : rngB n a = true) (hb : rngB n b = true) (oa : ovlB (spansL a) = false) (ob : ovlB (spansL b) = false) : rfitB a b = fitB9 (spansL a) (spansL b):=by
 rw [rng_iff] at ha hb
 have oa' : ¬ ovlB (spansL a) = true:=by rw [oa]; decide
 have ob' : ¬ ovlB (spansL b) = true:=by rw [ob]; decide
 rw [ovl_iff] at oa' ob'
 have hmeet : (meetB (spansL a) (spansL b) = true) ↔ (rmeetB a 1 b 1 || rmeetB a 1 b 2 || rmeetB a 1 b 3 || rmeetB a 2 b 1 || rmeetB a 2 b 2 || rmeetB a 2 b 3 || rmeetB a 3 b 1 || rmeetB a 3 b 2 || rmeetB a 3 b 3) = true:=by
  have z : ∀ s : Sp,shrB (0,0) s = false∧shrB s (0,0) = false:=fun s => ⟨by rw [Bool.eq_false_iff,ne_eq,shr_iff]; omega,by rw [Bool.eq_false_iff,ne_eq,shr_iff]; omega⟩
  by_cases h1 : a.k = 2 <;> by_cases h2 : b.k = 2 <;> simp [spansL,h1,h2,meetB,rmeet_iff,bnd1,bnd2,bnd3,z,or_assoc]
 have hcell : ∀ (s o : Sp),(partB s o && !decide (s = o)) = true ↔ s.1 < s.2∧o.1 ≤ s.1∧s.2 ≤ o.2∧(o.1 < s.1 ∨ s.2 < o.2):=by
  intro s o
  obtain ⟨s1,s2⟩:=s
  obtain ⟨o1,o2⟩:=o
  simp only [Bool.and_eq_true,part_iff,Bool.not_eq_true',decide_eq_false_iff_not,Prod.mk.injEq]
  omega
 have hhold : ∀ q : Int,(rholdB a b q = true) ↔ ((bnd b q).1 < (bnd b q).2∧inB9 (spansL a) (bnd b q) = true):=by
  intro q
  have hw : ∀ p : Int,(bnd a p).1 < (bnd a p).2 → (rwithinB a p b q = true ↔ (partB (bnd a p) (bnd b q) && !decide (bnd a p = bnd b q)) = true):=by
   intro p hp
   rw [hcell]
   unfold rwithinB
   rw [if_neg (by omega)]
   simp only [Bool.and_eq_true,Bool.or_eq_true,decide_eq_true_eq]
   omega
  have w1:=hw 1 (by rw [bnd1]; exact ha.2.2.1)
  have w2:=hw 2 (by rw [bnd2]; exact ha.2.2.2.2.2.1)
  rw [bnd1] at w1
  rw [bnd2] at w2
  by_cases h1 : a.k = 2
  ·have w3:=hw 3 (by rw [bnd3,if_pos h1]; exact (ha.2.2.2.2.2.2.2.2.1 h1).1)
   rw [bnd3,if_pos h1] at w3
   simp only [rholdB,Bool.and_eq_true (rwithinB _ _ _ _),Bool.and_eq_true (decide _ && rwithinB _ _ _ _),Bool.and_eq_true (decide _ && rwithinB _ _ _ _ && rwithinB _ _ _ _),Bool.and_eq_true (decide _),decide_eq_true_eq,w1,w2,w3,inB9,spansL,h1,if_true,List.all_cons,List.all_nil,Bool.and_true]
   simp only [Bool.and_eq_true,and_assoc]
  ·have w3 : rwithinB a 3 b q = true:=by
    unfold rwithinB
    rw [bnd3,if_neg h1]
    simp
   simp only [rholdB,w3,Bool.and_true]
   simp only [Bool.and_eq_true (decide _ && rwithinB _ _ _ _),Bool.and_eq_true (decide _),decide_eq_true_eq,w1,w2,inB9,spansL,h1,if_false,List.all_cons,List.all_nil,Bool.and_true]
   simp only [Bool.and_eq_true,and_assoc]
 have hany : (rholdB a b 1 || rholdB a b 2 || rholdB a b 3) = true ↔ (spansL b).any (inB9 (spansL a)) = true:=by
  have l1 : (triS b).1 < (triS b).2:=hb.2.2.1
  have l2 : (hanS b).1 < (hanS b).2:=hb.2.2.2.2.2.1
  simp only [Bool.or_eq_true,hhold,bnd1,bnd2,bnd3]
  by_cases h2 : b.k = 2
  ·have l3 : (filS b).1 < (filS b).2:=(hb.2.2.2.2.2.2.2.2.1 h2).1
   simp only [spansL,h2,if_true,List.any_cons,List.any_nil,Bool.or_eq_true,l1,l2,l3,true_and,or_assoc,Bool.false_eq_true,or_false]
  ·simp only [spansL,h2,if_false,List.any_cons,List.any_nil,Bool.or_eq_true,l1,l2,true_and,or_assoc,Bool.false_eq_true,or_false,Int.lt_irrefl,false_and]
 have hsame : rsameB a b = true ↔ triS a = triS b:=by simp [rsameB,triS]
 unfold rfitB fitB9
 have hd : (spansL a).headD (0,0) = triS a∧(spansL b).headD (0,0) = triS b:=by unfold spansL; constructor <;> split <;> rfl
 rw [hd.1,hd.2]
 by_cases hm : meetB (spansL a) (spansL b) = true
 ·rw [if_pos hm]
  by_cases hs : triS a = triS b
  ·rw [if_pos hs]
   have hno : ¬ (spansL b).any (inB9 (spansL a)) = true:=by
    intro h
    rw [List.any_eq_true] at h
    obtain ⟨o,ho,hin⟩:=h
    have hta : triS a ∈ spansL a:=by unfold spansL; split <;> simp
    have:=List.all_eq_true.1 hin _ hta
    rw [hcell,hs] at this
    have lt : (triS b).1 < (triS b).2:=hb.2.2.1
    have hco : o = triS b ∨ o = hanS b ∨ (b.k = 2∧o = filS b):=by
     unfold spansL at ho
     split at ho
     ·simp at ho; rcases ho with h | h | h
      ·exact .inl h
      ·exact .inr (.inl h)
      ·exact .inr (.inr ⟨by assumption,h⟩)
     ·simp at ho; rcases ho with h | h
      ·exact .inl h
      ·exact .inr (.inl h)
    rcases hco with rfl | rfl | ⟨hk,rfl⟩
    ·omega
    ·exact ob' (.inl (by rw [shr_iff]; omega))
    ·exact ob' (.inr ⟨hk,.inl (by rw [shr_iff]; omega)⟩)
   rw [if_neg (fun h => hno (hany.1 h))]
   congr 1
   have hsT : rsameB a b = true:=hsame.2 hs
   have e12 : rmeetB a 1 b 2 = false:=by
    rw [rmeet_iff,bnd1,bnd2,hs,Bool.eq_false_iff,ne_eq,shr_iff]
    intro h; exact ob' (.inl (by rw [shr_iff]; omega))
   have e13 : rmeetB a 1 b 3 = false:=by
    rw [rmeet_iff,bnd1,bnd3,hs,Bool.eq_false_iff,ne_eq,shr_iff]
    intro h
    split at h
    ·rename_i hk; exact ob' (.inr ⟨hk,.inl (by rw [shr_iff]; omega)⟩)
    ·omega
   have e21 : rmeetB a 2 b 1 = false:=by
    rw [rmeet_iff,bnd1,bnd2,← hs,Bool.eq_false_iff,ne_eq,shr_iff]
    intro h; exact oa' (.inl (by rw [shr_iff]; omega))
   have e31 : rmeetB a 3 b 1 = false:=by
    rw [rmeet_iff,bnd1,bnd3,← hs,Bool.eq_false_iff,ne_eq,shr_iff]
    intro h
    split at h
    ·rename_i hk; exact oa' (.inr ⟨hk,.inl (by rw [shr_iff]; omega)⟩)
    ·omega
   have z : ∀ s : Sp,shrB (0,0) s = false∧shrB s (0,0) = false:=fun s => ⟨by rw [Bool.eq_false_iff,ne_eq,shr_iff]; omega,by rw [Bool.eq_false_iff,ne_eq,shr_iff]; omega⟩
   simp only [rbadsB,rbadB,hsT,e12,e13,e21,e31]
   by_cases h1 : a.k = 2 <;> by_cases h2 : b.k = 2 <;> simp [spansL,h1,h2,meetB,rmeet_iff,bnd1,bnd2,bnd3,z,Bool.or_assoc]
  ·rw [if_neg hs]
   have hsF : rsameB a b = false:=by rw [Bool.eq_false_iff]; exact fun h => hs (hsame.1 h)
   have hbad : (rbadsB a b 1 || rbadsB a b 2 || rbadsB a b 3) = true:=by
    rw [hmeet] at hm
    simp only [rbadsB,rbadB,hsF,Bool.false_and,Bool.not_false,Bool.and_true]
    rw [← hm]
    simp only [Bool.or_assoc]
   rw [hbad]
   by_cases ha' : (spansL b).any (inB9 (spansL a)) = true
   ·rw [if_pos (hany.2 ha'),ha']
   ·rw [if_neg (fun h => ha' (hany.1 h)),Bool.eq_false_iff.2 ha']; rfl
 ·rw [if_neg hm]
  have hm':=fun h => hm (hmeet.2 h)
  simp only [Bool.or_eq_true,not_or] at hm'
  split
  ·rfl
  ·simp only [rbadsB,rbadB]
   have f11 : rmeetB a 1 b 1 = false:=Bool.eq_false_iff.2 fun h => hm' (by simp [h])
   have f12 : rmeetB a 1 b 2 = false:=Bool.eq_false_iff.2 fun h => hm' (by simp [h])
   have f13 : rmeetB a 1 b 3 = false:=Bool.eq_false_iff.2 fun h => hm' (by simp [h])
   have f21 : rmeetB a 2 b 1 = false:=Bool.eq_false_iff.2 fun h => hm' (by simp [h])
   have f22 : rmeetB a 2 b 2 = false:=Bool.eq_false_iff.2 fun h => hm' (by simp [h])
   have f23 : rmeetB a 2 b 3 = false:=Bool.eq_false_iff.2 fun h => hm' (by simp [h])
   have f31 : rmeetB a 3 b 1 = false:=Bool.eq_false_iff.2 fun h => hm' (by simp [h])
   have f32 : rmeetB a 3 b 2 = false:=Bool.eq_false_iff.2 fun h => hm' (by simp [h])
   have f33 : rmeetB a 3 b 3 = false:=Bool.eq_false_iff.2 fun h => hm' (by simp [h])
   rw [f11,f12,f13,f21,f22,f23,f31,f32,f33]; rfl

theorem cl_ok {n : Int} {pre : List Cl} {c : Cl} (h : clE n pre c = 0) : rngB n c = true∧ovlB (spansL c) = false∧∀ x ∈ pre,fitB9 (spansL x) (spansL c) = true:=by
 unfold clE at h
 split at h
 ·rename_i hr
  split at h
  ·exact absurd h (by decide)
  ·rename_i ho
   split at h
   ·exact absurd h (by decide)
   ·rename_i ha
    refine ⟨hr,Bool.eq_false_iff.2 ho,fun x hx => ?_⟩
    rw [List.any_eq_true] at ha
    cases hf : fitB9 (spansL x) (spansL c) with
    | true => rfl
    | false => exact absurd ⟨x,hx,by rw [hf]; rfl⟩ ha
 ·exact absurd h (by decide)

theorem any_congr9 {α : Type} {p q : α → Bool} : ∀ {l : List α},(∀ x ∈ l,p x = q x) → l.any p = l.any q
 | [],_ => rfl
 | x :: r,h => by rw [List.any_cons,List.any_cons,h x (by simp),any_congr9 (fun y hy => h y (by simp [hy]))]

theorem rcl_eq (n : Int) (l : List Cl) (q : Nat) (hq : q < l.length) (h : ∀ k,k < q → clAt n l k = 0) : rclAt n l q = clAt n l q:=by
 rw [rclAt_eq n l q hq,clAt_eq n l q hq]
 unfold rclE clE
 rw [alone_eq]
 by_cases hr : rngB n l[q] = true
 ·rw [if_pos hr,if_pos hr]
  by_cases ho : ovlB (spansL l[q]) = true
  ·rw [if_pos ho,if_pos ho]; rfl
  ·rw [if_neg ho,if_neg ho,if_pos rfl]
   have : ((l.take q).any fun x => !rfitB x l[q]) = ((l.take q).any fun x => !fitB9 (spansL x) (spansL l[q])):=by
    refine any_congr9 fun x hx => ?_
    obtain ⟨k,hk,rfl⟩:=List.mem_take_iff_getElem.1 hx
    have hkq : k < q:=by omega
    have h0:=h k hkq
    rw [clAt_eq n l k (by omega)] at h0
    obtain ⟨h1,h2,_⟩:=cl_ok h0
    rw [fit_eq n _ _ h1 hr h2 (Bool.eq_false_iff.2 ho)]
   rw [this]
 ·rw [if_neg hr,if_neg hr]; rfl

def RightL (n : Int) (l : List Cl) : Prop:=l.length ≤ 6∧∀ k,k < l.length → clAt n l k = 0
theorem rcheck_right {n : Int} {l : List Cl} {i e : Int} (h : RCheckR n l i e) : (e = 0 ↔ RightL n l):=by
 unfold RCheckR at h
 split at h
 ·exact ⟨fun he => by omega,fun ⟨h1,_⟩ => by omega⟩
 ·rename_i hl
  have both : ∀ q,q ≤ l.length → ((∀ k,k < q → rclAt n l k = 0) → ∀ k,k < q → clAt n l k = 0):=by
   intro q
   induction q with
   | zero => intro _ _ k hk; omega
   | succ q ih =>
    intro hq hg k hk
    have h1:=ih (by omega) (fun k hk => hg k (by omega))
    rcases Nat.lt_or_ge k q with h | h
    ·exact h1 k h
    ·obtain rfl : k = q:=by omega
     rw [← rcl_eq n l k (by omega) h1]; exact hg k (by omega)
  rcases h with ⟨_,rfl,h⟩ | ⟨q,hq,_,rfl,hne,hk⟩
  ·exact ⟨fun _ => ⟨by omega,both _ (Nat.le_refl _) h⟩,fun _ => rfl⟩
  ·exact ⟨fun he => absurd he hne,fun ⟨_,h2⟩ => by rw [rcl_eq n l q hq (fun k hk' => h2 k (by omega))]; exact h2 q hq⟩
end Go.Proofs.YtapocgcdjkbnhaaDoor

namespace Go.Proofs.YtapocgcdjkbnhaaDoor
set_option linter.unusedVariables false
set_option linter.unusedSimpArgs false
open Go.RowKit
structure TD where
 nm : ByteArray
 fl : Int
 ex : Int
 fa : Option Addr
 fc : Nat
 fs : List Int
structure FD where
 nm : ByteArray
 ow : Int
 t : Ty
 st : Bool
structure MD where
 nm : ByteArray
 ow : Int
 fl : Int
 pa : Option Addr
 pc : Nat
 ps : List Ty
 rt : Ty
 la : Option Addr
 lc : Nat
 ls : List Ty
 mx : Int
 ca : Option Addr
 cc : Nat
 co : List Ins
 ka : Option Addr
 kc : Nat
 cl : List Cl
structure Img where
 ta : Option Addr
 tc : Nat
 ts : List TD
 fa : Option Addr
 fc : Nat
 fs : List FD
 ma : Option Addr
 mc : Nat
 ms : List MD
 en : Int

def numB (i : Int) (n : Nat) : Bool:=decide (0 ≤ i) && decide (i < n)
def witB (i last : Int) : Bool:=decide (0 ≤ i) && decide (i ≤ last)
def ownB (n : Nat) (t : Ty) : Bool:=if t.1 = 5 ∨ t.1 = 6 then numB t.2.1 n else true
def fldB (n : Nat) (t : Ty) : Bool:=mayT 1 t && ownB n t
def hasI (n nf nm len : Nat) (x : Ins) : Bool:=if opP x.1 = 5 then numB x.2.1 len else if opP x.1 = 6 then numB x.2.1 nm else if opP x.1 = 7 then numB x.2.1 nf else if opP x.1 = 8 then ownB n x.2.2 else true
def fitI (x : Ins) : Int:=fitE x.1 x.2.1 x.2.2.1 x.2.2.2.1 x.2.2.2.2.1 x.2.2.2.2.2
def insB (n nf nm len : Nat) (x : Ins) : Bool:=decide (fitI x = 0) && hasI n nf nm len x
def catB (n : Nat) (c : Cl) : Bool:=if c.k = 1 then fldB n (c.t0,c.t1,c.t2,c.t3) else c.t0 == 0 && c.t1 == 0 && c.t2 == 0 && !c.t3
def rgtB (n : Int) (l : List Cl) : Bool := @decide (RightL n l) (by unfold RightL; exact inferInstance)
def risB : List Int → Bool
 | a :: b :: r => decide (a ≤ b) && risB (b :: r)
 | _ => true
def tdB (n : Nat) (x : TD) : Bool:=fineB x.nm.data.toList && witB x.fl 31 && (decide (x.ex = -1) || numB x.ex n) && decide (x.fs.length ≤ 4) && x.fs.all (fun i => numB i n)
def fdB (n : Nat) (x : FD) : Bool:=fineB x.nm.data.toList && numB x.ow n && fldB n x.t
def mdB (n nf nm : Nat) (x : MD) : Bool :=
 fineB x.nm.data.toList && numB x.ow n && witB x.fl 31 && witB x.mx 12 && (decide (sigE x.ps x.rt = 0) && ownB n x.rt && x.ps.all (ownB n)) && (decide (locE x.ls = 0) && x.ls.all (ownB n)) &&
  (decide (x.co.length ≤ 160) && x.co.all (insB n nf nm x.co.length)) && (rgtB x.co.length x.cl && x.cl.all (catB n))
def imB (g : Img) : Bool :=
 decide (g.ts.length ≤ 32) && decide (g.fs.length ≤ 64) && decide (g.ms.length ≤ 64) && g.ts.all (tdB g.ts.length) && (g.fs.all (fdB g.ts.length) && risB (g.fs.map (·.ow))) &&
  (g.ms.all (mdB g.ts.length g.fs.length g.ms.length) && risB (g.ms.map (·.ow))) && (decide (g.en = -1) || numB g.en g.ms.length)

theorem ris_iff : ∀ l : List Int,risB l = true ↔ ∀ i (h : i + 1 < l.length),l[i] ≤ l[i + 1]
 | [] => by simp [risB]
 | [a] => by simp [risB]
 | a :: b :: r => by
  have ih:=ris_iff (b :: r)
  simp only [risB,Bool.and_eq_true,decide_eq_true_eq,ih]
  constructor
  ·rintro ⟨h1,h2⟩ i hi
   cases i with
   | zero => simpa using h1
   | succ j => exact h2 j (by simpa using hi)
  ·intro h
   exact ⟨h 0 (by simp),fun i hi => h (i + 1) (by simpa using hi)⟩
end Go.Proofs.YtapocgcdjkbnhaaDoor
