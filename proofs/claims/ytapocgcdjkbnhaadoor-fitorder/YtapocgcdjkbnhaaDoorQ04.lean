/- Texts joined: TreeSpec, TreeMath. -/
import Derived.Test.YtapocgcdjkbnhaaDoorQ03
namespace Go.Proofs.YtapocgcdjkbnhaaDoor
set_option linter.unusedVariables false
set_option linter.unusedSimpArgs false
open Go.RowKit
def stepC (n : Nat) (l : List Int) (t : Int) : List Int:=if numB t n = true∧l.contains t = false then l ++ [t] else l
def comeL (n : Nat) (l ts : List Int) : List Int:=ts.foldl (stepC n) l
def goL (n : Nat) (st : Int → List Int) : Nat → Nat → List Int → List Int
 | 0,_,l => l
 | k + 1,i,l => if h : i < l.length then goL n st k (i + 1) (comeL n l (st l[i])) else l
def Rch (n : Nat) (st : Int → List Int) (from_ : List Int) (x : Int) : Prop :=
 ∀ S : Int → Prop,(∀ y ∈ from_,numB y n = true → S y) → (∀ y,S y → ∀ z ∈ st y,numB z n = true → S z) → S x
def Nd (n m : Nat) (l : List Int) : Prop:=(∀ x ∈ l,numB x n = true)∧(l.drop m).Nodup

theorem numB_iff {i : Int} {n : Nat} : numB i n = true ↔ 0 ≤ i∧i < n:=by simp [numB]
theorem comeL_cons (n : Nat) (l : List Int) (t : Int) (r : List Int) : comeL n l (t :: r) = comeL n (stepC n l t) r:=rfl
theorem comeL_append (n : Nat) (l a b : List Int) : comeL n l (a ++ b) = comeL n (comeL n l a) b:=by simp [comeL,List.foldl_append]
theorem comeL_take {n : Nat} {l ts : List Int} {q : Nat} (hq : q < ts.length) : comeL n l (ts.take (q + 1)) = stepC n (comeL n l (ts.take q)) ts[q]:=by
 rw [List.take_succ_eq_append_getElem hq,comeL_append]; rfl
theorem comeL_done {n : Nat} {l ts : List Int} {q : Nat} (hq : ¬ q < ts.length) : comeL n l (ts.take q) = comeL n l ts:=by
 rw [List.take_of_length_le (by omega)]
theorem stepC_new {n : Nat} {l : List Int} {t : Int} (h1 : numB t n = true) (h2 : l.contains t = false) : stepC n l t = l ++ [t]:=by unfold stepC; rw [if_pos ⟨h1,h2⟩]
theorem stepC_out {n : Nat} {l : List Int} {t : Int} (h1 : numB t n = false) : stepC n l t = l:=by unfold stepC; rw [if_neg (by rw [h1]; simp)]
theorem stepC_old {n : Nat} {l : List Int} {t : Int} (h2 : l.contains t = true) : stepC n l t = l:=by unfold stepC; rw [if_neg (by rw [h2]; simp)]
theorem goL_end {n : Nat} {st : Int → List Int} {k i : Nat} {l : List Int} (h : ¬ i < l.length) : goL n st k i l = l:=by
 cases k with
 | zero => rfl
 | succ k => rw [goL,dif_neg h]
theorem goL_next {n : Nat} {st : Int → List Int} {k i : Nat} {l : List Int} (h : i < l.length) : goL n st (k + 1) i l = goL n st k (i + 1) (comeL n l (st l[i])):=by rw [goL,dif_pos h]

theorem stepC_pre (n : Nat) (l : List Int) (t : Int) : l <+: stepC n l t:=by
 unfold stepC; split
 ·exact List.prefix_append _ _
 ·exact List.prefix_rfl
theorem comeL_pre (n : Nat) : ∀ (ts l : List Int),l <+: comeL n l ts
 | [],l => List.prefix_rfl
 | t :: r,l => (stepC_pre n l t).trans (comeL_pre n r _)
theorem goL_pre (n : Nat) (st : Int → List Int) : ∀ (k i : Nat) (l : List Int),l <+: goL n st k i l
 | 0,_,l => List.prefix_rfl
 | k + 1,i,l => by
  rw [goL]; split
  ·exact (comeL_pre n _ l).trans (goL_pre n st k _ _)
  ·exact List.prefix_rfl
theorem stepC_has {n : Nat} {l : List Int} {t : Int} (h : numB t n = true) : t ∈ stepC n l t:=by
 cases hc : l.contains t with
 | true => rw [stepC_old hc]; simpa using hc
 | false => rw [stepC_new h hc]; simp
theorem comeL_has {n : Nat} : ∀ {ts l : List Int} {t : Int},t ∈ ts → numB t n = true → t ∈ comeL n l ts
 | a :: r,l,t,ht,hn => by
  rw [comeL_cons]
  rcases List.mem_cons.1 ht with rfl | ht
  ·exact (comeL_pre n r _).subset (stepC_has hn)
  ·exact comeL_has ht hn
theorem comeL_mem {n : Nat} : ∀ {ts l : List Int} {x : Int},x ∈ comeL n l ts → x ∈ l ∨ (x ∈ ts∧numB x n = true)
 | [],l,x,h => Or.inl h
 | a :: r,l,x,h => by
  rw [comeL_cons] at h
  rcases comeL_mem h with h | ⟨h1,h2⟩
  ·unfold stepC at h
   split at h
   ·rename_i hc
    rcases List.mem_append.1 h with h | h
    ·exact Or.inl h
    ·simp at h; subst h; exact Or.inr ⟨by simp,hc.1⟩
   ·exact Or.inl h
  ·exact Or.inr ⟨List.mem_cons_of_mem _ h1,h2⟩
theorem Nd.step {n m : Nat} {l : List Int} (h : Nd n m l) (t : Int) : Nd n m (stepC n l t):=by
 cases hc : l.contains t with
 | true => rw [stepC_old hc]; exact h
 | false =>
  cases hn : numB t n with
  | false => rw [stepC_out hn]; exact h
  | true =>
   rw [stepC_new hn hc]
   refine ⟨fun x hx => ?_, ?_⟩
   ·rcases List.mem_append.1 hx with hx | hx
    ·exact h.1 x hx
    ·simp at hx; subst hx; exact hn
   ·rw [List.drop_append]
    have ht : t ∉ l:=by intro e; have:=List.contains_iff_mem.2 e; rw [hc] at this; cases this
    refine List.nodup_append.2 ⟨h.2, ?_, ?_⟩
    ·exact (List.drop_sublist _ _).nodup (by simp)
    ·intro a ha b hb e
     subst e
     have h1:=List.mem_of_mem_drop hb
     simp at h1; subst h1
     exact ht (List.mem_of_mem_drop ha)
theorem Nd.come {n m : Nat} : ∀ {ts l : List Int},Nd n m l → Nd n m (comeL n l ts)
 | [],l,h => h
 | t :: r,l,h => by rw [comeL_cons]; exact Nd.come (h.step t)
theorem Nd.nil (n : Nat) : Nd n 0 []:=⟨fun x hx => absurd hx (by simp),by simp⟩
theorem nodup_len : ∀ (n : Nat) (l : List Int),l.Nodup → (∀ x ∈ l,0 ≤ x∧x < (n : Int)) → l.length ≤ n
 | 0,l,_,h => by
  cases l with
  | nil => simp
  | cons a r => have:=h a (by simp); omega
 | n + 1,l,hd,h => by
  have ih:=nodup_len n (l.erase (n : Int)) (hd.erase _) (fun x hx => by
   have h1:=h x (List.mem_of_mem_erase hx)
   have h2:=(hd.mem_erase_iff.1 hx).1
   omega)
  rw [List.length_erase] at ih
  split at ih <;> omega
theorem Nd.len {n m : Nat} {l : List Int} (h : Nd n m l) : l.length ≤ m + n:=by
 have:=nodup_len n (l.drop m) h.2 (fun x hx => numB_iff.1 (h.1 x (List.mem_of_mem_drop hx)))
 rw [List.length_drop] at this
 omega

theorem goL_all {n m : Nat} {st : Int → List Int} : ∀ (k i : Nat) (l : List Int),Nd n m l → i ≤ l.length → m + n < k + i → (∀ x ∈ l.take i,∀ z ∈ st x,numB z n = true → z ∈ l) →
  Nd n m (goL n st k i l)∧(∀ x ∈ goL n st k i l,∀ z ∈ st x,numB z n = true → z ∈ goL n st k i l) ∧
  (∀ S : Int → Prop,(∀ y,S y → ∀ z ∈ st y,numB z n = true → S z) → (∀ x ∈ l,S x) → ∀ x ∈ goL n st k i l,S x)
 | 0,i,l,h,hi,hk,hc => absurd h.len (by omega)
 | k + 1,i,l,h,hi,hk,hc => by
  by_cases hl : i < l.length
  ·rw [goL_next hl]
   have hp:=comeL_pre n (st l[i]) l
   have hlen:=hp.length_le
   have htk : (comeL n l (st l[i])).take (i + 1) = l.take (i + 1):=by
    obtain ⟨r,hr⟩:=hp
    rw [← hr,List.take_append_of_le_length (by omega)]
   obtain ⟨h1,h2,h3⟩:=goL_all k (i + 1) (comeL n l (st l[i])) h.come (by omega) (by omega) (fun x hx z hz hn => by
    rw [htk,List.take_succ_eq_append_getElem hl] at hx
    rcases List.mem_append.1 hx with hx | hx
    ·exact hp.subset (hc x hx z hz hn)
    ·simp at hx; subst hx; exact comeL_has hz hn)
   refine ⟨h1,h2,fun S hS hl' => h3 S hS (fun x hx => ?_)⟩
   rcases comeL_mem hx with hx | ⟨hx,hn⟩
   ·exact hl' x hx
   ·exact hS _ (hl' _ (List.getElem_mem hl)) x hx hn
  ·rw [goL_end hl]
   rw [List.take_of_length_le (by omega)] at hc
   exact ⟨h,hc,fun S _ hl' => hl'⟩

theorem goL_iff {n m : Nat} {st : Int → List Int} {l : List Int} {k : Nat} (h : Nd n m l) (hk : m + n < k) (x : Int) : x ∈ goL n st k 0 l ↔ Rch n st l x:=by
 obtain ⟨h1,h2,h3⟩:=goL_all k 0 l h (Nat.zero_le _) (by omega) (fun x hx => by simp at hx)
 constructor
 ·intro hx S hS hT
  exact h3 S hT (fun y hy => hS y hy (h.1 y hy)) x hx
 ·intro hx
  exact hx _ (fun y hy _ => (goL_pre n st k 0 l).subset hy) h2
theorem Rch.come {n : Nat} {st : Int → List Int} {from_ : List Int} {x : Int} : Rch n st (comeL n [] from_) x ↔ Rch n st from_ x:=by
 constructor
 ·intro h S hS hT
  refine h S (fun y hy hn => ?_) hT
  rcases comeL_mem hy with hy | ⟨hy,_⟩
  ·exact absurd hy (by simp)
  ·exact hS y hy hn
 ·intro h S hS hT
  exact h S (fun y hy hn => hS y (comeL_has hy hn) hn) hT
def reachL (n : Nat) (st : Int → List Int) (from_ : List Int) : List Int:=goL n st (n + 1) 0 (comeL n [] from_)
theorem reachL_nd (n : Nat) (st : Int → List Int) (from_ : List Int) : Nd n 0 (reachL n st from_):=(goL_all _ _ _ (Nd.nil n).come (Nat.zero_le _) (by omega) (fun x hx => by simp at hx)).1
theorem reachL_iff {n : Nat} {st : Int → List Int} {from_ : List Int} {x : Int} : x ∈ reachL n st from_ ↔ Rch n st from_ x:=by
 unfold reachL
 rw [goL_iff (Nd.nil n).come (by omega),Rch.come]
theorem reachL_len (n : Nat) (st : Int → List Int) (from_ : List Int) : (reachL n st from_).length ≤ n:=by simpa using (reachL_nd n st from_).len
theorem Rch.trans {n : Nat} {st : Int → List Int} {from_ : List Int} {y z : Int} (h : Rch n st from_ y) (h2 : Rch n st (st y) z) : Rch n st from_ z :=
 fun S hS hT => h2 S (fun u hu hn => hT y (h S hS hT) u hu hn) hT
theorem Rch.mono {n : Nat} {st : Int → List Int} {a b : List Int} {x : Int} (h : Rch n st a x) (hab : ∀ y ∈ a,y ∈ b) : Rch n st b x :=
 fun S hS hT => h S (fun y hy => hS y (hab y hy)) hT
def exI (g : Img) (t : Int) : Int:=match g.ts[t.toNat]? with | some x => x.ex | none => -1
def fsI (g : Img) (t : Int) : List Int:=match g.ts[t.toNat]? with | some x => x.fs | none => []
def flI (g : Img) (t : Int) : Int:=match g.ts[t.toNat]? with | some x => x.fl | none => 0
theorem exI_at {g : Img} {q : Nat} (h : q < g.ts.length) : exI g (q : Int) = g.ts[q].ex:=by unfold exI; rw [Int.toNat_natCast,List.getElem?_eq_getElem h]
theorem fsI_at {g : Img} {q : Nat} (h : q < g.ts.length) : fsI g (q : Int) = g.ts[q].fs:=by unfold fsI; rw [Int.toNat_natCast,List.getElem?_eq_getElem h]
theorem flI_at {g : Img} {q : Nat} (h : q < g.ts.length) : flI g (q : Int) = g.ts[q].fl:=by unfold flI; rw [Int.toNat_natCast,List.getElem?_eq_getElem h]
def upG (g : Img) : Nat → List Int → Int → List Int
 | 0,l,_ => l
 | k + 1,l,t => if numB t g.ts.length = true∧l.contains t = false then upG g k (l ++ [t]) (exI g t) else l
def upL (g : Img) (t : Int) : List Int:=upG g (g.ts.length + 2) [] t
def upS (g : Img) (t : Int) : List Int := [exI g t]
def facL (g : Img) (t : Int) : List Int:=reachL g.ts.length (fsI g) ((upL g t).flatMap (fsI g))
def belB (g : Img) (a b : Int) : Bool:=(upL g a).contains b || (facL g a).contains b

theorem goL_up (g : Img) : ∀ (k i : Nat) (l : List Int) (h : i + 1 = l.length),goL g.ts.length (upS g) k i l = upG g k l (exI g l[i])
 | 0,i,l,h => rfl
 | k + 1,i,l,h => by
  rw [goL_next (by omega)]
  show goL _ _ k (i + 1) (stepC _ l (exI g l[i])) = _
  rw [upG]
  by_cases hc : numB (exI g l[i]) g.ts.length = true∧l.contains (exI g l[i]) = false
  ·rw [if_pos hc,stepC_new hc.1 hc.2,goL_up g k (i + 1) _ (by simp; omega)]
   congr 1
   simp [h]
  ·rw [if_neg hc]
   have : stepC g.ts.length l (exI g l[i]) = l:=by unfold stepC; rw [if_neg hc]
   rw [this,goL_end (by omega)]
theorem upL_eq (g : Img) (t : Int) : reachL g.ts.length (upS g) [t] = upL g t:=by
 unfold reachL upL
 show goL _ _ _ 0 (stepC _ [] t) = _
 rw [upG]
 cases hn : numB t g.ts.length with
 | true => rw [stepC_new hn (by simp),if_pos ⟨rfl,by simp⟩,List.nil_append,goL_up g _ 0 [t] rfl]; rfl
 | false => rw [stepC_out hn,if_neg (by simp),goL_end (by simp)]

def bitB (f : Int) (k : Nat) : Bool:=f.toNat / k % 2 == 1
def kindF (f : Int) : Int:=if bitB f 2 = true then 2 else if bitB f 1 = true then 1 else if bitB f 16 = true then 3 else 0
def kndI (g : Img) (t : Int) : Int:=if numB t g.ts.length = true then kindF (flI g t) else -1
def flgF (f e : Int) : Bool :=
 if kindF f = 2 then decide (e = -1) && (bitB f 4 && !bitB f 1 && !bitB f 8 && !bitB f 16)
 else if kindF f = 1 then decide (e = -1) && (bitB f 8 && !bitB f 4 && !bitB f 16)
 else if kindF f = 3 then decide (e = -1) && (bitB f 8 && !bitB f 4)
 else true
def difB {α : Type} (ap : α → α → Bool) (l : List α) : Bool:=(List.range l.length).all fun i => match l[i]? with | some x => (l.take i).all (ap x) | none => true
theorem difB_iff {α : Type} {ap : α → α → Bool} {l : List α} : difB ap l = true ↔ ∀ i (h : i < l.length),(l.take i).all (ap l[i]) = true:=by
 unfold difB
 rw [List.all_eq_true]
 constructor
 ·intro h i hi
  have:=h i (List.mem_range.2 hi)
  rwa [List.getElem?_eq_getElem hi] at this
 ·intro h i hi
  have hi':=List.mem_range.1 hi
  rw [List.getElem?_eq_getElem hi']
  exact h i hi'
def extB (g : Img) (t : Int) : Bool:=(decide (exI g t = -1) || (decide (kndI g (exI g t) = 0) && !bitB (flI g (exI g t)) 8)) && (match (upL g t).getLast? with | some u => decide (exI g u = -1) | none => true)
def facB (g : Img) (t : Int) : Bool:=(fsI g t).all (fun f => decide (kndI g f = 2)) && difB (fun a b => a != b) (fsI g t) && (decide (kndI g t ≠ 2) || !(reachL g.ts.length (fsI g) (fsI g t)).contains t)
def pkN {α : Type} (p : α → Bool) : Int → List α → List Int
 | _,[] => []
 | i,c :: r => (if p c = true then [i] else []) ++ pkN p (i + 1) r
def fldN (g : Img) (t : Int) : List Int:=if numB t g.ts.length = true then pkN (fun x => decide (x.ow = t)) 0 g.fs else []
def mtdN (g : Img) (t : Int) : List Int:=if numB t g.ts.length = true then pkN (fun x => decide (x.ow = t)) 0 g.ms else []
def fnI (g : Img) (i : Int) : ByteArray:=match g.fs[i.toNat]? with | some x => x.nm | none => ByteArray.empty
def fstI (g : Img) (i : Int) : Bool:=match g.fs[i.toNat]? with | some x => x.st | none => false
def fvtI (g : Img) (i : Int) : Ty:=match g.fs[i.toNat]? with | some x => x.t | none => (0,0,0,false)
def smM (x y : MD) : Bool:=decide (x.nm = y.nm∧x.ps = y.ps∧x.rt = y.rt∧x.fl % 2 = y.fl % 2)
def smI (g : Img) (i k : Int) : Bool:=match g.ms[i.toNat]?,g.ms[k.toNat]? with | some x,some y => smM x y | _,_ => false
def tnmB (g : Img) (t : Int) : Bool:=match g.ts[t.toNat]? with | some x => (List.range g.ts.length).all (fun i => decide ((i : Int) = t) || (match g.ts[i]? with | some y => decide (y.nm ≠ x.nm) | none => true)) | none => true
def nmdB (g : Img) (t : Int) : Bool:=tnmB g t && difB (fun a b => decide (fnI g a ≠ fnI g b)) (fldN g t) && difB (fun a b => !smI g a b) (mtdN g t)
def prtB (g : Img) (i : Int) : Bool := !fstI g i && (decide ((fvtI g i).1 = 6) && decide ((fvtI g i).2.2.1 = 0) && decide (kndI g (fvtI g i).2.1 = 1))
def prtL (g : Img) (t : Int) : List Int:=((fldN g t).filter (prtB g)).map (fun i => (fvtI g i).2.1)
def szdB (g : Img) (t : Int) : Bool :=
 if kndI g t = 2 then (fldN g t).all (fstI g)
 else if kndI g t = 3 then decide (fldN g t = [])
 else if kndI g t = 1 then !(reachL g.ts.length (prtL g) (prtL g t)).contains t
 else true
def errT (g : Img) (t : Int) : Int:=if (flgF (flI g t) (exI g t) && extB g t && facB g t) = false then 7 else if nmdB g t = false then 18 else if szdB g t = false then 20 else 0
def wrgL (g : Img) : Nat → Nat → Int × Int
 | 0,_ => (0,0)
 | k + 1,i => if errT g i = 0 then wrgL g k (i + 1) else ((i : Int),errT g i)
def chkI (g : Img) : Int × Int:=if imB g = true then wrgL g g.ts.length 0 else (0,17)
def welB (g : Img) : Bool:=decide ((chkI g).2 = 0)
theorem wrgL_ok (g : Img) : ∀ (k i : Nat),(wrgL g k i).2 = 0 → ∀ j,i ≤ j → j < i + k → errT g j = 0
 | 0,i,_,j,h1,h2 => by omega
 | k + 1,i,h,j,h1,h2 => by
  unfold wrgL at h
  by_cases he : errT g i = 0
  ·rw [if_pos he] at h
   by_cases hij : j = i
   ·subst hij; exact he
   ·exact wrgL_ok g k (i + 1) h j (by omega) (by omega)
  ·rw [if_neg he] at h; exact absurd h he
theorem wel_all {g : Img} (h : welB g = true) : imB g = true∧∀ t,numB t g.ts.length = true → flgF (flI g t) (exI g t) = true∧extB g t = true∧facB g t = true∧nmdB g t = true∧szdB g t = true:=by
 unfold welB chkI at h
 rw [decide_eq_true_iff] at h
 by_cases hi : imB g = true
 ·rw [if_pos hi] at h
  refine ⟨hi,fun t ht => ?_⟩
  have ht':=numB_iff.1 ht
  have:=wrgL_ok g _ _ h t.toNat (Nat.zero_le _) (by omega)
  rw [show ((t.toNat : Nat) : Int) = t by omega] at this
  unfold errT at this
  cases ha : (flgF (flI g t) (exI g t) && extB g t && facB g t) with
  | false => rw [ha,if_pos rfl] at this; omega
  | true =>
   rw [ha,if_neg (by decide)] at this
   cases hb : nmdB g t with
   | false => rw [hb,if_pos rfl] at this; omega
   | true =>
    rw [hb,if_neg (by decide)] at this
    cases hc : szdB g t with
    | false => rw [hc,if_pos rfl] at this; omega
    | true =>
     rw [Bool.and_eq_true,Bool.and_eq_true] at ha
     exact ⟨ha.1.1,ha.1.2,ha.2,rfl,rfl⟩
 ·rw [if_neg hi] at h; simp at h

def chnL (g : Img) : Nat → Int → List Int
 | 0,_ => []
 | k + 1,t => if numB t g.ts.length = true then t :: chnL g k (exI g t) else []
theorem upG_chn (g : Img) : ∀ (k : Nat) (l : List Int) (t : Int) (K : Nat),k ≤ K → (k ≠ 0 ∨ l ≠ []) → (∀ h : l ≠ [],exI g (l.getLast h) = t) →
  (∀ h : upG g k l t ≠ [],numB (exI g ((upG g k l t).getLast h)) g.ts.length = false) → upG g k l t = l ++ chnL g K t
 | 0,l,t,K,hk,h0,hl,hs => by
  have hne : l ≠ []:=by exact h0.resolve_left (fun h => h rfl)
  have:=hs hne
  have h2 : numB t g.ts.length = false:=by rw [← hl hne]; exact this
  show l = l ++ chnL g K t
  cases K with
  | zero => simp [chnL]
  | succ K => unfold chnL; rw [h2]; simp
 | k + 1,l,t,K,hk,h0,hl,hs => by
  obtain ⟨K',rfl⟩ : ∃ K',K = K' + 1:=⟨K - 1,by omega⟩
  by_cases hc : numB t g.ts.length = true∧l.contains t = false
  ·have he : upG g (k + 1) l t = upG g k (l ++ [t]) (exI g t):=by rw [upG,if_pos hc]
   have ih:=upG_chn g k (l ++ [t]) (exI g t) K' (by omega) (Or.inr (by simp)) (fun h => by simp) (fun h => by
    have:=hs (by rw [he]; exact h)
    simpa [he] using this)
   have hcn : chnL g (K' + 1) t = t :: chnL g K' (exI g t):=by show (if _ then _ else _) = _; rw [if_pos hc.1]
   rw [he,ih,hcn,List.append_assoc]; rfl
  ·have he : upG g (k + 1) l t = l:=by rw [upG,if_neg hc]
   rw [he]
   have hn : numB t g.ts.length = false:=by
    by_cases hne : l = []
    ·subst hne
     cases hn : numB t g.ts.length with
     | false => rfl
     | true => exact absurd ⟨hn,by simp⟩ hc
    ·have:=hs (by rw [he]; exact hne)
     rw [← hl hne]
     simpa [he] using this
   unfold chnL
   rw [hn]; simp

structure Wel (g : Img) : Prop where
 im : imB g = true
 flg : ∀ t,numB t g.ts.length = true → flgF (flI g t) (exI g t) = true
 ext : ∀ t,numB t g.ts.length = true → extB g t = true
 fac : ∀ t,numB t g.ts.length = true → facB g t = true
theorem Wel.of {g : Img} (h : welB g = true) : Wel g:=by
 obtain ⟨h1,h2⟩:=wel_all h
 exact ⟨h1,fun t ht => (h2 t ht).1,fun t ht => (h2 t ht).2.1,fun t ht => (h2 t ht).2.2.1⟩

theorem upL_nd (g : Img) (t : Int) : Nd g.ts.length 0 (upL g t):=by rw [← upL_eq]; exact reachL_nd _ _ _
theorem upL_iff {g : Img} {t x : Int} : x ∈ upL g t ↔ Rch g.ts.length (upS g) [t] x:=by rw [← upL_eq]; exact reachL_iff
theorem upL_out {g : Img} {t : Int} (h : numB t g.ts.length = false) : upL g t = []:=by unfold upL; rw [upG,if_neg (by rw [h]; simp)]
theorem upL_self {g : Img} {t : Int} (h : numB t g.ts.length = true) : t ∈ upL g t:=upL_iff.2 (fun S hS _ => hS t (by simp) h)
theorem upL_chn {g : Img} (W : Wel g) {t : Int} (h : numB t g.ts.length = true) : ∀ K,g.ts.length + 2 ≤ K → upL g t = chnL g K t:=by
 intro K hK
 have hx:=W.ext t h
 unfold extB at hx
 rw [Bool.and_eq_true] at hx
 have:=upG_chn g (g.ts.length + 2) [] t K hK (Or.inl (by omega)) (fun h => absurd rfl h) (fun hne => by
  have h2:=hx.2
  unfold upL at h2
  rw [List.getLast?_eq_some_getLast hne] at h2
  simp only [decide_eq_true_iff] at h2
  rw [h2]; rfl)
 simpa [upL] using this
theorem upL_cons {g : Img} (W : Wel g) {t : Int} (h : numB t g.ts.length = true) : upL g t = t :: upL g (exI g t):=by
 rw [upL_chn W h (g.ts.length + 3) (by omega)]
 unfold chnL
 rw [if_pos h]
 cases he : numB (exI g t) g.ts.length with
 | true => rw [← upL_chn W he (g.ts.length + 2) (Nat.le_refl _)]
 | false => rw [upL_out he]; unfold chnL; rw [he]; simp
theorem upL_suffix {g : Img} (W : Wel g) : ∀ (n : Nat) (x y : Int),numB x g.ts.length = true → (upL g x).length ≤ n → y ∈ upL g x → upL g y <:+ upL g x
 | 0,x,y,hx,hn,hy => by rw [upL_cons W hx] at hn; simp at hn
 | n + 1,x,y,hx,hn,hy => by
  have hc:=upL_cons W hx
  rw [hc] at hy
  rcases List.mem_cons.1 hy with rfl | hy
  ·exact List.suffix_rfl
  ·have he : numB (exI g x) g.ts.length = true:=by
    cases he : numB (exI g x) g.ts.length with
    | true => rfl
    | false => rw [upL_out he] at hy; simp at hy
   have:=upL_suffix W n (exI g x) y he (by rw [hc] at hn; simpa using hn) hy
   rw [hc]
   exact this.trans (List.suffix_cons _ _)
theorem upL_anti {g : Img} (W : Wel g) {x y : Int} (hx : numB x g.ts.length = true) (hy : numB y g.ts.length = true) (h1 : y ∈ upL g x) (h2 : x ∈ upL g y) : x = y:=by
 have a:=upL_suffix W _ x y hx (Nat.le_refl _) h1
 have b:=upL_suffix W _ y x hy (Nat.le_refl _) h2
 have e : upL g y = upL g x:=a.eq_of_length (Nat.le_antisymm a.length_le b.length_le)
 rw [upL_cons W hx,upL_cons W hy] at e
 exact (List.cons.inj e).1.symm

theorem kind_face {g : Img} (W : Wel g) {t : Int} (h : kndI g t = 2) : numB t g.ts.length = true∧exI g t = -1:=by
 have hn : numB t g.ts.length = true:=by
  cases hn : numB t g.ts.length with
  | true => rfl
  | false => unfold kndI at h; rw [hn] at h; simp at h
 refine ⟨hn, ?_⟩
 have hf:=W.flg t hn
 unfold kndI at h
 rw [if_pos hn] at h
 unfold flgF at hf
 rw [if_pos h,Bool.and_eq_true] at hf
 simpa using hf.1
theorem upL_face {g : Img} (W : Wel g) {t : Int} (h : kndI g t = 2) : upL g t = [t]:=by
 obtain ⟨hn,he⟩:=kind_face W h
 rw [upL_cons W hn,he,upL_out rfl]
theorem facL_face {g : Img} (W : Wel g) {t : Int} (h : kndI g t = 2) {x : Int} : x ∈ facL g t ↔ Rch g.ts.length (fsI g) (fsI g t) x:=by
 unfold facL
 rw [reachL_iff,upL_face W h]; simp
theorem facL_iff {g : Img} {t x : Int} : x ∈ facL g t ↔ Rch g.ts.length (fsI g) ((upL g t).flatMap (fsI g)) x:=by unfold facL; rw [reachL_iff]
theorem up_num {g : Img} {t x : Int} (h : x ∈ upL g t) : numB x g.ts.length = true:=(upL_nd g t).1 x h
theorem fac_kind1 {g : Img} (W : Wel g) {t f : Int} (ht : numB t g.ts.length = true) (h : f ∈ fsI g t) : kndI g f = 2:=by
 have hf:=W.fac t ht
 unfold facB at hf
 rw [Bool.and_eq_true,Bool.and_eq_true,List.all_eq_true] at hf
 simpa using hf.1.1 f h
theorem fac_kind {g : Img} (W : Wel g) {t f : Int} (h : f ∈ facL g t) : kndI g f = 2:=by
 refine facL_iff.1 h (fun f => kndI g f = 2) (fun y hy _ => ?_) (fun y hy z hz _ => fac_kind1 W (kind_face W hy).1 hz)
 obtain ⟨u,hu,hy⟩:=List.mem_flatMap.1 hy
 exact fac_kind1 W (up_num hu) hy
theorem bel_iff {g : Img} {a b : Int} : belB g a b = true ↔ b ∈ upL g a ∨ b ∈ facL g a:=by unfold belB; rw [Bool.or_eq_true,List.contains_iff_mem,List.contains_iff_mem]
theorem fac_up {g : Img} {a b c : Int} (h : b ∈ upL g a) (hc : c ∈ facL g b) : c ∈ facL g a:=by
 refine facL_iff.2 ((facL_iff.1 hc).mono fun y hy => ?_)
 obtain ⟨u,hu,hy⟩:=List.mem_flatMap.1 hy
 refine List.mem_flatMap.2 ⟨u, ?_,hy⟩
 refine upL_iff.2 (fun S hS hT => upL_iff.1 hu S (fun y hy _ => ?_) hT)
 simp at hy; subst hy
 exact upL_iff.1 h S hS hT
theorem up_trans {g : Img} {a b c : Int} (h : b ∈ upL g a) (hc : c ∈ upL g b) : c ∈ upL g a :=
 upL_iff.2 (fun S hS hT => upL_iff.1 hc S (fun y hy _ => by simp at hy; subst hy; exact upL_iff.1 h S hS hT) hT)
theorem fac_trans {g : Img} (W : Wel g) {a b c : Int} (h : b ∈ facL g a) (hc : c ∈ facL g b) : c ∈ facL g a :=
 facL_iff.2 ((facL_iff.1 h).trans ((facL_face W (fac_kind W h)).1 hc))
theorem bel_trans {g : Img} (W : Wel g) {a b c : Int} (h1 : belB g a b = true) (h2 : belB g b c = true) : belB g a c = true:=by
 rcases bel_iff.1 h1 with h1 | h1
 ·rcases bel_iff.1 h2 with h2 | h2
  ·exact bel_iff.2 (Or.inl (up_trans h1 h2))
  ·exact bel_iff.2 (Or.inr (fac_up h1 h2))
 ·rcases bel_iff.1 h2 with h2 | h2
  ·rw [upL_face W (fac_kind W h1)] at h2
   simp at h2; subst h2
   exact bel_iff.2 (Or.inr h1)
  ·exact bel_iff.2 (Or.inr (fac_trans W h1 h2))
theorem bel_anti {g : Img} (W : Wel g) {a b : Int} (ha : numB a g.ts.length = true) (hb : numB b g.ts.length = true) (h1 : belB g a b = true) (h2 : belB g b a = true) : a = b:=by
 rcases bel_iff.1 h1 with h1 | h1
 ·rcases bel_iff.1 h2 with h2 | h2
  ·exact upL_anti W ha hb h1 h2
  ·rw [upL_face W (fac_kind W h2)] at h1
   simp at h1; exact h1.symm
 ·rcases bel_iff.1 h2 with h2 | h2
  ·rw [upL_face W (fac_kind W h1)] at h2
   simp at h2; exact h2
  ·have hk:=fac_kind W h2
   have hf:=W.fac a ha
   unfold facB at hf
   rw [Bool.and_eq_true] at hf
   have h3:=hf.2
   have hr : a ∈ reachL g.ts.length (fsI g) (fsI g a):=by
    rw [reachL_iff,← facL_face W hk]
    exact fac_trans W h1 h2
   rw [Bool.or_eq_true] at h3
   rcases h3 with h3 | h3
   ·rw [decide_eq_true_iff] at h3; exact absurd hk h3
   ·have hr':=List.contains_iff_mem.2 hr
    rw [hr'] at h3; cases h3
theorem flat_take {l : List Int} {f : Int → List Int} {q : Nat} (hq : q < l.length) : (l.take (q + 1)).flatMap f = (l.take q).flatMap f ++ f l[q]:=by
 rw [List.take_succ_eq_append_getElem hq,List.flatMap_append]; simp
end Go.Proofs.YtapocgcdjkbnhaaDoor
