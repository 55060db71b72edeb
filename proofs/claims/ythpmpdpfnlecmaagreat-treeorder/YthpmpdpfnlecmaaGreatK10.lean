/- Texts joined: TreeSpec, Contains9. -/
import Derived.Test.YthpmpdpfnlecmaaGreatK08
import Derived.Test.YthpmpdpfnlecmaaGreatK04
namespace Go.Proofs.YthpmpdpfnlecmaaGreat
set_option linter.unusedVariables false
set_option linter.unusedSimpArgs false
open Go.RowKit
/-- One of so many that is new is put behind a list. -/
def stepC (n : Nat) (l : List Int) (t : Int) : List Int := if numB t n = true ∧ l.contains t = false then l ++ [t] else l
/-- .. one by one. -/
def comeL (n : Nat) (l ts : List Int) : List Int := ts.foldl (stepC n) l
/-- Going on by steps from the i-th of a list. -/
def goL (n : Nat) (st : Int → List Int) : Nat → Nat → List Int → List Int
 | 0, _, l => l
 | k + 1, i, l => if h : i < l.length then goL n st k (i + 1) (comeL n l (st l[i])) else l
/-- What is come to from some, again and again. -/
def Rch (n : Nat) (st : Int → List Int) (from_ : List Int) (x : Int) : Prop :=
 ∀ S : Int → Prop, (∀ y ∈ from_, numB y n = true → S y) → (∀ y, S y → ∀ z ∈ st y, numB z n = true → S z) → S x
/-- Of so many, and behind the first m none twice. -/
def Nd (n m : Nat) (l : List Int) : Prop := (∀ x ∈ l, numB x n = true) ∧ (l.drop m).Nodup

theorem numB_iff {i : Int} {n : Nat} : numB i n = true ↔ 0 ≤ i ∧ i < n := by simp [numB]
theorem comeL_cons (n : Nat) (l : List Int) (t : Int) (r : List Int) : comeL n l (t :: r) = comeL n (stepC n l t) r := rfl
theorem comeL_append (n : Nat) (l a b : List Int) : comeL n l (a ++ b) = comeL n (comeL n l a) b := by simp [comeL, List.foldl_append]
theorem comeL_take {n : Nat} {l ts : List Int} {q : Nat} (hq : q < ts.length) : comeL n l (ts.take (q + 1)) = stepC n (comeL n l (ts.take q)) ts[q] := by
 rw [List.take_succ_eq_append_getElem hq, comeL_append]; rfl
theorem comeL_done {n : Nat} {l ts : List Int} {q : Nat} (hq : ¬ q < ts.length) : comeL n l (ts.take q) = comeL n l ts := by
 rw [List.take_of_length_le (by omega)]
theorem stepC_new {n : Nat} {l : List Int} {t : Int} (h1 : numB t n = true) (h2 : l.contains t = false) : stepC n l t = l ++ [t] := by unfold stepC; rw [if_pos ⟨h1, h2⟩]
theorem stepC_out {n : Nat} {l : List Int} {t : Int} (h1 : numB t n = false) : stepC n l t = l := by unfold stepC; rw [if_neg (by rw [h1]; simp)]
theorem stepC_old {n : Nat} {l : List Int} {t : Int} (h2 : l.contains t = true) : stepC n l t = l := by unfold stepC; rw [if_neg (by rw [h2]; simp)]
theorem goL_end {n : Nat} {st : Int → List Int} {k i : Nat} {l : List Int} (h : ¬ i < l.length) : goL n st k i l = l := by
 cases k with
 | zero => rfl
 | succ k => rw [goL, dif_neg h]
theorem goL_next {n : Nat} {st : Int → List Int} {k i : Nat} {l : List Int} (h : i < l.length) : goL n st (k + 1) i l = goL n st k (i + 1) (comeL n l (st l[i])) := by rw [goL, dif_pos h]

theorem stepC_pre (n : Nat) (l : List Int) (t : Int) : l <+: stepC n l t := by
 unfold stepC; split
 ·exact List.prefix_append _ _
 ·exact List.prefix_rfl
theorem comeL_pre (n : Nat) : ∀ (ts l : List Int), l <+: comeL n l ts
 | [], l => List.prefix_rfl
 | t :: r, l => (stepC_pre n l t).trans (comeL_pre n r _)
theorem goL_pre (n : Nat) (st : Int → List Int) : ∀ (k i : Nat) (l : List Int), l <+: goL n st k i l
 | 0, _, l => List.prefix_rfl
 | k + 1, i, l => by
  rw [goL]; split
  ·exact (comeL_pre n _ l).trans (goL_pre n st k _ _)
  ·exact List.prefix_rfl
theorem stepC_has {n : Nat} {l : List Int} {t : Int} (h : numB t n = true) : t ∈ stepC n l t := by
 cases hc : l.contains t with
 | true => rw [stepC_old hc]; simpa using hc
 | false => rw [stepC_new h hc]; simp
theorem comeL_has {n : Nat} : ∀ {ts l : List Int} {t : Int}, t ∈ ts → numB t n = true → t ∈ comeL n l ts
 | a :: r, l, t, ht, hn => by
  rw [comeL_cons]
  rcases List.mem_cons.1 ht with rfl | ht
  ·exact (comeL_pre n r _).subset (stepC_has hn)
  ·exact comeL_has ht hn
theorem comeL_mem {n : Nat} : ∀ {ts l : List Int} {x : Int}, x ∈ comeL n l ts → x ∈ l ∨ (x ∈ ts ∧ numB x n = true)
 | [], l, x, h => Or.inl h
 | a :: r, l, x, h => by
  rw [comeL_cons] at h
  rcases comeL_mem h with h | ⟨h1, h2⟩
  ·unfold stepC at h
   split at h
   ·rename_i hc
    rcases List.mem_append.1 h with h | h
    ·exact Or.inl h
    ·simp at h; subst h; exact Or.inr ⟨by simp, hc.1⟩
   ·exact Or.inl h
  ·exact Or.inr ⟨List.mem_cons_of_mem _ h1, h2⟩
theorem Nd.step {n m : Nat} {l : List Int} (h : Nd n m l) (t : Int) : Nd n m (stepC n l t) := by
 cases hc : l.contains t with
 | true => rw [stepC_old hc]; exact h
 | false =>
  cases hn : numB t n with
  | false => rw [stepC_out hn]; exact h
  | true =>
   rw [stepC_new hn hc]
   refine ⟨fun x hx => ?_, ?_⟩
   ·rcases List.mem_append.1 hx with hx | hx
    ·exact h.1 x hx
    ·simp at hx; subst hx; exact hn
   ·rw [List.drop_append]
    have ht : t ∉ l := by intro e; have := List.contains_iff_mem.2 e; rw [hc] at this; cases this
    refine List.nodup_append.2 ⟨h.2, ?_, ?_⟩
    ·exact (List.drop_sublist _ _).nodup (by simp)
    ·intro a ha b hb e
     subst e
     have h1 := List.mem_of_mem_drop hb
     simp at h1; subst h1
     exact ht (List.mem_of_mem_drop ha)
theorem Nd.come {n m : Nat} : ∀ {ts l : List Int}, Nd n m l → Nd n m (comeL n l ts)
 | [], l, h => h
 | t :: r, l, h => by rw [comeL_cons]; exact Nd.come (h.step t)
theorem Nd.nil (n : Nat) : Nd n 0 [] := ⟨fun x hx => absurd hx (by simp), by simp⟩
theorem nodup_len : ∀ (n : Nat) (l : List Int), l.Nodup → (∀ x ∈ l, 0 ≤ x ∧ x < (n : Int)) → l.length ≤ n
 | 0, l, _, h => by
  cases l with
  | nil => simp
  | cons a r => have := h a (by simp); omega
 | n + 1, l, hd, h => by
  have ih := nodup_len n (l.erase (n : Int)) (hd.erase _) (fun x hx => by
   have h1 := h x (List.mem_of_mem_erase hx)
   have h2 := (hd.mem_erase_iff.1 hx).1
   omega)
  rw [List.length_erase] at ih
  split at ih <;> omega
theorem Nd.len {n m : Nat} {l : List Int} (h : Nd n m l) : l.length ≤ m + n := by
 have := nodup_len n (l.drop m) h.2 (fun x hx => numB_iff.1 (h.1 x (List.mem_of_mem_drop hx)))
 rw [List.length_drop] at this
 omega

/-- Going on to the end: all that is come to, and no more. -/
theorem goL_all {n m : Nat} {st : Int → List Int} : ∀ (k i : Nat) (l : List Int), Nd n m l → i ≤ l.length → m + n < k + i → (∀ x ∈ l.take i, ∀ z ∈ st x, numB z n = true → z ∈ l) →
  Nd n m (goL n st k i l) ∧ (∀ x ∈ goL n st k i l, ∀ z ∈ st x, numB z n = true → z ∈ goL n st k i l) ∧
  (∀ S : Int → Prop, (∀ y, S y → ∀ z ∈ st y, numB z n = true → S z) → (∀ x ∈ l, S x) → ∀ x ∈ goL n st k i l, S x)
 | 0, i, l, h, hi, hk, hc => absurd h.len (by omega)
 | k + 1, i, l, h, hi, hk, hc => by
  by_cases hl : i < l.length
  ·rw [goL_next hl]
   have hp := comeL_pre n (st l[i]) l
   have hlen := hp.length_le
   have htk : (comeL n l (st l[i])).take (i + 1) = l.take (i + 1) := by
    obtain ⟨r, hr⟩ := hp
    rw [← hr, List.take_append_of_le_length (by omega)]
   obtain ⟨h1, h2, h3⟩ := goL_all k (i + 1) (comeL n l (st l[i])) h.come (by omega) (by omega) (fun x hx z hz hn => by
    rw [htk, List.take_succ_eq_append_getElem hl] at hx
    rcases List.mem_append.1 hx with hx | hx
    ·exact hp.subset (hc x hx z hz hn)
    ·simp at hx; subst hx; exact comeL_has hz hn)
   refine ⟨h1, h2, fun S hS hl' => h3 S hS (fun x hx => ?_)⟩
   rcases comeL_mem hx with hx | ⟨hx, hn⟩
   ·exact hl' x hx
   ·exact hS _ (hl' _ (List.getElem_mem hl)) x hx hn
  ·rw [goL_end hl]
   rw [List.take_of_length_le (by omega)] at hc
   exact ⟨h, hc, fun S _ hl' => hl'⟩

theorem goL_iff {n m : Nat} {st : Int → List Int} {l : List Int} {k : Nat} (h : Nd n m l) (hk : m + n < k) (x : Int) : x ∈ goL n st k 0 l ↔ Rch n st l x := by
 obtain ⟨h1, h2, h3⟩ := goL_all k 0 l h (Nat.zero_le _) (by omega) (fun x hx => by simp at hx)
 constructor
 ·intro hx S hS hT
  exact h3 S hT (fun y hy => hS y hy (h.1 y hy)) x hx
 ·intro hx
  exact hx _ (fun y hy _ => (goL_pre n st k 0 l).subset hy) h2
theorem Rch.come {n : Nat} {st : Int → List Int} {from_ : List Int} {x : Int} : Rch n st (comeL n [] from_) x ↔ Rch n st from_ x := by
 constructor
 ·intro h S hS hT
  refine h S (fun y hy hn => ?_) hT
  rcases comeL_mem hy with hy | ⟨hy, _⟩
  ·exact absurd hy (by simp)
  ·exact hS y hy hn
 ·intro h S hS hT
  exact h S (fun y hy hn => hS y (comeL_has hy hn) hn) hT
/-- What is come to, from nothing on. -/
def reachL (n : Nat) (st : Int → List Int) (from_ : List Int) : List Int := goL n st (n + 1) 0 (comeL n [] from_)
theorem reachL_nd (n : Nat) (st : Int → List Int) (from_ : List Int) : Nd n 0 (reachL n st from_) := (goL_all _ _ _ (Nd.nil n).come (Nat.zero_le _) (by omega) (fun x hx => by simp at hx)).1
theorem reachL_iff {n : Nat} {st : Int → List Int} {from_ : List Int} {x : Int} : x ∈ reachL n st from_ ↔ Rch n st from_ x := by
 unfold reachL
 rw [goL_iff (Nd.nil n).come (by omega), Rch.come]
theorem reachL_len (n : Nat) (st : Int → List Int) (from_ : List Int) : (reachL n st from_).length ≤ n := by simpa using (reachL_nd n st from_).len
theorem Rch.trans {n : Nat} {st : Int → List Int} {from_ : List Int} {y z : Int} (h : Rch n st from_ y) (h2 : Rch n st (st y) z) : Rch n st from_ z :=
 fun S hS hT => h2 S (fun u hu hn => hT y (h S hS hT) u hu hn) hT
theorem Rch.mono {n : Nat} {st : Int → List Int} {a b : List Int} {x : Int} (h : Rch n st a x) (hab : ∀ y ∈ a, y ∈ b) : Rch n st b x :=
 fun S hS hT => h S (fun y hy => hS y (hab y hy)) hT
/-- What a type extends, its faces, its flags. -/
def exI (g : Img) (t : Int) : Int := match g.ts[t.toNat]? with | some x => x.ex | none => -1
def fsI (g : Img) (t : Int) : List Int := match g.ts[t.toNat]? with | some x => x.fs | none => []
def flI (g : Img) (t : Int) : Int := match g.ts[t.toNat]? with | some x => x.fl | none => 0
theorem exI_at {g : Img} {q : Nat} (h : q < g.ts.length) : exI g (q : Int) = g.ts[q].ex := by unfold exI; rw [Int.toNat_natCast, List.getElem?_eq_getElem h]
theorem fsI_at {g : Img} {q : Nat} (h : q < g.ts.length) : fsI g (q : Int) = g.ts[q].fs := by unfold fsI; rw [Int.toNat_natCast, List.getElem?_eq_getElem h]
theorem flI_at {g : Img} {q : Nat} (h : q < g.ts.length) : flI g (q : Int) = g.ts[q].fl := by unfold flI; rw [Int.toNat_natCast, List.getElem?_eq_getElem h]
/-- Going up, as the references do. -/
def upG (g : Img) : Nat → List Int → Int → List Int
 | 0, l, _ => l
 | k + 1, l, t => if numB t g.ts.length = true ∧ l.contains t = false then upG g k (l ++ [t]) (exI g t) else l
def upL (g : Img) (t : Int) : List Int := upG g (g.ts.length + 2) [] t
def upS (g : Img) (t : Int) : List Int := [exI g t]
/-- The interfaces of all that is come to, going up. -/
def facL (g : Img) (t : Int) : List Int := reachL g.ts.length (fsI g) ((upL g t).flatMap (fsI g))
def belB (g : Img) (a b : Int) : Bool := (upL g a).contains b || (facL g a).contains b

theorem goL_up (g : Img) : ∀ (k i : Nat) (l : List Int) (h : i + 1 = l.length), goL g.ts.length (upS g) k i l = upG g k l (exI g l[i])
 | 0, i, l, h => rfl
 | k + 1, i, l, h => by
  rw [goL_next (by omega)]
  show goL _ _ k (i + 1) (stepC _ l (exI g l[i])) = _
  rw [upG]
  by_cases hc : numB (exI g l[i]) g.ts.length = true ∧ l.contains (exI g l[i]) = false
  ·rw [if_pos hc, stepC_new hc.1 hc.2, goL_up g k (i + 1) _ (by simp; omega)]
   congr 1
   simp [h]
  ·rw [if_neg hc]
   have : stepC g.ts.length l (exI g l[i]) = l := by unfold stepC; rw [if_neg hc]
   rw [this, goL_end (by omega)]
/-- Going up is going on by what is extended. -/
theorem upL_eq (g : Img) (t : Int) : reachL g.ts.length (upS g) [t] = upL g t := by
 unfold reachL upL
 show goL _ _ _ 0 (stepC _ [] t) = _
 rw [upG]
 cases hn : numB t g.ts.length with
 | true => rw [stepC_new hn (by simp), if_pos ⟨rfl, by simp⟩, List.nil_append, goL_up g _ 0 [t] rfl]; rfl
 | false => rw [stepC_out hn, if_neg (by simp), goL_end (by simp)]

/-- The flags of a type: 2 an interface, 1 a value type, 3 a delegate, 0 a class; -1 there is no such type. -/
def bitB (f : Int) (k : Nat) : Bool := f.toNat / k % 2 == 1
def kindF (f : Int) : Int := if bitB f 2 = true then 2 else if bitB f 1 = true then 1 else if bitB f 16 = true then 3 else 0
def kndI (g : Img) (t : Int) : Int := if numB t g.ts.length = true then kindF (flI g t) else -1
/-- Point 1: the flags go together. -/
def flgF (f e : Int) : Bool :=
 if kindF f = 2 then decide (e = -1) && (bitB f 4 && !bitB f 1 && !bitB f 8 && !bitB f 16)
 else if kindF f = 1 then decide (e = -1) && (bitB f 8 && !bitB f 4 && !bitB f 16)
 else if kindF f = 3 then decide (e = -1) && (bitB f 8 && !bitB f 4)
 else true
/-- Each two of a list are apart. -/
def difB {α : Type} (ap : α → α → Bool) (l : List α) : Bool := (List.range l.length).all fun i => match l[i]? with | some x => (l.take i).all (ap x) | none => true
theorem difB_iff {α : Type} {ap : α → α → Bool} {l : List α} : difB ap l = true ↔ ∀ i (h : i < l.length), (l.take i).all (ap l[i]) = true := by
 unfold difB
 rw [List.all_eq_true]
 constructor
 ·intro h i hi
  have := h i (List.mem_range.2 hi)
  rwa [List.getElem?_eq_getElem hi] at this
 ·intro h i hi
  have hi' := List.mem_range.1 hi
  rw [List.getElem?_eq_getElem hi']
  exact h i hi'
/-- Points 2, 3. -/
def extB (g : Img) (t : Int) : Bool := (decide (exI g t = -1) || (decide (kndI g (exI g t) = 0) && !bitB (flI g (exI g t)) 8)) && (match (upL g t).getLast? with | some u => decide (exI g u = -1) | none => true)
def facB (g : Img) (t : Int) : Bool := (fsI g t).all (fun f => decide (kndI g f = 2)) && difB (fun a b => a != b) (fsI g t) && (decide (kndI g t ≠ 2) || !(reachL g.ts.length (fsI g) (fsI g t)).contains t)
/-- The numbers of those of which it holds. -/
def pkN {α : Type} (p : α → Bool) : Int → List α → List Int
 | _, [] => []
 | i, c :: r => (if p c = true then [i] else []) ++ pkN p (i + 1) r
def fldN (g : Img) (t : Int) : List Int := if numB t g.ts.length = true then pkN (fun x => decide (x.ow = t)) 0 g.fs else []
def mtdN (g : Img) (t : Int) : List Int := if numB t g.ts.length = true then pkN (fun x => decide (x.ow = t)) 0 g.ms else []
/-- Point 4. -/
def fnI (g : Img) (i : Int) : ByteArray := match g.fs[i.toNat]? with | some x => x.nm | none => ByteArray.empty
def fstI (g : Img) (i : Int) : Bool := match g.fs[i.toNat]? with | some x => x.st | none => false
def fvtI (g : Img) (i : Int) : Ty := match g.fs[i.toNat]? with | some x => x.t | none => (0, 0, 0, false)
def smM (x y : MD) : Bool := decide (x.nm = y.nm ∧ x.ps = y.ps ∧ x.rt = y.rt ∧ x.fl % 2 = y.fl % 2)
def smI (g : Img) (i k : Int) : Bool := match g.ms[i.toNat]?, g.ms[k.toNat]? with | some x, some y => smM x y | _, _ => false
def tnmB (g : Img) (t : Int) : Bool := match g.ts[t.toNat]? with | some x => (List.range g.ts.length).all (fun i => decide ((i : Int) = t) || (match g.ts[i]? with | some y => decide (y.nm ≠ x.nm) | none => true)) | none => true
def nmdB (g : Img) (t : Int) : Bool := tnmB g t && difB (fun a b => decide (fnI g a ≠ fnI g b)) (fldN g t) && difB (fun a b => !smI g a b) (mtdN g t)
/-- Point 5. -/
def prtB (g : Img) (i : Int) : Bool := !fstI g i && (decide ((fvtI g i).1 = 6) && decide ((fvtI g i).2.2.1 = 0) && decide (kndI g (fvtI g i).2.1 = 1))
def prtL (g : Img) (t : Int) : List Int := ((fldN g t).filter (prtB g)).map (fun i => (fvtI g i).2.1)
def szdB (g : Img) (t : Int) : Bool :=
 if kndI g t = 2 then (fldN g t).all (fstI g)
 else if kndI g t = 3 then decide (fldN g t = [])
 else if kndI g t = 1 then !(reachL g.ts.length (prtL g) (prtL g t)).contains t
 else true
/-- What is wrong with a type: 0 nothing. -/
def errT (g : Img) (t : Int) : Int := if (flgF (flI g t) (exI g t) && extB g t && facB g t) = false then 7 else if nmdB g t = false then 18 else if szdB g t = false then 20 else 0
def wrgL (g : Img) : Nat → Nat → Int × Int
 | 0, _ => (0, 0)
 | k + 1, i => if errT g i = 0 then wrgL g k (i + 1) else ((i : Int), errT g i)
/-- Check. -/
def chkI (g : Img) : Int × Int := if imB g = true then wrgL g g.ts.length 0 else (0, 17)
def welB (g : Img) : Bool := decide ((chkI g).2 = 0)
end Go.Proofs.YthpmpdpfnlecmaaGreat

namespace Go.Proofs.YthpmpdpfnlecmaaGreat
set_option linter.unusedVariables false
set_option linter.unusedSimpArgs false
open Go.RowKit
attribute [local go_sem ↓] Go.wp_at_zero Go.wp_at_succ
/-- A function that has a body is entered. -/
theorem run_enter9 {P : Program} {f : FuncId} {fn : Func} {c : Code} (hf : P.funcs[f]? = some fn) (hname : (fn.name == "runtime.NumGoroutine") = false) (hb : fn.body = some c) (args : Array Value) (w : World) :
  (callFunc f args).run P w = .ok (.enter f args) w := by
 have h1 : ¬ fn.name = "runtime.NumGoroutine" := by simpa using hname
 simp [callFunc, hf, h1, hb]

theorem any_take9 {α : Type} {p : α → Bool} {l : List α} {q : Nat} (hq : q < l.length) (h : (l.take q).any p = false) (hx : p l[q] = false) : (l.take (q + 1)).any p = false := by
 rw [List.take_succ_eq_append_getElem hq, List.any_append, h]
 simpa using hx

/-- A function value that tells of an element, from a world on. -/
structure Tells {α : Type} (P : Program) (V : α → Value) (w : World) (f : FuncId) (bs cs : Array Value) (p : α → Bool) (l : List α) : Prop where
 enter : ∀ args W, (callFunc f args).run P W = .ok (.enter f args) W
 tells : ∀ W, Below w.heap.size w W → ∀ x ∈ l, Calls P f (bs.push (V x) ++ cs) W fun e w' => e = .returned (.bool (p x)) ∧ Below W.heap.size W w'
theorem Tells.later {α : Type} {P : Program} {V : α → Value} {w w' : World} {f : FuncId} {bs cs : Array Value} {p : α → Bool} {l : List α} (h : Tells P V w f bs cs p l) (hb : Below w.heap.size w w') : Tells P V w' f bs cs p l :=
 ⟨h.enter, fun W hW x hx => h.tells W (bstep hb hW) x hx⟩

set_option maxHeartbeats 1000000 in
theorem indexS_some {b off cap : Nat} {l : List Sp} {w : World} {f : FuncId} {bs cs : Array Value} {p : Sp → Bool} (hb : b < w.heap.size) (hc : ∀ i (hi : i < l.length), El spE w b (off + i * 2) l[i]) (hl : l.length ≤ maxLen) (hf : Tells Tryz.prog spV9 w f bs cs p l) :
  Calls Tryz.prog 262 #[.slice (some ⟨b, off, none⟩) l.length cap, .func (.func f) bs cs] w fun e w' =>
   (∃ k : Int, e = .returned (.int .i64 k) ∧ (0 ≤ k ↔ l.any p = true)) ∧ Below w.heap.size w w' := by
 unfold maxLen at hl
 have HC : Hid (∀ i (hi : i < l.length), El spE w b (off + i * 2) l[i]) := hc
 have HF : Hid (Tells Tryz.prog spV9 w f bs cs p l) := hf
 have hen := hf.enter
 clear hc hf
 go_enter Tryz.func262, Tryz.ntmps262
 go_wp2_with fail
 go_loopw [5, 8] (fun _ z wr => ∃ q : Nat, q ≤ l.length ∧ z = .int .i64 q ∧ Below w.heap.size w wr ∧ (l.take q).any p = false) (fun _ z _ => l.length - (intOf z).toNat)
 case atStart => exact ⟨0, Nat.zero_le _, rfl, Below.refl _ _, by simp⟩
 case round =>
  obtain ⟨q, hq, rfl, hB, hany⟩ := hrel
  have HAn : Hid ((l.take q).any p = false) := hany
  have hsz := hB.size
  clear hany
  by_cases hql : q < l.length
  ·obtain ⟨c0, c1⟩ := ((HC.out q hql).below hB hb).two
   have HN : Hid (p l[q] = false → (l.take (q + 1)).any p = false) := any_take9 hql HAn.out
   have HY : Hid (p l[q] = true → l.any p = true) := fun h => List.any_eq_true.2 ⟨_, List.getElem_mem hql, h⟩
   have HL : Hid (Calls Tryz.prog f (bs.push (spV9 l[q]) ++ cs) wr fun e w' => e = .returned (.bool (p l[q])) ∧ Below wr.heap.size wr w') := HF.out.tells wr hB _ (List.getElem_mem hql)
   generalize l[q] = x at *
   have HBL : Hid (Below w.heap.size w wr) := hB
   clear hB
   cases hx : p x with
   | false =>
    have H1 : Hid ((l.take (q + 1)).any p = false) := HN.out hx
    rw [hx] at HL
    go_wp2_with fail
    refine Calls.mono HL.out ?_
    rintro e w1 ⟨rfl, hb1⟩
    have hB1 := bstep HBL.out hb1
    clear hb1
    go_wp2_with fail
    go_roundw
    case rel => exact ⟨q + 1, by omega, by go_num, hB1, H1.out⟩
    case measure => simp [intOf]; omega
   | true =>
    have H1 : Hid (l.any p = true) := HY.out hx
    rw [hx] at HL
    go_wp2_with fail
    refine Calls.mono HL.out ?_
    rintro e w1 ⟨rfl, hb1⟩
    have hB1 := bstep HBL.out hb1
    clear hb1
    go_wp2_with fail
    go_ret
    exact ⟨⟨_, rfl, ⟨fun _ => H1.out, fun _ => by omega⟩⟩, hB1⟩
  ·have HF' : Hid (l.any p = false) := by
    show _ = _
    have := HAn.out
    rwa [List.take_of_length_le (by omega)] at this
   go_wp2
   go_ret
   exact ⟨⟨_, rfl, ⟨fun h => absurd h (by decide), fun h => absurd h (by rw [HF'.out]; decide)⟩⟩, hB⟩

theorem indexS_none (a : Option Addr) (cap : Nat) (f : Value) (w : World) :
  Calls Tryz.prog 262 #[.slice a 0 cap, f] w fun e w' => e = .returned (.int .i64 (-1)) ∧ w' = w := by
 go_enter Tryz.func262, Tryz.ntmps262
 go_wp2
 refine wp_loop_rounds 1 ?_; rw [rounds_succ]
 go_wp2
 go_ret
 exact ⟨rfl, rfl⟩

theorem containsS_any {v : Value} {l : List Sp} {w : World} (hX : Es spE w v l) {f : FuncId} {bs cs : Array Value} {p : Sp → Bool} (hf : Tells Tryz.prog spV9 w f bs cs p l) :
  Calls Tryz.prog 249 #[v, .func (.func f) bs cs] w fun e w' => e = .returned (.bool (l.any p)) ∧ Below w.heap.size w w' := by
 have HI : Hid (Calls Tryz.prog 262 #[v, .func (.func f) bs cs] w fun e w' => (∃ k : Int, e = .returned (.int .i64 k) ∧ (0 ≤ k ↔ l.any p = true)) ∧ Below w.heap.size w w') := by
  by_cases hne : l = []
  ·subst hne
   obtain ⟨a, c, rfl, _, _⟩ := hX.shape
   refine (indexS_none a c _ w).mono ?_
   rintro e w' ⟨rfl, rfl⟩
   exact ⟨⟨_, rfl, ⟨fun h => absurd h (by decide), fun h => by simp at h⟩⟩, Below.refl _ _⟩
  ·have hl := hX.len
   obtain ⟨b, off, cap, rfl, h1, h2, hb, hc⟩ := hX.parts hne
   exact indexS_some hb hc hl hf
 clear hX hf
 go_enter Tryz.func249, Tryz.ntmps249
 go_wp2_with fail
 refine Calls.mono HI.out ?_
 rintro e w1 ⟨⟨k, rfl, hk⟩, hb1⟩
 have HK : Hid (decide (0 ≤ k) = l.any p) := by
  show _ = _
  rw [Bool.eq_iff_iff, decide_eq_true_iff]; exact hk
 clear hk
 go_wp2
 go_ret
 exact ⟨ret_bool HK.out, hb1⟩

set_option maxHeartbeats 1000000 in
theorem indexC_some {b off cap : Nat} {l : List Cl} {w : World} {f : FuncId} {bs cs : Array Value} {p : Cl → Bool} (hb : b < w.heap.size) (hc : ∀ i (hi : i < l.length), El clE9 w b (off + i * 10) l[i]) (hl : l.length ≤ maxLen) (hf : Tells Tryz.prog clV w f bs cs p l) :
  Calls Tryz.prog 255 #[.slice (some ⟨b, off, none⟩) l.length cap, .func (.func f) bs cs] w fun e w' =>
   (∃ k : Int, e = .returned (.int .i64 k) ∧ (0 ≤ k ↔ l.any p = true)) ∧ Below w.heap.size w w' := by
 unfold maxLen at hl
 have HC : Hid (∀ i (hi : i < l.length), El clE9 w b (off + i * 10) l[i]) := hc
 have HF : Hid (Tells Tryz.prog clV w f bs cs p l) := hf
 have hen := hf.enter
 clear hc hf
 go_enter Tryz.func255, Tryz.ntmps255
 go_wp2_with fail
 go_loopw [5, 8] (fun _ z wr => ∃ q : Nat, q ≤ l.length ∧ z = .int .i64 q ∧ Below w.heap.size w wr ∧ (l.take q).any p = false) (fun _ z _ => l.length - (intOf z).toNat)
 case atStart => exact ⟨0, Nat.zero_le _, rfl, Below.refl _ _, by simp⟩
 case round =>
  obtain ⟨q, hq, rfl, hB, hany⟩ := hrel
  have HAn : Hid ((l.take q).any p = false) := hany
  have hsz := hB.size
  clear hany
  by_cases hql : q < l.length
  ·obtain ⟨c0, c1, c2, c3, c4, c5, c6, c7, c8, c9⟩ := ((HC.out q hql).below hB hb).ten
   have HN : Hid (p l[q] = false → (l.take (q + 1)).any p = false) := any_take9 hql HAn.out
   have HY : Hid (p l[q] = true → l.any p = true) := fun h => List.any_eq_true.2 ⟨_, List.getElem_mem hql, h⟩
   have HL : Hid (Calls Tryz.prog f (bs.push (clV l[q]) ++ cs) wr fun e w' => e = .returned (.bool (p l[q])) ∧ Below wr.heap.size wr w') := HF.out.tells wr hB _ (List.getElem_mem hql)
   generalize l[q] = x at *
   have HBL : Hid (Below w.heap.size w wr) := hB
   clear hB
   cases hx : p x with
   | false =>
    have H1 : Hid ((l.take (q + 1)).any p = false) := HN.out hx
    rw [hx] at HL
    go_wp2_with fail
    refine Calls.mono HL.out ?_
    rintro e w1 ⟨rfl, hb1⟩
    have hB1 := bstep HBL.out hb1
    clear hb1
    go_wp2_with fail
    go_roundw
    case rel => exact ⟨q + 1, by omega, by go_num, hB1, H1.out⟩
    case measure => simp [intOf]; omega
   | true =>
    have H1 : Hid (l.any p = true) := HY.out hx
    rw [hx] at HL
    go_wp2_with fail
    refine Calls.mono HL.out ?_
    rintro e w1 ⟨rfl, hb1⟩
    have hB1 := bstep HBL.out hb1
    clear hb1
    go_wp2_with fail
    go_ret
    exact ⟨⟨_, rfl, ⟨fun _ => H1.out, fun _ => by omega⟩⟩, hB1⟩
  ·have HF' : Hid (l.any p = false) := by
    show _ = _
    have := HAn.out
    rwa [List.take_of_length_le (by omega)] at this
   go_wp2
   go_ret
   exact ⟨⟨_, rfl, ⟨fun h => absurd h (by decide), fun h => absurd h (by rw [HF'.out]; decide)⟩⟩, hB⟩

theorem indexC_none (a : Option Addr) (cap : Nat) (f : Value) (w : World) :
  Calls Tryz.prog 255 #[.slice a 0 cap, f] w fun e w' => e = .returned (.int .i64 (-1)) ∧ w' = w := by
 go_enter Tryz.func255, Tryz.ntmps255
 go_wp2
 refine wp_loop_rounds 1 ?_; rw [rounds_succ]
 go_wp2
 go_ret
 exact ⟨rfl, rfl⟩

theorem containsC_any {v : Value} {l : List Cl} {w : World} (hX : Es clE9 w v l) {f : FuncId} {bs cs : Array Value} {p : Cl → Bool} (hf : Tells Tryz.prog clV w f bs cs p l) :
  Calls Tryz.prog 233 #[v, .func (.func f) bs cs] w fun e w' => e = .returned (.bool (l.any p)) ∧ Below w.heap.size w w' := by
 have HI : Hid (Calls Tryz.prog 255 #[v, .func (.func f) bs cs] w fun e w' => (∃ k : Int, e = .returned (.int .i64 k) ∧ (0 ≤ k ↔ l.any p = true)) ∧ Below w.heap.size w w') := by
  by_cases hne : l = []
  ·subst hne
   obtain ⟨a, c, rfl, _, _⟩ := hX.shape
   refine (indexC_none a c _ w).mono ?_
   rintro e w' ⟨rfl, rfl⟩
   exact ⟨⟨_, rfl, ⟨fun h => absurd h (by decide), fun h => by simp at h⟩⟩, Below.refl _ _⟩
  ·have hl := hX.len
   obtain ⟨b, off, cap, rfl, h1, h2, hb, hc⟩ := hX.parts hne
   exact indexC_some hb hc hl hf
 clear hX hf
 go_enter Tryz.func233, Tryz.ntmps233
 go_wp2_with fail
 refine Calls.mono HI.out ?_
 rintro e w1 ⟨⟨k, rfl, hk⟩, hb1⟩
 have HK : Hid (decide (0 ≤ k) = l.any p) := by
  show _ = _
  rw [Bool.eq_iff_iff, decide_eq_true_iff]; exact hk
 clear hk
 go_wp2
 go_ret
 exact ⟨ret_bool HK.out, hb1⟩
end Go.Proofs.YthpmpdpfnlecmaaGreat
