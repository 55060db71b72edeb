/- Texts joined: RegSpec, Cls9. -/
import Derived.Test.YthpmpdpfnlecmaaGreatK01
import Derived.Test.YthpmpdpfnlecmaaGreatRows
import Derived.Test.YthpmpdpfnlecmaaGreatK03
import Derived.Deep.RegionHeld3
import Derived.Deep.DrawnRows
import Derived.Laws.EntriesVeiled
namespace Go.Proofs.YthpmpdpfnlecmaaGreat
set_option linter.unusedVariables false
set_option linter.unusedSimpArgs false
/-- A clause: kind, what is tried, what handles, where the filter begins, a type. -/
structure Cl where
 k : Int
 tf : Int
 tt : Int
 hf : Int
 ht : Int
 fi : Int
 t0 : Int
 t1 : Int
 t2 : Int
 t3 : Bool

/-- Instructions from one up to another. -/
abbrev Sp := Int × Int
def triS (c : Cl) : Sp := (c.tf, c.tt)
def hanS (c : Cl) : Sp := (c.hf, c.ht)
def filS (c : Cl) : Sp := (c.fi, c.hf)
def spansL (c : Cl) : List Sp := if c.k = 2 then [triS c, hanS c, filS c] else [triS c, hanS c]
def partB (s o : Sp) : Bool := decide (s.1 < s.2) && decide (o.1 ≤ s.1) && decide (s.2 ≤ o.2)
def shrB (s o : Sp) : Bool := decide (max s.1 o.1 < min s.2 o.2)
def rngB (n : Int) (c : Cl) : Bool :=
 decide (1 ≤ c.k) && decide (c.k ≤ 4) && partB (triS c) (0, n) && partB (hanS c) (0, n) && (if c.k = 2 then partB (filS c) (0, n) else decide (c.fi = -1))
/-- Do two of the spans share an instruction? -/
def ovlAt (l : List Sp) (i : Nat) : Bool := (l.take i).any (shrB (l.getD i (0, 0)))
def ovlB (l : List Sp) : Bool := (List.range l.length).any (ovlAt l)
def meetB (a b : List Sp) : Bool := a.any fun s => b.any (shrB s)
def inB9 (a : List Sp) (o : Sp) : Bool := a.all fun s => partB s o && !decide (s = o)
def fitB9 (a b : List Sp) : Bool :=
 if meetB a b = true then (if a.headD (0, 0) = b.headD (0, 0) then !meetB a.tail b.tail else b.any (inB9 a)) else true
/-- What is wrong with a clause, behind others. -/
def clE (n : Int) (pre : List Cl) (c : Cl) : Int :=
 if rngB n c = true then (if ovlB (spansL c) = true then 12 else if (pre.any fun x => !fitB9 (spansL x) (spansL c)) = true then 12 else 0) else 3
def clAt (n : Int) (l : List Cl) (i : Nat) : Int := match l[i]? with
 | some c => clE n (l.take i) c
 | none => 0
theorem clAt_eq (n : Int) (l : List Cl) (i : Nat) (h : i < l.length) : clAt n l i = clE n (l.take i) l[i] := by
 simp [clAt, List.getElem?_eq_getElem h]

/-- The first of m that is wrong, and how. -/
def FirstR (f : Nat → Int) (m : Nat) (i e : Int) : Prop := (i = 0 ∧ e = 0 ∧ ∀ k, k < m → f k = 0) ∨ (∃ q, q < m ∧ i = (q : Int) ∧ e = f q ∧ f q ≠ 0 ∧ ∀ k, k < q → f k = 0)
def CheckR (n : Int) (l : List Cl) (i e : Int) : Prop := if 6 < l.length then i = 0 ∧ e = 4 else FirstR (clAt n l) l.length i e
/-- The document's answer, part by part. -/
def bnd (c : Cl) (p : Int) : Sp := if p = 1 then (c.tf, c.tt) else if p = 2 then (c.hf, c.ht) else if c.k = 2 then (c.fi, c.hf) else (0, 0)
def rmeetB (a : Cl) (p : Int) (b : Cl) (q : Int) : Bool :=
 decide ((bnd a p).1 < (bnd b q).2) && decide ((bnd b q).1 < (bnd a p).2) && decide ((bnd a p).1 < (bnd a p).2) && decide ((bnd b q).1 < (bnd b q).2)
def rwithinB (a : Cl) (p : Int) (b : Cl) (q : Int) : Bool :=
 if (bnd a p).1 = 0 ∧ (bnd a p).2 = 0 then true
 else decide ((bnd b q).1 ≤ (bnd a p).1) && decide ((bnd a p).2 ≤ (bnd b q).2) && (decide ((bnd b q).1 < (bnd a p).1) || decide ((bnd a p).2 < (bnd b q).2))
def raloneI (n : Int) (c : Cl) : Int :=
 if c.k < 1 ∨ 4 < c.k ∨ ¬ (0 ≤ c.tf ∧ c.tf < c.tt ∧ c.tt ≤ n) ∨ ¬ (0 ≤ c.hf ∧ c.hf < c.ht ∧ c.ht ≤ n) then 3
 else if (c.k = 2 ∧ (c.fi < 0 ∨ c.hf ≤ c.fi)) ∨ (c.k ≠ 2 ∧ c.fi ≠ -1) then 3
 else if (rmeetB c 1 c 2 || rmeetB c 1 c 3 || rmeetB c 2 c 3) = true then 12 else 0
def rholdB (a b : Cl) (q : Int) : Bool := decide ((bnd b q).1 < (bnd b q).2) && rwithinB a 1 b q && rwithinB a 2 b q && rwithinB a 3 b q
def rsameB (a b : Cl) : Bool := decide (a.tf = b.tf) && decide (a.tt = b.tt)
def rbadB (a b : Cl) (p q : Int) : Bool := rmeetB a p b q && !(rsameB a b && decide (p = 1) && decide (q = 1))
def rbadsB (a b : Cl) (p : Int) : Bool := rbadB a b p 1 || rbadB a b p 2 || rbadB a b p 3
def rfitB (a b : Cl) : Bool := if (rholdB a b 1 || rholdB a b 2 || rholdB a b 3) = true then true else !(rbadsB a b 1 || rbadsB a b 2 || rbadsB a b 3)
def rclE (n : Int) (pre : List Cl) (c : Cl) : Int :=
 if raloneI n c = 0 then (if (pre.any fun x => !rfitB x c) = true then 12 else 0) else raloneI n c
def rclAt (n : Int) (l : List Cl) (i : Nat) : Int := match l[i]? with
 | some c => rclE n (l.take i) c
 | none => 0
theorem rclAt_eq (n : Int) (l : List Cl) (i : Nat) (h : i < l.length) : rclAt n l i = rclE n (l.take i) l[i] := by
 simp [rclAt, List.getElem?_eq_getElem h]
def RCheckR (n : Int) (l : List Cl) (i e : Int) : Prop := if 6 < l.length then i = 0 ∧ e = 4 else FirstR (rclAt n l) l.length i e

theorem shr_iff (s o : Sp) : shrB s o = true ↔ s.1 < s.2 ∧ s.1 < o.2 ∧ o.1 < s.2 ∧ o.1 < o.2 := by
 simp only [shrB, decide_eq_true_eq, Int.max_lt, Int.lt_min]
 constructor
 ·rintro ⟨⟨a, b⟩, c, d⟩; exact ⟨a, c, b, d⟩
 ·rintro ⟨a, c, b, d⟩; exact ⟨⟨a, b⟩, c, d⟩
theorem part_iff (s o : Sp) : partB s o = true ↔ s.1 < s.2 ∧ o.1 ≤ s.1 ∧ s.2 ≤ o.2 := by
 simp only [partB, Bool.and_eq_true, decide_eq_true_eq, and_assoc]
theorem rng_iff (n : Int) (c : Cl) : rngB n c = true ↔ 1 ≤ c.k ∧ c.k ≤ 4 ∧ c.tf < c.tt ∧ 0 ≤ c.tf ∧ c.tt ≤ n ∧ c.hf < c.ht ∧ 0 ≤ c.hf ∧ c.ht ≤ n ∧ (c.k = 2 → c.fi < c.hf ∧ 0 ≤ c.fi ∧ c.hf ≤ n) ∧ (c.k ≠ 2 → c.fi = -1) := by
 obtain ⟨k, tf, tt, hf, ht, fi, t0, t1, t2, t3⟩ := c
 by_cases hk : k = 2
 ·simp only [rngB, Bool.and_eq_true, decide_eq_true_eq, part_iff, triS, hanS, filS, hk, if_true, true_implies, ne_eq, not_true_eq_false, false_implies, and_true, and_assoc]
 ·simp only [rngB, Bool.and_eq_true, decide_eq_true_eq, part_iff, triS, hanS, filS, hk, if_false, false_implies, ne_eq, not_false_eq_true, true_implies, true_and, and_assoc]
theorem ovl_two (a b : Sp) : ovlB [a, b] = shrB b a := by
 simp [ovlB, ovlAt, List.range, List.range.loop]
theorem ovl_three (a b c : Sp) : ovlB [a, b, c] = (shrB b a || (shrB c a || shrB c b)) := by
 simp [ovlB, ovlAt, List.range, List.range.loop]
theorem ovl_iff (c : Cl) : ovlB (spansL c) = true ↔ shrB (hanS c) (triS c) = true ∨ (c.k = 2 ∧ (shrB (filS c) (triS c) = true ∨ shrB (filS c) (hanS c) = true)) := by
 by_cases hk : c.k = 2
 ·simp only [spansL, hk, if_true, ovl_three, Bool.or_eq_true, true_and]
 ·simp only [spansL, hk, if_false, ovl_two, false_and, or_false]
theorem rmeet_iff (a : Cl) (p : Int) (b : Cl) (q : Int) : rmeetB a p b q = shrB (bnd a p) (bnd b q) := by
 rw [Bool.eq_iff_iff, shr_iff]
 simp only [rmeetB, Bool.and_eq_true, decide_eq_true_eq]
 constructor
 ·rintro ⟨⟨⟨a, b⟩, c⟩, d⟩; exact ⟨c, a, b, d⟩
 ·rintro ⟨c, a, b, d⟩; exact ⟨⟨⟨a, b⟩, c⟩, d⟩
theorem bnd1 (c : Cl) : bnd c 1 = triS c := rfl
theorem bnd2 (c : Cl) : bnd c 2 = hanS c := rfl
theorem bnd3 (c : Cl) : bnd c 3 = if c.k = 2 then filS c else (0, 0) := rfl

/-- Both are one. -/
theorem alone_eq (n : Int) (c : Cl) : raloneI n c = (if rngB n c = true then (if ovlB (spansL c) = true then 12 else 0) else 3) := by
 have h1 := rng_iff n c
 have h2 := ovl_iff c
 have h3 : (rmeetB c 1 c 2 || rmeetB c 1 c 3 || rmeetB c 2 c 3) = true ↔ ovlB (spansL c) = true := by
  rw [h2]
  simp only [Bool.or_eq_true, rmeet_iff, bnd1, bnd2, bnd3]
  by_cases hk : c.k = 2
  ·simp only [hk, if_true, true_and, shr_iff]; constructor <;> (intro h; omega)
  ·simp only [hk, if_false, false_and, or_false, shr_iff]; constructor <;> (intro h; omega)
 unfold raloneI
 by_cases hr : rngB n c = true
 ·have hr' := h1.1 hr
  rw [if_neg (by omega), if_neg (by omega), if_pos hr]
  by_cases ho : ovlB (spansL c) = true
  ·rw [if_pos (h3.2 ho), if_pos ho]
  ·rw [if_neg (fun h => ho (h3.1 h)), if_neg ho]
 ·have hr' := fun h => hr (h1.2 h)
  rw [if_neg hr]
  split
  ·rfl
  ·rw [if_pos (Classical.byContradiction fun hB => hr' ⟨by omega, by omega, by omega, by omega, by omega, by omega, by omega, by omega, fun hk => by omega, fun hk => by omega⟩)]

theorem fit_eq (n : Int) (a b : Cl) (ha : rngB n a = true) (hb : rngB n b = true) (oa : ovlB (spansL a) = false) (ob : ovlB (spansL b) = false) : rfitB a b = fitB9 (spansL a) (spansL b) := by
 rw [rng_iff] at ha hb
 have oa' : ¬ ovlB (spansL a) = true := by rw [oa]; decide
 have ob' : ¬ ovlB (spansL b) = true := by rw [ob]; decide
 rw [ovl_iff] at oa' ob'
 have hmeet : (meetB (spansL a) (spansL b) = true) ↔ (rmeetB a 1 b 1 || rmeetB a 1 b 2 || rmeetB a 1 b 3 || rmeetB a 2 b 1 || rmeetB a 2 b 2 || rmeetB a 2 b 3 || rmeetB a 3 b 1 || rmeetB a 3 b 2 || rmeetB a 3 b 3) = true := by
  have z : ∀ s : Sp, shrB (0, 0) s = false ∧ shrB s (0, 0) = false := fun s => ⟨by rw [Bool.eq_false_iff, ne_eq, shr_iff]; omega, by rw [Bool.eq_false_iff, ne_eq, shr_iff]; omega⟩
  by_cases h1 : a.k = 2 <;> by_cases h2 : b.k = 2 <;> simp [spansL, h1, h2, meetB, rmeet_iff, bnd1, bnd2, bnd3, z, or_assoc]
 have hcell : ∀ (s o : Sp), (partB s o && !decide (s = o)) = true ↔ s.1 < s.2 ∧ o.1 ≤ s.1 ∧ s.2 ≤ o.2 ∧ (o.1 < s.1 ∨ s.2 < o.2) := by
  intro s o
  obtain ⟨s1, s2⟩ := s
  obtain ⟨o1, o2⟩ := o
  simp only [Bool.and_eq_true, part_iff, Bool.not_eq_true', decide_eq_false_iff_not, Prod.mk.injEq]
  omega
 have hhold : ∀ q : Int, (rholdB a b q = true) ↔ ((bnd b q).1 < (bnd b q).2 ∧ inB9 (spansL a) (bnd b q) = true) := by
  intro q
  have hw : ∀ p : Int, (bnd a p).1 < (bnd a p).2 → (rwithinB a p b q = true ↔ (partB (bnd a p) (bnd b q) && !decide (bnd a p = bnd b q)) = true) := by
   intro p hp
   rw [hcell]
   unfold rwithinB
   rw [if_neg (by omega)]
   simp only [Bool.and_eq_true, Bool.or_eq_true, decide_eq_true_eq]
   omega
  have w1 := hw 1 (by rw [bnd1]; exact ha.2.2.1)
  have w2 := hw 2 (by rw [bnd2]; exact ha.2.2.2.2.2.1)
  rw [bnd1] at w1
  rw [bnd2] at w2
  by_cases h1 : a.k = 2
  ·have w3 := hw 3 (by rw [bnd3, if_pos h1]; exact (ha.2.2.2.2.2.2.2.2.1 h1).1)
   rw [bnd3, if_pos h1] at w3
   simp only [rholdB, Bool.and_eq_true (rwithinB _ _ _ _), Bool.and_eq_true (decide _ && rwithinB _ _ _ _), Bool.and_eq_true (decide _ && rwithinB _ _ _ _ && rwithinB _ _ _ _), Bool.and_eq_true (decide _), decide_eq_true_eq, w1, w2, w3, inB9, spansL, h1, if_true, List.all_cons, List.all_nil, Bool.and_true]
   simp only [Bool.and_eq_true, and_assoc]
  ·have w3 : rwithinB a 3 b q = true := by
    unfold rwithinB
    rw [bnd3, if_neg h1]
    simp
   simp only [rholdB, w3, Bool.and_true]
   simp only [Bool.and_eq_true (decide _ && rwithinB _ _ _ _), Bool.and_eq_true (decide _), decide_eq_true_eq, w1, w2, inB9, spansL, h1, if_false, List.all_cons, List.all_nil, Bool.and_true]
   simp only [Bool.and_eq_true, and_assoc]
 have hany : (rholdB a b 1 || rholdB a b 2 || rholdB a b 3) = true ↔ (spansL b).any (inB9 (spansL a)) = true := by
  have l1 : (triS b).1 < (triS b).2 := hb.2.2.1
  have l2 : (hanS b).1 < (hanS b).2 := hb.2.2.2.2.2.1
  simp only [Bool.or_eq_true, hhold, bnd1, bnd2, bnd3]
  by_cases h2 : b.k = 2
  ·have l3 : (filS b).1 < (filS b).2 := (hb.2.2.2.2.2.2.2.2.1 h2).1
   simp only [spansL, h2, if_true, List.any_cons, List.any_nil, Bool.or_eq_true, l1, l2, l3, true_and, or_assoc, Bool.false_eq_true, or_false]
  ·simp only [spansL, h2, if_false, List.any_cons, List.any_nil, Bool.or_eq_true, l1, l2, true_and, or_assoc, Bool.false_eq_true, or_false, Int.lt_irrefl, false_and]
 have hsame : rsameB a b = true ↔ triS a = triS b := by simp [rsameB, triS]
 unfold rfitB fitB9
 have hd : (spansL a).headD (0, 0) = triS a ∧ (spansL b).headD (0, 0) = triS b := by unfold spansL; constructor <;> split <;> rfl
 rw [hd.1, hd.2]
 by_cases hm : meetB (spansL a) (spansL b) = true
 ·rw [if_pos hm]
  by_cases hs : triS a = triS b
  ·rw [if_pos hs]
   have hno : ¬ (spansL b).any (inB9 (spansL a)) = true := by
    intro h
    rw [List.any_eq_true] at h
    obtain ⟨o, ho, hin⟩ := h
    have hta : triS a ∈ spansL a := by unfold spansL; split <;> simp
    have := List.all_eq_true.1 hin _ hta
    rw [hcell, hs] at this
    have lt : (triS b).1 < (triS b).2 := hb.2.2.1
    have hco : o = triS b ∨ o = hanS b ∨ (b.k = 2 ∧ o = filS b) := by
     unfold spansL at ho
     split at ho
     ·simp at ho; rcases ho with h | h | h
      ·exact .inl h
      ·exact .inr (.inl h)
      ·exact .inr (.inr ⟨by assumption, h⟩)
     ·simp at ho; rcases ho with h | h
      ·exact .inl h
      ·exact .inr (.inl h)
    rcases hco with rfl | rfl | ⟨hk, rfl⟩
    ·omega
    ·exact ob' (.inl (by rw [shr_iff]; omega))
    ·exact ob' (.inr ⟨hk, .inl (by rw [shr_iff]; omega)⟩)
   rw [if_neg (fun h => hno (hany.1 h))]
   congr 1
   have hsT : rsameB a b = true := hsame.2 hs
   have e12 : rmeetB a 1 b 2 = false := by
    rw [rmeet_iff, bnd1, bnd2, hs, Bool.eq_false_iff, ne_eq, shr_iff]
    intro h; exact ob' (.inl (by rw [shr_iff]; omega))
   have e13 : rmeetB a 1 b 3 = false := by
    rw [rmeet_iff, bnd1, bnd3, hs, Bool.eq_false_iff, ne_eq, shr_iff]
    intro h
    split at h
    ·rename_i hk; exact ob' (.inr ⟨hk, .inl (by rw [shr_iff]; omega)⟩)
    ·omega
   have e21 : rmeetB a 2 b 1 = false := by
    rw [rmeet_iff, bnd1, bnd2, ← hs, Bool.eq_false_iff, ne_eq, shr_iff]
    intro h; exact oa' (.inl (by rw [shr_iff]; omega))
   have e31 : rmeetB a 3 b 1 = false := by
    rw [rmeet_iff, bnd1, bnd3, ← hs, Bool.eq_false_iff, ne_eq, shr_iff]
    intro h
    split at h
    ·rename_i hk; exact oa' (.inr ⟨hk, .inl (by rw [shr_iff]; omega)⟩)
    ·omega
   have z : ∀ s : Sp, shrB (0, 0) s = false ∧ shrB s (0, 0) = false := fun s => ⟨by rw [Bool.eq_false_iff, ne_eq, shr_iff]; omega, by rw [Bool.eq_false_iff, ne_eq, shr_iff]; omega⟩
   simp only [rbadsB, rbadB, hsT, e12, e13, e21, e31]
   by_cases h1 : a.k = 2 <;> by_cases h2 : b.k = 2 <;> simp [spansL, h1, h2, meetB, rmeet_iff, bnd1, bnd2, bnd3, z, Bool.or_assoc]
  ·rw [if_neg hs]
   have hsF : rsameB a b = false := by rw [Bool.eq_false_iff]; exact fun h => hs (hsame.1 h)
   have hbad : (rbadsB a b 1 || rbadsB a b 2 || rbadsB a b 3) = true := by
    rw [hmeet] at hm
    simp only [rbadsB, rbadB, hsF, Bool.false_and, Bool.not_false, Bool.and_true]
    rw [← hm]
    simp only [Bool.or_assoc]
   rw [hbad]
   by_cases ha' : (spansL b).any (inB9 (spansL a)) = true
   ·rw [if_pos (hany.2 ha'), ha']
   ·rw [if_neg (fun h => ha' (hany.1 h)), Bool.eq_false_iff.2 ha']; rfl
 ·rw [if_neg hm]
  have hm' := fun h => hm (hmeet.2 h)
  simp only [Bool.or_eq_true, not_or] at hm'
  split
  ·rfl
  ·simp only [rbadsB, rbadB]
   have f11 : rmeetB a 1 b 1 = false := Bool.eq_false_iff.2 fun h => hm' (by simp [h])
   have f12 : rmeetB a 1 b 2 = false := Bool.eq_false_iff.2 fun h => hm' (by simp [h])
   have f13 : rmeetB a 1 b 3 = false := Bool.eq_false_iff.2 fun h => hm' (by simp [h])
   have f21 : rmeetB a 2 b 1 = false := Bool.eq_false_iff.2 fun h => hm' (by simp [h])
   have f22 : rmeetB a 2 b 2 = false := Bool.eq_false_iff.2 fun h => hm' (by simp [h])
   have f23 : rmeetB a 2 b 3 = false := Bool.eq_false_iff.2 fun h => hm' (by simp [h])
   have f31 : rmeetB a 3 b 1 = false := Bool.eq_false_iff.2 fun h => hm' (by simp [h])
   have f32 : rmeetB a 3 b 2 = false := Bool.eq_false_iff.2 fun h => hm' (by simp [h])
   have f33 : rmeetB a 3 b 3 = false := Bool.eq_false_iff.2 fun h => hm' (by simp [h])
   rw [f11, f12, f13, f21, f22, f23, f31, f32, f33]; rfl

theorem cl_ok {n : Int} {pre : List Cl} {c : Cl} (h : clE n pre c = 0) : rngB n c = true ∧ ovlB (spansL c) = false ∧ ∀ x ∈ pre, fitB9 (spansL x) (spansL c) = true := by
 unfold clE at h
 split at h
 ·rename_i hr
  split at h
  ·exact absurd h (by decide)
  ·rename_i ho
   split at h
   ·exact absurd h (by decide)
   ·rename_i ha
    refine ⟨hr, Bool.eq_false_iff.2 ho, fun x hx => ?_⟩
    rw [List.any_eq_true] at ha
    cases hf : fitB9 (spansL x) (spansL c) with
    | true => rfl
    | false => exact absurd ⟨x, hx, by rw [hf]; rfl⟩ ha
 ·exact absurd h (by decide)

theorem any_congr9 {α : Type} {p q : α → Bool} : ∀ {l : List α}, (∀ x ∈ l, p x = q x) → l.any p = l.any q
 | [], _ => rfl
 | x :: r, h => by rw [List.any_cons, List.any_cons, h x (by simp), any_congr9 (fun y hy => h y (by simp [hy]))]

theorem rcl_eq (n : Int) (l : List Cl) (q : Nat) (hq : q < l.length) (h : ∀ k, k < q → clAt n l k = 0) : rclAt n l q = clAt n l q := by
 rw [rclAt_eq n l q hq, clAt_eq n l q hq]
 unfold rclE clE
 rw [alone_eq]
 by_cases hr : rngB n l[q] = true
 ·rw [if_pos hr, if_pos hr]
  by_cases ho : ovlB (spansL l[q]) = true
  ·rw [if_pos ho, if_pos ho]; rfl
  ·rw [if_neg ho, if_neg ho, if_pos rfl]
   have : ((l.take q).any fun x => !rfitB x l[q]) = ((l.take q).any fun x => !fitB9 (spansL x) (spansL l[q])) := by
    refine any_congr9 fun x hx => ?_
    obtain ⟨k, hk, rfl⟩ := List.mem_take_iff_getElem.1 hx
    have hkq : k < q := by omega
    have h0 := h k hkq
    rw [clAt_eq n l k (by omega)] at h0
    obtain ⟨h1, h2, _⟩ := cl_ok h0
    rw [fit_eq n _ _ h1 hr h2 (Bool.eq_false_iff.2 ho)]
   rw [this]
 ·rw [if_neg hr, if_neg hr]; rfl

/-- Clauses are right. -/
def RightL (n : Int) (l : List Cl) : Prop := l.length ≤ 6 ∧ ∀ k, k < l.length → clAt n l k = 0
theorem check_right {n : Int} {l : List Cl} {i e : Int} (h : CheckR n l i e) : (e = 0 ↔ RightL n l) := by
 unfold CheckR at h
 split at h
 ·exact ⟨fun he => by omega, fun ⟨h1, _⟩ => by omega⟩
 ·rename_i hl
  rcases h with ⟨_, rfl, h⟩ | ⟨q, hq, _, rfl, hne, _⟩
  ·exact ⟨fun _ => ⟨by omega, h⟩, fun _ => rfl⟩
  ·exact ⟨fun he => absurd he hne, fun ⟨_, h2⟩ => h2 q hq⟩
theorem rcheck_right {n : Int} {l : List Cl} {i e : Int} (h : RCheckR n l i e) : (e = 0 ↔ RightL n l) := by
 unfold RCheckR at h
 split at h
 ·exact ⟨fun he => by omega, fun ⟨h1, _⟩ => by omega⟩
 ·rename_i hl
  have both : ∀ q, q ≤ l.length → ((∀ k, k < q → rclAt n l k = 0) → ∀ k, k < q → clAt n l k = 0) := by
   intro q
   induction q with
   | zero => intro _ _ k hk; omega
   | succ q ih =>
    intro hq hg k hk
    have h1 := ih (by omega) (fun k hk => hg k (by omega))
    rcases Nat.lt_or_ge k q with h | h
    ·exact h1 k h
    ·obtain rfl : k = q := by omega
     rw [← rcl_eq n l k (by omega) h1]; exact hg k (by omega)
  rcases h with ⟨_, rfl, h⟩ | ⟨q, hq, _, rfl, hne, hk⟩
  ·exact ⟨fun _ => ⟨by omega, both _ (Nat.le_refl _) h⟩, fun _ => rfl⟩
  ·exact ⟨fun he => absurd he hne, fun ⟨_, h2⟩ => by rw [rcl_eq n l q hq (fun k hk' => h2 k (by omega))]; exact h2 q hq⟩
end Go.Proofs.YthpmpdpfnlecmaaGreat

namespace Go.Proofs.YthpmpdpfnlecmaaGreat
set_option linter.unusedVariables false
set_option linter.unusedSimpArgs false
open Go.RowKit
attribute [local go_sem ↓] Go.wp_at_zero Go.wp_at_succ
/-- The cells of a clause, a span, a link, a region. -/
def clC (c : Cl) : List Value := [.int .i64 c.k, .int .i64 c.tf, .int .i64 c.tt, .int .i64 c.hf, .int .i64 c.ht, .int .i64 c.fi, .int .i64 c.t0, .int .i64 c.t1, .int .i64 c.t2, .bool c.t3]
def clE9 : Enc Cl := ⟨clC, 10, by decide, fun _ => rfl, fun x u hu => by
 simp only [clC, List.mem_cons, List.not_mem_nil, or_false] at hu
 rcases hu with rfl | rfl | rfl | rfl | rfl | rfl | rfl | rfl | rfl | rfl <;> rfl⟩
def spC (s : Sp) : List Value := [.int .i64 s.1, .int .i64 s.2]
def spE : Enc Sp := ⟨spC, 2, by decide, fun _ => rfl, fun x u hu => by
 simp only [spC, List.mem_cons, List.not_mem_nil, or_false] at hu
 rcases hu with rfl | rfl <;> rfl⟩

/-- A clause, a span as values. -/
def clV (c : Cl) : Value := .agg #[.int .i64 c.k, .int .i64 c.tf, .int .i64 c.tt, .int .i64 c.hf, .int .i64 c.ht, .int .i64 c.fi, .int .i64 c.t0, .int .i64 c.t1, .int .i64 c.t2, .bool c.t3]
def spV9 (s : Sp) : Value := .agg #[.int .i64 s.1, .int .i64 s.2]

/-- Ten cells at a place hold this clause; two this span. -/
def Ten (w : World) (b o : Nat) (c : Cl) : Prop := w.cell? ⟨b, o, none⟩ = some (.int .i64 c.k) ∧ w.cell? ⟨b, o + 1, none⟩ = some (.int .i64 c.tf) ∧ w.cell? ⟨b, o + 2, none⟩ = some (.int .i64 c.tt) ∧ w.cell? ⟨b, o + 3, none⟩ = some (.int .i64 c.hf) ∧
 w.cell? ⟨b, o + 4, none⟩ = some (.int .i64 c.ht) ∧ w.cell? ⟨b, o + 5, none⟩ = some (.int .i64 c.fi) ∧ w.cell? ⟨b, o + 6, none⟩ = some (.int .i64 c.t0) ∧ w.cell? ⟨b, o + 7, none⟩ = some (.int .i64 c.t1) ∧ w.cell? ⟨b, o + 8, none⟩ = some (.int .i64 c.t2) ∧ w.cell? ⟨b, o + 9, none⟩ = some (.bool c.t3)
def Two9 (w : World) (b o : Nat) (s : Sp) : Prop := w.cell? ⟨b, o, none⟩ = some (.int .i64 s.1) ∧ w.cell? ⟨b, o + 1, none⟩ = some (.int .i64 s.2)
theorem El.ten {w : World} {b o : Nat} {c : Cl} (h : El clE9 w b o c) : Ten w b o c :=
 ⟨h 0 _ rfl, h 1 _ rfl, h 2 _ rfl, h 3 _ rfl, h 4 _ rfl, h 5 _ rfl, h 6 _ rfl, h 7 _ rfl, h 8 _ rfl, h 9 _ rfl⟩
theorem El.two {w : World} {b o : Nat} {s : Sp} (h : El spE w b o s) : Two9 w b o s := ⟨h 0 _ rfl, h 1 _ rfl⟩

theorem triedBy_any (c : Cl) (w : World) :
  Calls Tryz.prog 245 #[clV c] w fun e w' => e = .returned (spV9 (triS c)) ∧ Below w.heap.size w w' := by
 unfold clV
 have hb0 : Hid (Below w.heap.size w (w.alloc (.cells (clC c).toArray 101))) := (Below.refl _ _).alloc (Nat.le_refl _) _
 go_enter Tryz.func245, Tryz.ntmps245
 go_wp2
 exact bodyPost_ret (v := spV9 (triS c)) (by simp [results, Tryz.results245, go_sem, spV9, triS]) rfl ⟨rfl, hb0.out.alloc (by simp) _⟩
theorem handledBy_any (c : Cl) (w : World) :
  Calls Tryz.prog 246 #[clV c] w fun e w' => e = .returned (spV9 (hanS c)) ∧ Below w.heap.size w w' := by
 unfold clV
 have hb0 : Hid (Below w.heap.size w (w.alloc (.cells (clC c).toArray 101))) := (Below.refl _ _).alloc (Nat.le_refl _) _
 go_enter Tryz.func246, Tryz.ntmps246
 go_wp2
 exact bodyPost_ret (v := spV9 (hanS c)) (by simp [results, Tryz.results246, go_sem, spV9, hanS]) rfl ⟨rfl, hb0.out.alloc (by simp) _⟩
theorem filterOf_any (c : Cl) (w : World) :
  Calls Tryz.prog 247 #[clV c] w fun e w' => e = .returned (spV9 (filS c)) ∧ Below w.heap.size w w' := by
 unfold clV
 have hb0 : Hid (Below w.heap.size w (w.alloc (.cells (clC c).toArray 101))) := (Below.refl _ _).alloc (Nat.le_refl _) _
 go_enter Tryz.func247, Tryz.ntmps247
 go_wp2
 exact bodyPost_ret (v := spV9 (filS c)) (by simp [results, Tryz.results247, go_sem, spV9, filS]) rfl ⟨rfl, hb0.out.alloc (by simp) _⟩
theorem isPartOf_any (s o : Sp) (w : World) :
  Calls Tryz.prog 253 #[spV9 s, spV9 o] w fun e w' => e = .returned (.bool (partB s o)) ∧ Below w.heap.size w w' := by
 have hb0 : Hid (Below w.heap.size w ((w.alloc (.cells (spC s).toArray 202)).alloc (.cells (spC o).toArray 202))) := ((Below.refl _ _).alloc (Nat.le_refl _) _).alloc (by simp) _
 unfold spV9
 go_enter Tryz.func253, Tryz.ntmps253
 go_wp2
 all_goals go_ret
 all_goals refine ⟨ret_bool ?_, hb0.out⟩
 all_goals (simp_all [partB] <;> omega)
theorem shares9_any (s o : Sp) (w : World) :
  Calls Tryz.prog 254 #[spV9 s, spV9 o] w fun e w' => e = .returned (.bool (shrB s o)) ∧ Below w.heap.size w w' := by
 have hb0 : Hid (Below w.heap.size w ((w.alloc (.cells (spC s).toArray 202)).alloc (.cells (spC o).toArray 202))) := ((Below.refl _ _).alloc (Nat.le_refl _) _).alloc (by simp) _
 unfold spV9
 go_enter Tryz.func254, Tryz.ntmps254
 go_wp2
 all_goals go_ret
 all_goals refine ⟨ret_bool ?_, hb0.out⟩
 all_goals (rw [Bool.eq_iff_iff, shr_iff]; simp only [decide_eq_true_eq]; (repeat' split) <;> omega)

theorem bstep {w w1 w2 : World} (h : Below w.heap.size w w1) (h2 : Below w1.heap.size w1 w2) : Below w.heap.size w w2 := h.trans (h2.mono h.size)
theorem bdrew (w : World) : Below w.heap.size w w.drew := Below.drewN (Below.refl w.heap.size w) 1
theorem bbox {w w1 : World} (h : Below w.heap.size w w1) (o : Obj) : Below w.heap.size w (w1.alloc o) := h.alloc h.size o

theorem Tryz.infoSpan : (Tryz.prog.info? 202).map (fun i => (i.zero, i.size, i.bytes)) = some (some (.agg #[.int .i64 0, .int .i64 0]), 2, 16) := by kernel_rfl

/-- A clause in a block of its own. -/
theorem At.ten {w : World} {g : Nat} {c : Cl} (h : At w g (clC c).toArray 101) : Ten w g 0 c :=
 ⟨h.cell 0, h.cell 1, h.cell 2, h.cell 3, h.cell 4, h.cell 5, h.cell 6, h.cell 7, h.cell 8, h.cell 9⟩

set_option maxHeartbeats 1000000 in
theorem spansOf_any (c : Cl) (w : World) :
  Calls Tryz.prog 228 #[clV c] w fun e w' => ∃ v, e = .returned v ∧ OwnE spE w' w.heap.size 202 v (spansL c) ∧ Below w.heap.size w w' := by
 obtain ⟨w0, hw0⟩ : ∃ W, W = w.alloc (.cells #[.int .i64 c.k, .int .i64 c.tf, .int .i64 c.tt, .int .i64 c.hf, .int .i64 c.ht, .int .i64 c.fi, .int .i64 c.t0, .int .i64 c.t1, .int .i64 c.t2, .bool c.t3] 101) := ⟨_, rfl⟩
 have HW0 : Hid (w0 = _) := hw0
 have HB0 : Hid (Below w.heap.size w w0) := by rw [hw0]; exact (Below.refl _ _).alloc (Nat.le_refl _) _
 have hA : At w0 w.heap.size (clC c).toArray 101 := by rw [hw0]; exact At.made w (clC c).toArray _
 have HK : Hid (∀ w', Below w0.heap.size w0 w' → Ten w' w.heap.size 0 c) := fun w' hb => (hA.later hb).ten
 have HA : Hid (At w0 w.heap.size (clC c).toArray 101) := hA
 have HV : Hid (∀ w', Below w.heap.size w w' → OwnE spE (w'.alloc (.cells #[.int .i64 c.tf, .int .i64 c.tt, .int .i64 c.hf, .int .i64 c.ht] 202)) w.heap.size 202 (.slice (some ⟨w'.heap.size, 0, none⟩) 2 2) [triS c, hanS c]) := fun w' hb => OwnE.lit spE w' w.heap.size 202 [triS c, hanS c] _ 2 hb.size rfl rfl (by simp [maxLen])
 have HT : Hid _ := hA.ten
 clear hA hw0
 unfold clV
 go_enter Tryz.func228, Tryz.ntmps228
 go_wp2_with fail
 rw [← HW0.out]
 obtain ⟨c0, c1, c2, c3, c4, c5, c6, c7, c8, c9⟩ := HT.out
 have HTR : Hid (∀ W, Calls Tryz.prog 245 #[.agg #[.int .i64 c.k, .int .i64 c.tf, .int .i64 c.tt, .int .i64 c.hf, .int .i64 c.ht, .int .i64 c.fi, .int .i64 c.t0, .int .i64 c.t1, .int .i64 c.t2, .bool c.t3]] W fun e w' => e = .returned (.agg #[.int .i64 c.tf, .int .i64 c.tt]) ∧ Below W.heap.size W w') := fun W => triedBy_any c W
 have HHA : Hid (∀ W, Calls Tryz.prog 246 #[.agg #[.int .i64 c.k, .int .i64 c.tf, .int .i64 c.tt, .int .i64 c.hf, .int .i64 c.ht, .int .i64 c.fi, .int .i64 c.t0, .int .i64 c.t1, .int .i64 c.t2, .bool c.t3]] W fun e w' => e = .returned (.agg #[.int .i64 c.hf, .int .i64 c.ht]) ∧ Below W.heap.size W w') := fun W => handledBy_any c W
 have HFI : Hid (∀ W, Calls Tryz.prog 247 #[.agg #[.int .i64 c.k, .int .i64 c.tf, .int .i64 c.tt, .int .i64 c.hf, .int .i64 c.ht, .int .i64 c.fi, .int .i64 c.t0, .int .i64 c.t1, .int .i64 c.t2, .bool c.t3]] W fun e w' => e = .returned (.agg #[.int .i64 c.fi, .int .i64 c.hf]) ∧ Below W.heap.size W w') := fun W => filterOf_any c W
 go_region_held3 (fun w' => w'.cell? ⟨w.heap.size, 0, none⟩ = some (.int .i64 c.k) ∧ w'.cell? ⟨w.heap.size, 1, none⟩ = some (.int .i64 c.tf) ∧ w'.cell? ⟨w.heap.size, 2, none⟩ = some (.int .i64 c.tt) ∧ w'.cell? ⟨w.heap.size, 3, none⟩ = some (.int .i64 c.hf) ∧ w'.cell? ⟨w.heap.size, 4, none⟩ = some (.int .i64 c.ht) ∧ w'.cell? ⟨w.heap.size, 5, none⟩ = some (.int .i64 c.fi) ∧ w'.cell? ⟨w.heap.size, 6, none⟩ = some (.int .i64 c.t0) ∧ w'.cell? ⟨w.heap.size, 7, none⟩ = some (.int .i64 c.t1) ∧ w'.cell? ⟨w.heap.size, 8, none⟩ = some (.int .i64 c.t2) ∧ w'.cell? ⟨w.heap.size, 9, none⟩ = some (.bool c.t3))
  (first | (exact HK.out _ (bdrew _)) | (exact HK.out _ (bstep (bdrew _) hb1)) | (exact HK.out _ (bstep (bstep (bdrew _) hb1) hb2)) | (exact HK.out _ (bbox (bstep (bstep (bdrew _) hb1) hb2) _)))
  (first | (go_at_call 245; refine (HTR.out _).mono ?_; rintro e w1 ⟨rfl, hb1⟩) | (go_at_call 246; refine (HHA.out _).mono ?_; rintro e w2 ⟨rfl, hb2⟩))
 rename_i hheld
 clear hheld
 have hb2' := bstep (bstep (bdrew _) hb1) hb2
 obtain ⟨w3, hw3⟩ : ∃ W, W = w2.alloc (.cells #[.int .i64 c.tf, .int .i64 c.tt, .int .i64 c.hf, .int .i64 c.ht] 202) := ⟨_, rfl⟩
 have HW3 : Hid (w3 = _) := hw3
 have hb3 : Below w0.heap.size w0 w3 := by rw [hw3]; exact bbox hb2' _
 have HO3 : Hid (OwnE spE w3 w.heap.size 202 (.slice (some ⟨w2.heap.size, 0, none⟩) 2 2) [triS c, hanS c]) := by
  rw [hw3]; exact HV.out w2 (bstep HB0.out hb2')
 have HB3 : Hid (Below w.heap.size w w3) := bstep HB0.out hb3
 replace HT : Hid _ := HK.out w3 hb3
 have HK3 : Hid (∀ w', Below w3.heap.size w3 w' → Ten w' w.heap.size 0 c) := fun w' hb => HK.out w' (bstep hb3 hb)
 clear hw3 hb1 hb2 hb2' hb3 c0 c1 c2 c3 c4 c5 c6 c7 c8 c9
 obtain ⟨c0, c1, c2, c3, c4, c5, c6, c7, c8, c9⟩ := HT.out
 rw [← HW3.out]
 by_cases hk : c.k = 2
 ·have HS : Hid (spansL c = [triS c, hanS c] ++ [filS c]) := by show _ = _; unfold spansL; rw [if_pos hk]; rfl
  have hk' : (c.k == 2) = true := by rw [hk]; rfl
  have HV4 : Hid (∀ w' : World, Es spE (w'.alloc (.cells #[.int .i64 c.fi, .int .i64 c.hf] 202)) (.slice (some ⟨w'.heap.size, 0, none⟩) 1 1) [filS c]) := fun w' => (OwnE.lit spE w' w'.heap.size 202 [filS c] _ 1 (Nat.le_refl _) rfl rfl (by simp [maxLen])).es
  clear hk
  go_wp2_with fail
  refine (HFI.out _).mono ?_
  rintro e w4 ⟨rfl, hb4⟩
  have HB4 : Hid (Below w3.heap.size w3 w4) := hb4
  have HO4 : Hid (OwnE spE (w4.alloc (.cells #[.int .i64 c.fi, .int .i64 c.hf] 202)) w.heap.size 202 (.slice (some ⟨w2.heap.size, 0, none⟩) 2 2) [triS c, hanS c]) := HO3.out.later (bbox hb4 _)
  have HSZ : Hid (w.heap.size ≤ (w4.alloc (.cells #[.int .i64 c.fi, .int .i64 c.hf] 202)).heap.size) := (bbox (bstep HB3.out hb4) _).size
  clear hb4 c0 c1 c2 c3 c4 c5 c6 c7 c8 c9
  go_wp2_with (at_builtin; go_must (refine wpList_append_es spE rfl (.tmp 12) (.tmp 15) 187 rfl w.heap.size 202 _ 16 Tryz.underlying187 Tryz.infoSpan rfl rfl rfl HO4.out (HV4.out w4) (by simp [maxLen]) (by simp) HSZ.out ?_; intro v5 w5 ho5 hg5))
  go_ret
  refine ⟨v5, rfl, by rw [HS.out]; exact ho5, ?_⟩
  exact (bbox (bstep HB3.out HB4.out) _).trans (grown_belowE HO4.out hg5 (Nat.le_refl _) HSZ.out)
 ·have HS : Hid (spansL c = [triS c, hanS c]) := by show _ = _; unfold spansL; rw [if_neg hk]
  have hk' : (c.k == 2) = false := by rw [beq_eq_false_iff_ne]; exact hk
  clear hk
  go_wp2_with fail
  go_ret
  exact ⟨_, rfl, by rw [HS.out]; exact HO3.out, HB3.out⟩
end Go.Proofs.YthpmpdpfnlecmaaGreat
