
/- Regions in which an instruction lies: links, chains, ways, by definition. No program is named here. -/
import Derived.Test.YtbfcdcdeohikpaaRegSpec
namespace Go.Proofs.Ytbfcdcdeohikpaa
set_option linter.unusedVariables false
set_option linter.unusedSimpArgs false

/-- A link: clause, part, from where, up to where. -/
abbrev Lk := Int × Int × Int × Int
def lkSp (x : Lk) : Sp := (x.2.2.1, x.2.2.2)
def lkRg (x : Lk) : Sp := (x.1, x.2.1)
def lkN (x : Lk) : Int := x.2.2.2 - x.2.2.1
def lkS (i n : Int) : Int → List Sp → List Lk
  | _, [] => []
  | p, s :: r => (if hasB s n = true then [(i, p, s.1, s.2)] else []) ++ lkS i n (p + 1) r
def lkL (n : Int) : Int → List Cl → List Lk
  | _, [] => []
  | i, c :: r => lkS i n 1 (spansL c) ++ lkL n (i + 1) r

theorem lkS_append (i n : Int) : ∀ (a b : List Sp) (p : Int), lkS i n p (a ++ b) = lkS i n p a ++ lkS i n (p + (a.length : Int)) b
  | [], b, p => by simp [lkS]
  | s :: r, b, p => by
    simp only [List.cons_append, lkS, lkS_append i n r b (p + 1), List.append_assoc, List.length_cons]
    rw [show p + 1 + (r.length : Int) = p + ((r.length + 1 : Nat) : Int) by omega]
theorem lkL_append (n : Int) : ∀ (a b : List Cl) (i : Int), lkL n i (a ++ b) = lkL n i a ++ lkL n (i + (a.length : Int)) b
  | [], b, i => by simp [lkL]
  | c :: r, b, i => by
    simp only [List.cons_append, lkL, lkL_append n r b (i + 1), List.append_assoc, List.length_cons]
    rw [show i + 1 + (r.length : Int) = i + ((r.length + 1 : Nat) : Int) by omega]
theorem lkS_take (i n : Int) (ss : List Sp) (q : Nat) (h : q < ss.length) : lkS i n 1 (ss.take (q + 1)) = lkS i n 1 (ss.take q) ++ (if hasB ss[q] n = true then [(i, 1 + (q : Int), ss[q].1, ss[q].2)] else []) := by
  rw [List.take_succ_eq_append_getElem h, lkS_append, List.length_take, Nat.min_eq_left (by omega)]
  simp [lkS]
theorem lkL_take (n : Int) (l : List Cl) (q : Nat) (h : q < l.length) : lkL n 0 (l.take (q + 1)) = lkL n 0 (l.take q) ++ lkS (q : Int) n 1 (spansL l[q]) := by
  rw [List.take_succ_eq_append_getElem h, lkL_append, List.length_take, Nat.min_eq_left (by omega)]
  simp [lkL]
theorem lkS_mem {i n : Int} {x : Lk} : ∀ {ss : List Sp} {p : Int}, x ∈ lkS i n p ss → ∃ j, ∃ h : j < ss.length, x = (i, p + (j : Int), ss[j].1, ss[j].2) ∧ hasB ss[j] n = true
  | s :: r, p, hx => by
    simp only [lkS, List.mem_append] at hx
    rcases hx with hx | hx
    · split at hx
      · rename_i hh
        simp only [List.mem_singleton] at hx
        exact ⟨0, by simp, by simpa using hx, hh⟩
      · simp at hx
    · obtain ⟨j, hj, hx, hh⟩ := lkS_mem hx
      exact ⟨j + 1, by simpa using hj, by rw [hx]; simp; omega, hh⟩
theorem lkL_mem {n : Int} {x : Lk} : ∀ {l : List Cl} {i : Int}, x ∈ lkL n i l → ∃ k, ∃ h : k < l.length, ∃ j, ∃ hj : j < (spansL l[k]).length, x = (i + (k : Int), 1 + (j : Int), (spansL l[k])[j].1, (spansL l[k])[j].2) ∧ hasB (spansL l[k])[j] n = true
  | c :: r, i, hx => by
    simp only [lkL, List.mem_append] at hx
    rcases hx with hx | hx
    · obtain ⟨j, hj, hx, hh⟩ := lkS_mem hx
      exact ⟨0, by simp, j, hj, by simpa using hx, hh⟩
    · obtain ⟨k, hk, j, hj, hx, hh⟩ := lkL_mem hx
      exact ⟨k + 1, by simpa using hk, j, hj, by rw [hx]; simp; omega, hh⟩
theorem lkS_in {i n : Int} : ∀ {ss : List Sp} {p : Int} {j : Nat} (h : j < ss.length), hasB ss[j] n = true → (i, p + (j : Int), ss[j].1, ss[j].2) ∈ lkS i n p ss
  | s :: r, p, 0, h, hh => by simp only [List.getElem_cons_zero] at hh; simp [lkS, hh]
  | s :: r, p, j + 1, h, hh => by
    simp only [lkS, List.mem_append]
    refine .inr ?_
    have := lkS_in (i := i) (p := p + 1) (j := j) (ss := r) (by simpa using h) hh
    rw [show p + 1 + (j : Int) = p + ((j + 1 : Nat) : Int) by omega] at this
    exact this
theorem lkL_in {n : Int} : ∀ {l : List Cl} {i : Int} {k : Nat} (h : k < l.length) {j : Nat} (hj : j < (spansL l[k]).length), hasB (spansL l[k])[j] n = true → (i + (k : Int), 1 + (j : Int), (spansL l[k])[j].1, (spansL l[k])[j].2) ∈ lkL n i l
  | c :: r, i, 0, h, j, hj, hh => by
    simp only [lkL, List.mem_append]
    refine .inl ?_
    have := lkS_in (i := i) (p := 1) (j := j) (ss := spansL c) hj hh
    simpa using this
  | c :: r, i, k + 1, h, j, hj, hh => by
    simp only [lkL, List.mem_append]
    refine .inr ?_
    have := lkL_in (i := i + 1) (k := k) (l := r) (by simpa using h) (j := j) hj hh
    rw [show i + 1 + (k : Int) = i + ((k + 1 : Nat) : Int) by omega] at this
    exact this
/-- A span of a clause by its part. -/
theorem spans_bnd (c : Cl) (j : Nat) (hj : j < (spansL c).length) : (spansL c)[j] = bnd c (1 + (j : Int)) := by
  unfold spansL at hj ⊢
  split at hj
  · rename_i hk
    simp only [List.length_cons, List.length_nil] at hj
    obtain rfl | rfl | rfl : j = 0 ∨ j = 1 ∨ j = 2 := by omega
    · simp [hk, bnd, triS]
    · simp [hk, bnd, hanS]
    · simp [hk, bnd, filS]
  · rename_i hk
    simp only [List.length_cons, List.length_nil] at hj
    obtain rfl | rfl : j = 0 ∨ j = 1 := by omega
    · simp [hk, bnd, triS]
    · simp [hk, bnd, hanS]
theorem lkS_parts (i n : Int) (c : Cl) : lkS i n 1 [bnd c 1, bnd c 2, bnd c 3] = lkS i n 1 (spansL c) := by
  by_cases hk : c.k = 2
  · rw [show spansL c = [bnd c 1, bnd c 2, bnd c 3] by simp [spansL, hk, bnd, triS, hanS, filS]]
  · have h3 : bnd c 3 = (0, 0) := by simp [bnd, hk]
    have hh : ¬ hasB (0, 0) n = true := by rw [has_iff]; omega
    rw [show spansL c = [bnd c 1, bnd c 2] by simp [spansL, hk, bnd, triS, hanS], h3]
    simp [lkS, hh]

/-- Regions that share no instruction. -/
theorem no_both {ss : List Sp} (h : ovlB ss = false) {n : Int} {i j : Nat} (hi : i < ss.length) (hj : j < ss.length) (h1 : hasB ss[i] n = true) (h2 : hasB ss[j] n = true) : i = j := by
  have key : ∀ a b (ha : a < ss.length) (hb : b < ss.length), a < b → hasB ss[a] n = true → hasB ss[b] n = true → False := by
    intro a b ha hb hab h1 h2
    have : ovlB ss = true := by
      unfold ovlB
      refine List.any_eq_true.2 ⟨b, List.mem_range.2 hb, ?_⟩
      unfold ovlAt
      refine List.any_eq_true.2 ⟨ss[a], List.mem_take_iff_getElem.2 ⟨a, by omega, rfl⟩, ?_⟩
      rw [List.getD_eq_getElem?_getD, List.getElem?_eq_getElem hb]
      show shrB ss[b] ss[a] = true
      rw [has_iff] at h1 h2
      rw [shr_iff]; omega
    rw [h] at this; exact absurd this (by decide)
  rcases Nat.lt_trichotomy i j with g | g | g
  · exact (key i j hi hj g h1 h2).elim
  · exact g
  · exact (key j i hj hi g h2 h1).elim

/-- One link lies within another one, or is the same instructions. -/
def Nst (x y : Lk) : Prop := lkSp x = lkSp y ∨ (y.2.2.1 ≤ x.2.2.1 ∧ x.2.2.2 ≤ y.2.2.2 ∧ lkN x < lkN y)
theorem Nst.le {x y : Lk} (h : Nst x y) : lkN x ≤ lkN y := by
  rcases h with h | ⟨_, _, h⟩
  · unfold lkSp at h
    simp only [Prod.mk.injEq] at h
    unfold lkN
    omega
  · omega
theorem Nst.eq {x y : Lk} (h : Nst x y) (hn : lkN y ≤ lkN x) : lkSp x = lkSp y := by
  rcases h with h | ⟨_, _, h⟩
  · exact h
  · omega
theorem pairwise_all {α : Type} {R : α → α → Prop} : ∀ {l : List α}, (∀ x ∈ l, ∀ y ∈ l, R x y) → l.Pairwise R
  | [], _ => List.Pairwise.nil
  | x :: r, h => List.Pairwise.cons (fun y hy => h x (by simp) y (by simp [hy])) (pairwise_all fun a ha b hb => h a (by simp [ha]) b (by simp [hb]))

theorem fit_nest {n : Int} {a b : List Sp} (hf : fitB a b = true) (oa : ovlB a = false) (ob : ovlB b = false) {i j : Nat} (hi : i < a.length) (hj : j < b.length) (h1 : hasB a[i] n = true) (h2 : hasB b[j] n = true) :
    a[i] = b[j] ∨ (b[j].1 ≤ a[i].1 ∧ a[i].2 ≤ b[j].2 ∧ a[i].2 - a[i].1 < b[j].2 - b[j].1) := by
  have sh : ∀ s o : Sp, hasB s n = true → hasB o n = true → shrB s o = true := fun s o hs ho => by
    rw [has_iff] at hs ho; rw [shr_iff]; omega
  have hm : meetB a b = true := List.any_eq_true.2 ⟨_, List.getElem_mem hi, List.any_eq_true.2 ⟨_, List.getElem_mem hj, sh _ _ h1 h2⟩⟩
  unfold fitB at hf
  rw [if_pos hm] at hf
  have ha0 : 0 < a.length := by omega
  have hb0 : 0 < b.length := by omega
  have da : a.headD (0, 0) = a[0] := by cases a with | nil => simp at ha0 | cons x r => rfl
  have db : b.headD (0, 0) = b[0] := by cases b with | nil => simp at hb0 | cons x r => rfl
  split at hf
  · rename_i hs
    rw [da, db] at hs
    by_cases i0 : i = 0
    · subst i0
      have h3 : hasB b[0] n = true := by rw [← hs]; exact h1
      have := no_both ob hb0 hj h3 h2
      subst this
      exact .inl hs
    · by_cases j0 : j = 0
      · subst j0
        have h3 : hasB a[0] n = true := by rw [hs]; exact h2
        have := no_both oa ha0 hi h3 h1
        exact absurd this.symm i0
      · have hmt : meetB a.tail b.tail = true := by
          refine List.any_eq_true.2 ⟨a[i], ?_, List.any_eq_true.2 ⟨b[j], ?_, sh _ _ h1 h2⟩⟩
          · obtain ⟨i', rfl⟩ : ∃ i', i = i' + 1 := ⟨i - 1, by omega⟩
            cases a with
            | nil => simp at ha0
            | cons x r => exact List.getElem_mem (l := r) (by simpa using hi)
          · obtain ⟨j', rfl⟩ : ∃ j', j = j' + 1 := ⟨j - 1, by omega⟩
            cases b with
            | nil => simp at hb0
            | cons x r => exact List.getElem_mem (l := r) (by simpa using hj)
        rw [hmt] at hf
        exact absurd hf (by decide)
  · obtain ⟨o, ho, hin⟩ := List.any_eq_true.1 hf
    obtain ⟨k, hk, rfl⟩ := List.getElem_of_mem ho
    have hp := List.all_eq_true.1 hin _ (List.getElem_mem hi)
    simp only [Bool.and_eq_true, part_iff, Bool.not_eq_true', decide_eq_false_iff_not] at hp
    obtain ⟨⟨p1, p2, p3⟩, p4⟩ := hp
    have h3 : hasB b[k] n = true := by rw [has_iff] at h1 ⊢; omega
    have := no_both ob hk hj h3 h2
    subst this
    refine .inr ⟨p2, p3, ?_⟩
    have : ¬ (a[i].1 = b[k].1 ∧ a[i].2 = b[k].2) := fun ⟨e1, e2⟩ => p4 (Prod.ext e1 e2)
    omega

/-- Of right clauses the links lie within each other, in their order. -/
theorem links_nested {m : Int} {l : List Cl} (h : ∀ k, k < l.length → clAt m l k = 0) (n : Int) : ∀ q, q ≤ l.length → (lkL n 0 (l.take q)).Pairwise Nst
  | 0, _ => by simp [lkL]
  | q + 1, hq => by
    have hql : q < l.length := by omega
    rw [lkL_take n l q hql, List.pairwise_append]
    have h0 := h q hql
    rw [clAt_eq m l q hql] at h0
    obtain ⟨_, ob, hf⟩ := cl_ok h0
    refine ⟨links_nested h n q (by omega), pairwise_all fun x hx y hy => ?_, fun x hx y hy => ?_⟩
    · obtain ⟨i, hi, rfl, h1⟩ := lkS_mem hx
      obtain ⟨j, hj, rfl, h2⟩ := lkS_mem hy
      have := no_both ob hi hj h1 h2
      subst this
      exact .inl rfl
    · obtain ⟨k, hk, i, hi, rfl, h1⟩ := lkL_mem hx
      obtain ⟨j, hj, rfl, h2⟩ := lkS_mem hy
      have hkq : k < q := by rw [List.length_take] at hk; omega
      have hg : (l.take q)[k] = l[k] := List.getElem_take
      have hk0 := h k (by omega)
      rw [clAt_eq m l k (by omega)] at hk0
      obtain ⟨_, oa, _⟩ := cl_ok hk0
      have hfk := hf l[k] (List.mem_take_iff_getElem.2 ⟨k, by omega, rfl⟩)
      simp only [hg] at hi h1 ⊢
      rcases fit_nest hfk oa ob hi hj h1 h2 with e | ⟨e1, e2, e3⟩
      · exact .inl (by simp [lkSp, e])
      · exact .inr ⟨e1, e2, e3⟩

/-- Neighbours that are the same instructions: the first alone. -/
def ddF : Lk → List Lk → List Lk
  | _, [] => []
  | x, y :: r => if lkSp y = lkSp x then ddF y r else y :: ddF y r
def dd : List Lk → List Lk
  | [] => []
  | x :: r => x :: ddF x r
theorem ddF_snoc (y z : Lk) : ∀ (A : List Lk) (x : Lk), ddF x (A ++ [z, y]) = ddF x (A ++ [z]) ++ (if lkSp y = lkSp z then [] else [y])
  | [], x => by
    simp only [List.nil_append, ddF]
    split <;> split <;> simp
  | a :: A, x => by
    simp only [List.cons_append, ddF, ddF_snoc y z A a]
    split <;> simp
theorem dd_snoc (y z : Lk) : ∀ (A : List Lk), dd (A ++ [z, y]) = dd (A ++ [z]) ++ (if lkSp y = lkSp z then [] else [y])
  | [] => by
    simp only [List.nil_append, dd, ddF]
    split <;> simp
  | a :: A => by
    simp only [List.cons_append, dd, ddF_snoc y z A a]
theorem dd_take (L : List Lk) (m : Nat) (h : m + 1 < L.length) : dd (L.take (m + 2)) = dd (L.take (m + 1)) ++ (if lkSp L[m + 1] = lkSp L[m] then [] else [L[m + 1]]) := by
  have e1 : L.take (m + 1) = L.take m ++ [L[m]] := List.take_succ_eq_append_getElem (by omega)
  have e2 : L.take (m + 2) = L.take m ++ [L[m], L[m + 1]] := by rw [show m + 2 = (m + 1) + 1 from rfl, List.take_succ_eq_append_getElem h, e1, List.append_assoc]; rfl
  rw [e1, e2, dd_snoc]
theorem dd_one (L : List Lk) (h : 0 < L.length) : dd (L.take 1) = L.take 1 := by
  cases L with
  | nil => simp at h
  | cons x r => simp [dd, ddF]
theorem dd_plain (L : List Lk) : ∀ k, 1 ≤ k → k ≤ L.length → (∀ j, (h : j + 1 < L.length) → j + 1 < k → lkSp L[j + 1] ≠ lkSp L[j]) → dd (L.take k) = L.take k
  | 0, h, _, _ => by omega
  | 1, _, h, _ => dd_one L (by omega)
  | k + 2, _, h, hne => by
    rw [dd_take L k (by omega), dd_plain L (k + 1) (by omega) (by omega) (fun j hj h2 => hne j hj (by omega)), if_neg (hne k (by omega) (by omega)), List.take_succ_eq_append_getElem (i := k + 1) (by omega)]
theorem dd_length_lt (L : List Lk) : ∀ m, 1 ≤ m → m ≤ L.length → (dd (L.take m)).length ≤ m
  | 0, h, _ => by omega
  | 1, _, h => by rw [dd_one L (by omega), List.length_take]; omega
  | m + 2, _, h => by
    rw [dd_take L m (by omega), List.length_append]
    have := dd_length_lt L (m + 1) (by omega) (by omega)
    split <;> simp <;> omega

/-- The chain: each that is greater than the last one. -/
def cmpL : Int → List Lk → List Lk
  | _, [] => []
  | s, x :: r => if s < lkN x then x :: cmpL (lkN x) r else cmpL s r
theorem ddF_cmp : ∀ (r : List Lk) (x : Lk), (x :: r).Pairwise Nst → ddF x r = cmpL (lkN x) r
  | [], _, _ => rfl
  | y :: r, x, h => by
    have hxy : Nst x y := (List.pairwise_cons.1 h).1 y (by simp)
    have ih := ddF_cmp r y (List.pairwise_cons.1 h).2
    unfold ddF cmpL
    by_cases e : lkSp y = lkSp x
    · have hn : lkN y = lkN x := by unfold lkSp at e; simp only [Prod.mk.injEq] at e; unfold lkN; omega
      rw [if_pos e, if_neg (by omega), ih, hn]
    · have hn : lkN x < lkN y := by
        rcases hxy with h | ⟨_, _, h⟩
        · exact absurd h.symm e
        · exact h
      rw [if_neg e, if_pos hn, ih]
theorem dd_cmp {L : List Lk} (h : L.Pairwise Nst) (hp : ∀ x ∈ L, 0 < lkN x) : dd L = cmpL 0 L := by
  cases L with
  | nil => rfl
  | cons x r =>
    show x :: ddF x r = _
    rw [cmpL, if_pos (hp x (by simp)), ddF_cmp r x h]
theorem cmp_skip : ∀ (A B : List Lk) (t : Int), (∀ y ∈ A, ¬ t < lkN y) → cmpL t (A ++ B) = cmpL t B
  | [], _, _, _ => rfl
  | a :: A, B, t, h => by
    show cmpL t (a :: (A ++ B)) = _
    rw [cmpL, if_neg (h a (by simp))]
    exact cmp_skip A B t fun y hy => h y (by simp [hy])
theorem cmp_find {A B : List Lk} {x : Lk} {s : Int} (h : (A ++ x :: B).Pairwise Nst) (hA : ∀ y ∈ A, ¬ s < lkN y) (hx : s < lkN x) : cmpL s (A ++ x :: B) = x :: cmpL (lkN x) (A ++ x :: B) := by
  have hle : ∀ y ∈ A, ¬ lkN x < lkN y := fun y hy => by
    have := ((List.pairwise_append.1 h).2.2 y hy x (by simp)).le
    omega
  rw [cmp_skip A _ s hA, cmp_skip A _ (lkN x) hle]
  have e1 : cmpL s (x :: B) = x :: cmpL (lkN x) B := by rw [cmpL, if_pos hx]
  have e2 : cmpL (lkN x) (x :: B) = cmpL (lkN x) B := by rw [cmpL, if_neg (by omega)]
  rw [e1, e2]
theorem cmp_none {L : List Lk} {s : Int} (h : ∀ y ∈ L, ¬ s < lkN y) : cmpL s L = [] := by
  have := cmp_skip L [] s h
  rw [List.append_nil] at this
  rw [this]; rfl
theorem cmp_mem : ∀ {L : List Lk} {s : Int} {x : Lk}, x ∈ cmpL s L → x ∈ L ∧ s < lkN x
  | y :: r, s, x, h => by
    unfold cmpL at h
    split at h
    · rename_i hs
      simp only [List.mem_cons] at h
      rcases h with rfl | h
      · exact ⟨by simp, hs⟩
      · have := cmp_mem h
        exact ⟨by simp [this.1], by omega⟩
    · have := cmp_mem h
      exact ⟨by simp [this.1], this.2⟩
theorem cmp_pairwise : ∀ {L : List Lk} {s : Int}, L.Pairwise Nst → (cmpL s L).Pairwise fun x y => y.2.2.1 ≤ x.2.2.1 ∧ x.2.2.2 ≤ y.2.2.2 ∧ lkN x < lkN y
  | [], _, _ => List.Pairwise.nil
  | x :: r, s, h => by
    obtain ⟨h1, h2⟩ := List.pairwise_cons.1 h
    unfold cmpL
    split
    · refine List.Pairwise.cons (fun y hy => ?_) (cmp_pairwise h2)
      obtain ⟨m1, m2⟩ := cmp_mem hy
      rcases h1 y m1 with e | e
      · unfold lkSp at e
        simp only [Prod.mk.injEq] at e
        unfold lkN at m2
        omega
      · exact e
    · exact cmp_pairwise h2
/-- Each link stands in the chain, by itself or by one that is the same instructions. -/
theorem cmp_has : ∀ {L : List Lk} {s : Int}, L.Pairwise Nst → ∀ x ∈ L, s < lkN x → ∃ y ∈ cmpL s L, lkSp y = lkSp x
  | a :: r, s, h, x, hx, hs => by
    obtain ⟨h1, h2⟩ := List.pairwise_cons.1 h
    unfold cmpL
    rcases List.mem_cons.1 hx with rfl | hx
    · rw [if_pos hs]
      exact ⟨x, by simp, rfl⟩
    · split
      · by_cases hn : lkN a < lkN x
        · obtain ⟨y, hy, e⟩ := cmp_has h2 x hx hn
          exact ⟨y, by simp [hy], e⟩
        · exact ⟨a, by simp, (h1 x hx).eq (by omega)⟩
      · exact cmp_has h2 x hx hs

/-- The chain of an instruction. -/
def linkL (l : List Cl) (n : Int) : List Lk := lkL n 0 l
def chL (l : List Cl) (n : Int) : List Lk := cmpL 0 (linkL l n)
def chR (l : List Cl) (n : Int) : List Sp := (chL l n).map lkRg
theorem RightL.nested {m : Int} {l : List Cl} (h : RightL m l) (n : Int) : (linkL l n).Pairwise Nst := by
  have := links_nested h.2 n l.length (Nat.le_refl _)
  rwa [List.take_length] at this
theorem link_pos {l : List Cl} {n : Int} : ∀ x ∈ linkL l n, 0 < lkN x := fun x hx => by
  obtain ⟨k, hk, j, hj, rfl, hh⟩ := lkL_mem hx
  rw [has_iff] at hh
  unfold lkN
  simp only
  omega
theorem RightL.dd {m : Int} {l : List Cl} (h : RightL m l) (n : Int) : dd (linkL l n) = chL l n := dd_cmp (h.nested n) link_pos

end Go.Proofs.Ytbfcdcdeohikpaa
