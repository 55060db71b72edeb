/- Texts joined: RowSpec. -/
import Derived.Test.YtclmafoelibihaaGreatJ10
/- Layer 4 by definition, on lists of bytes: how tables are read and written, and that what is written is read to what it was. No program is named here. -/
namespace Go.Proofs.YtclmafoelibihaaGreat
set_option linter.unusedVariables false
set_option linter.unusedSimpArgs false
open Go.RowKit

def colsR : Nat → Nat
  | 0 => 5
  | 1 => 3
  | 2 => 6
  | 3 => 2
  | 4 => 1
  | 5 => 1
  | _ => 0
/-- How wide a column is, by the marks. -/
def widR (t c marks : Nat) : Nat :=
  if ((t = 0 ∨ t = 1) ∧ c = 1) ∨ (t = 2 ∧ c = 3) then (if marks % 2 = 1 then 4 else 2)
  else if (t = 1 ∧ c = 2) ∨ (t = 2 ∧ c = 4) ∨ t = 4 ∨ t = 5 then (if 2 ≤ marks then 4 else 2)
  else if t = 2 ∧ c = 0 then 4 else 2
theorem widR_cases (t c marks : Nat) : widR t c marks = 2 ∨ widR t c marks = 4 := by
  unfold widR; repeat' split
  all_goals simp
theorem widR_plain (t c marks : Nat) : widR t c 0 ≤ widR t c marks := by
  unfold widR; repeat' split
  all_goals omega
theorem widR_zero {t c : Nat} (h : ¬ (t = 2 ∧ c = 0)) : widR t c 0 = 2 := by
  unfold widR; repeat' split
  all_goals first | rfl | omega | contradiction

/-! ### read -/
/-- The first so many counts: what they are, and the place behind them. -/
def cntTo (bs : List UInt8) (there at0 : Nat) : Nat → Option (List Nat × Nat)
  | 0 => some ([], at0)
  | t + 1 =>
    match cntTo bs there at0 t with
    | none => none
    | some p => if (there / 2 ^ t) % 2 = 1 then (if bs.length < p.2 + 2 then none else some (p.1 ++ [numAt bs p.2 2], p.2 + 2)) else some (p.1 ++ [0], p.2)
/-- The first so many columns of a row. -/
def rowTo (bs : List UInt8) (t marks at0 : Nat) : Nat → Option (List Int × Nat)
  | 0 => some ([], at0)
  | c + 1 =>
    match rowTo bs t marks at0 c with
    | none => none
    | some p => if bs.length < p.2 + widR t c marks then none else some (p.1 ++ [(numAt bs p.2 (widR t c marks) : Int)], p.2 + widR t c marks)
/-- The first so many rows of a table. -/
def rowsTo (bs : List UInt8) (t marks at0 : Nat) : Nat → Option (List (List Int) × Nat)
  | 0 => some ([], at0)
  | i + 1 =>
    match rowsTo bs t marks at0 i with
    | none => none
    | some p => match rowTo bs t marks p.2 (colsR t) with
      | none => none
      | some q => some (p.1 ++ [q.1], q.2)
/-- The first so many tables. -/
def tabsTo (bs : List UInt8) (cs : List Nat) (marks at0 : Nat) : Nat → Option (List (List (List Int)) × Nat)
  | 0 => some ([], at0)
  | t + 1 =>
    match tabsTo bs cs marks at0 t with
    | none => none
    | some p => match rowsTo bs t marks p.2 (cs.getD t 0) with
      | none => none
      | some q => some (p.1 ++ [q.1], q.2)

structure Tabs where
  entry : Int
  rows : List (List (List Int))
def Tabs.nil : Tabs := ⟨0, []⟩
def byteAt (bs : List UInt8) (i : Nat) : Nat := ((bs[i]?).getD 0).toNat

/-- What is behind the two bytes of marks. -/
def readB (bs : List UInt8) : Tabs × Nat × Nat :=
  match cntTo bs (byteAt bs 1) 2 6 with
  | none => (Tabs.nil, bs.length, 1)
  | some p => if bs.length < p.2 + 2 then (Tabs.nil, bs.length, 1) else
    match tabsTo bs p.1 (byteAt bs 0) (p.2 + 2) 6 with
    | none => (Tabs.nil, bs.length, 1)
    | some q => if q.2 < bs.length then (Tabs.nil, q.2, 2) else (⟨numAt bs p.2 2, q.1⟩, 0, 0)
/-- Bytes read: the tables, the place, the error. -/
def readR (bs : List UInt8) : Tabs × Nat × Nat :=
  if bs.length < 1 then (Tabs.nil, bs.length, 1) else if 3 < byteAt bs 0 then (Tabs.nil, 0, 2) else if bs.length < 2 then (Tabs.nil, bs.length, 1) else if 63 < byteAt bs 1 then (Tabs.nil, 1, 2) else readB bs

/-! ### written -/
def fitsR (x : Int) (w : Nat) : Bool := decide (0 ≤ x) && decide (x < 256 ^ w)
def rowB (t : Nat) : Nat → List Int → List UInt8
  | _, [] => []
  | c, x :: l => leL x.toNat (widR t c 0) ++ rowB t (c + 1) l
def rowFits (t : Nat) : Nat → List Int → Bool
  | _, [] => true
  | c, x :: l => fitsR x (widR t c 0) && rowFits t (c + 1) l
def tabB (t : Nat) (l : List (List Int)) : List UInt8 := l.flatMap (rowB t 0)
def tabsB : Nat → List (List (List Int)) → List UInt8
  | _, [] => []
  | t, l :: r => tabB t l ++ tabsB (t + 1) r
def cntB : List (List (List Int)) → List UInt8
  | [] => []
  | l :: r => (if l.length = 0 then [] else leL l.length 2) ++ cntB r
def thereB : List (List (List Int)) → Nat
  | [] => 0
  | l :: r => (if l.length = 0 then 0 else 1) + 2 * thereB r
def shaped : Nat → List (List (List Int)) → Bool
  | _, [] => true
  | t, l :: r => l.all (fun row => decide (row.length = colsR t)) && shaped (t + 1) r
def fitting : Nat → List (List (List Int)) → Bool
  | _, [] => true
  | t, l :: r => decide (l.length < 65536) && l.all (rowFits t 0) && fitting (t + 1) r
def writeB (T : Tabs) : List UInt8 := [0, UInt8.ofNat (thereB T.rows)] ++ (cntB T.rows ++ (leL T.entry.toNat 2 ++ tabsB 0 T.rows))
def writeR (T : Tabs) : List UInt8 × Nat :=
  if T.rows.length ≠ 6 ∨ shaped 0 T.rows = false then ([], 17) else if fitsR T.entry 2 = false ∨ fitting 0 T.rows = false then ([], 3) else (writeB T, 0)

/-! ### there and back -/
theorem fits_nat {x : Int} {w : Nat} (h : fitsR x w = true) : ∃ n : Nat, x = (n : Int) ∧ n < 256 ^ w := by
  simp only [fitsR, Bool.and_eq_true, decide_eq_true_eq] at h
  obtain ⟨n, rfl⟩ := Int.eq_ofNat_of_zero_le h.1
  refine ⟨n, rfl, ?_⟩
  have h2 := h.2
  have e : ((256 ^ w : Nat) : Int) = (256 : Int) ^ w := Int.natCast_pow 256 w
  rw [← e] at h2
  omega

theorem rowB_append (t : Nat) : ∀ (l m : List Int) (c : Nat), rowB t c (l ++ m) = rowB t c l ++ rowB t (c + l.length) m
  | [], m, c => by simp [rowB]
  | x :: l, m, c => by
    have ih := rowB_append t l m (c + 1)
    simp only [List.cons_append, rowB, ih, List.append_assoc, List.length_cons]
    rw [show c + 1 + l.length = c + (l.length + 1) by omega]
theorem rowFits_get (t : Nat) : ∀ (l : List Int) (c i : Nat) (h : i < l.length), rowFits t c l = true → fitsR l[i] (widR t (c + i) 0) = true
  | [], c, i, h, _ => by simp at h
  | x :: l, c, 0, h, hf => by
    simp only [rowFits, Bool.and_eq_true] at hf
    exact hf.1
  | x :: l, c, i + 1, h, hf => by
    simp only [rowFits, Bool.and_eq_true] at hf
    have := rowFits_get t l (c + 1) i (by simpa using h) hf.2
    rw [show c + 1 + i = c + (i + 1) by omega] at this
    simpa using this

/-- A row that lies there is read. -/
theorem row_read {bs pre post : List UInt8} {t at_ : Nat} {row : List Int} (hb : bs = pre ++ (rowB t 0 row ++ post)) (hp : at_ = pre.length) (hf : rowFits t 0 row = true) :
    ∀ c, c ≤ row.length → rowTo bs t 0 at_ c = some (row.take c, at_ + (rowB t 0 (row.take c)).length)
  | 0, _ => by simp [rowTo, rowB]
  | c + 1, hc => by
    have ih := row_read hb hp hf c (by omega)
    have hlt : c < row.length := by omega
    obtain ⟨n, hn, hn2⟩ := fits_nat (rowFits_get t row 0 c hlt hf)
    rw [Nat.zero_add] at hn2
    have hsp : row.take (c + 1) = row.take c ++ [row[c]] := List.take_succ_eq_append_getElem hlt
    have htl : (row.take c).length = c := by simp; omega
    have hrb : rowB t 0 (row.take (c + 1)) = rowB t 0 (row.take c) ++ leL n (widR t c 0) := by
      rw [hsp, rowB_append, htl, Nat.zero_add, hn]
      simp [rowB]
    have hall : rowB t 0 row = rowB t 0 (row.take (c + 1)) ++ rowB t (0 + (row.take (c + 1)).length) (row.drop (c + 1)) := by
      rw [← rowB_append, List.take_append_drop]
    have hbs : bs = (pre ++ rowB t 0 (row.take c)) ++ (leL n (widR t c 0) ++ (rowB t (0 + (row.take (c + 1)).length) (row.drop (c + 1)) ++ post)) := by
      rw [hb, hall, hrb]; simp only [List.append_assoc]
    have hnum := leN_at hbs rfl (show at_ + (rowB t 0 (row.take c)).length = (pre ++ rowB t 0 (row.take c)).length by rw [List.length_append, hp]) hn2
    have hlen : at_ + (rowB t 0 (row.take c)).length + widR t c 0 ≤ bs.length := by
      rw [hbs]; simp only [List.length_append, leL_length]; omega
    simp only [rowTo, ih]
    rw [if_neg (by omega), hnum, hrb, hsp, hn]
    simp only [List.length_append, leL_length]
    rw [Nat.add_assoc]

theorem tabB_append (t : Nat) (l m : List (List Int)) : tabB t (l ++ m) = tabB t l ++ tabB t m := by simp [tabB]
/-- A table's rows that lie there are read. -/
theorem rows_read {bs pre post : List UInt8} {t at_ : Nat} {l : List (List Int)} (hb : bs = pre ++ (tabB t l ++ post)) (hp : at_ = pre.length) (hs : ∀ row ∈ l, row.length = colsR t) (hf : ∀ row ∈ l, rowFits t 0 row = true) :
    ∀ i, i ≤ l.length → rowsTo bs t 0 at_ i = some (l.take i, at_ + (tabB t (l.take i)).length)
  | 0, _ => by simp [rowsTo, tabB]
  | i + 1, hi => by
    have ih := rows_read hb hp hs hf i (by omega)
    have hlt : i < l.length := by omega
    have hsp : l.take (i + 1) = l.take i ++ [l[i]] := List.take_succ_eq_append_getElem hlt
    have hmem : l[i] ∈ l := List.getElem_mem _
    have h1 : tabB t [l[i]] = rowB t 0 l[i] := by simp [tabB]
    have hall : tabB t l = tabB t (l.take i) ++ (rowB t 0 l[i] ++ tabB t (l.drop (i + 1))) := by
      rw [← h1, ← tabB_append, ← tabB_append, ← List.append_assoc, ← hsp, List.take_append_drop]
    have hbs : bs = (pre ++ tabB t (l.take i)) ++ (rowB t 0 l[i] ++ (tabB t (l.drop (i + 1)) ++ post)) := by
      rw [hb, hall]; simp only [List.append_assoc]
    have hr := row_read hbs (show at_ + (tabB t (l.take i)).length = (pre ++ tabB t (l.take i)).length by rw [List.length_append, hp]) (hf _ hmem) l[i].length (Nat.le_refl _)
    rw [List.take_length, hs _ hmem] at hr
    simp only [rowsTo, ih, hr]
    rw [hsp, tabB_append, h1, List.length_append, Nat.add_assoc]

theorem tabsB_append : ∀ (l m : List (List (List Int))) (t : Nat), tabsB t (l ++ m) = tabsB t l ++ tabsB (t + l.length) m
  | [], m, t => by simp [tabsB]
  | x :: l, m, t => by
    have ih := tabsB_append l m (t + 1)
    simp only [List.cons_append, tabsB, ih, List.append_assoc, List.length_cons]
    rw [show t + 1 + l.length = t + (l.length + 1) by omega]
theorem shaped_get : ∀ (T : List (List (List Int))) (t i : Nat) (h : i < T.length), shaped t T = true → ∀ row ∈ T[i], row.length = colsR (t + i)
  | [], t, i, h, _ => by simp at h
  | x :: l, t, 0, h, hs => by
    simp only [shaped, Bool.and_eq_true, List.all_eq_true, decide_eq_true_eq] at hs
    exact hs.1
  | x :: l, t, i + 1, h, hs => by
    simp only [shaped, Bool.and_eq_true] at hs
    have := shaped_get l (t + 1) i (by simpa using h) hs.2
    rw [show t + 1 + i = t + (i + 1) by omega] at this
    simpa using this
theorem fitting_get : ∀ (T : List (List (List Int))) (t i : Nat) (h : i < T.length), fitting t T = true → T[i].length < 65536 ∧ ∀ row ∈ T[i], rowFits (t + i) 0 row = true
  | [], t, i, h, _ => by simp at h
  | x :: l, t, 0, h, hs => by
    simp only [fitting, Bool.and_eq_true, List.all_eq_true, decide_eq_true_eq] at hs
    exact ⟨hs.1.1, hs.1.2⟩
  | x :: l, t, i + 1, h, hs => by
    simp only [fitting, Bool.and_eq_true] at hs
    have := fitting_get l (t + 1) i (by simpa using h) hs.2
    rw [show t + 1 + i = t + (i + 1) by omega] at this
    simpa using this

/-- Tables that lie there are read. -/
theorem tabs_read {bs pre post : List UInt8} {at_ : Nat} {T : List (List (List Int))} {cs : List Nat} (hb : bs = pre ++ (tabsB 0 T ++ post)) (hp : at_ = pre.length) (hc : ∀ i (h : i < T.length), cs.getD i 0 = T[i].length) (hs : shaped 0 T = true) (hf : fitting 0 T = true) :
    ∀ t, t ≤ T.length → tabsTo bs cs 0 at_ t = some (T.take t, at_ + (tabsB 0 (T.take t)).length)
  | 0, _ => by simp [tabsTo, tabsB]
  | t + 1, ht => by
    have ih := tabs_read hb hp hc hs hf t (by omega)
    have hlt : t < T.length := by omega
    have hsp : T.take (t + 1) = T.take t ++ [T[t]] := List.take_succ_eq_append_getElem hlt
    have htl : (T.take t).length = t := by simp; omega
    have h1 : ∀ k, tabsB k [T[t]] = tabB k T[t] := fun k => by simp [tabsB]
    have hall : tabsB 0 T = tabsB 0 (T.take t) ++ (tabB t T[t] ++ tabsB (t + 1) (T.drop (t + 1))) := by
      have e1 : T = T.take (t + 1) ++ T.drop (t + 1) := (List.take_append_drop _ _).symm
      have e2 : (T.take (t + 1)).length = t + 1 := by simp; omega
      rw [show tabsB 0 T = tabsB 0 (T.take (t + 1) ++ T.drop (t + 1)) by rw [List.take_append_drop], tabsB_append, e2, hsp, tabsB_append, htl, h1, Nat.zero_add, Nat.zero_add, List.append_assoc]
    have hbs : bs = (pre ++ tabsB 0 (T.take t)) ++ (tabB t T[t] ++ (tabsB (t + 1) (T.drop (t + 1)) ++ post)) := by
      rw [hb, hall]; simp only [List.append_assoc]
    have hsh := shaped_get T 0 t hlt hs
    have hft := (fitting_get T 0 t hlt hf).2
    rw [Nat.zero_add] at hsh hft
    have hr := rows_read hbs (show at_ + (tabsB 0 (T.take t)).length = (pre ++ tabsB 0 (T.take t)).length by rw [List.length_append, hp]) hsh hft T[t].length (Nat.le_refl _)
    rw [List.take_length] at hr
    simp only [tabsTo, ih, hc t hlt, hr]
    rw [hsp, tabsB_append, htl, h1, Nat.zero_add, List.length_append, Nat.add_assoc]

theorem cntB_append : ∀ (l m : List (List (List Int))), cntB (l ++ m) = cntB l ++ cntB m
  | [], m => by simp [cntB]
  | x :: l, m => by simp only [List.cons_append, cntB, cntB_append l m, List.append_assoc]
theorem there_bit : ∀ (T : List (List (List Int))) (t : Nat) (h : t < T.length), (thereB T / 2 ^ t) % 2 = if T[t].length = 0 then 0 else 1
  | [], t, h => by simp at h
  | x :: l, 0, h => by
    simp only [thereB, Nat.pow_zero, Nat.div_one, List.getElem_cons_zero]
    split <;> omega
  | x :: l, t + 1, h => by
    have ih := there_bit l t (by simpa using h)
    simp only [thereB, List.getElem_cons_succ]
    rw [← ih, Nat.pow_succ, Nat.mul_comm (2 ^ t) 2, ← Nat.div_div_eq_div_mul]
    congr 2
    split <;> omega
theorem there_lt : ∀ (T : List (List (List Int))), thereB T < 2 ^ T.length
  | [] => by simp [thereB]
  | x :: l => by
    have := there_lt l
    simp only [thereB, List.length_cons, Nat.pow_succ]
    split <;> omega

/-- Counts that lie there are read. -/
theorem cnt_read {bs pre post : List UInt8} {at_ : Nat} {T : List (List (List Int))} (hb : bs = pre ++ (cntB T ++ post)) (hp : at_ = pre.length) (hf : ∀ i (h : i < T.length), T[i].length < 65536) :
    ∀ t, t ≤ T.length → cntTo bs (thereB T) at_ t = some ((T.take t).map List.length, at_ + (cntB (T.take t)).length)
  | 0, _ => by simp [cntTo, cntB]
  | t + 1, ht => by
    have ih := cnt_read hb hp hf t (by omega)
    have hlt : t < T.length := by omega
    have hsp : T.take (t + 1) = T.take t ++ [T[t]] := List.take_succ_eq_append_getElem hlt
    have hbit := there_bit T t hlt
    simp only [cntTo, ih]
    by_cases h0 : T[t].length = 0
    · rw [if_pos h0] at hbit
      have h1 : cntB [T[t]] = [] := by simp [cntB, h0]
      rw [if_neg (by omega), hsp, cntB_append, h1, List.map_append, List.append_nil]
      simp only [List.map_cons, List.map_nil, h0]
    · rw [if_neg h0] at hbit
      have h1 : cntB [T[t]] = leL T[t].length 2 := by simp [cntB, h0]
      have hall : cntB T = cntB (T.take t) ++ (leL T[t].length 2 ++ cntB (T.drop (t + 1))) := by
        rw [← h1, ← cntB_append, ← cntB_append, ← List.append_assoc, ← hsp, List.take_append_drop]
      have hbs : bs = (pre ++ cntB (T.take t)) ++ (leL T[t].length 2 ++ (cntB (T.drop (t + 1)) ++ post)) := by
        rw [hb, hall]; simp only [List.append_assoc]
      have hnum := leN_at hbs rfl (show at_ + (cntB (T.take t)).length = (pre ++ cntB (T.take t)).length by rw [List.length_append, hp]) (show T[t].length < 256 ^ 2 by have := hf t hlt; omega)
      have hlen : at_ + (cntB (T.take t)).length + 2 ≤ bs.length := by
        rw [hbs]; simp only [List.length_append, leL_length]; omega
      rw [if_pos hbit, if_neg (by omega), hnum, hsp, cntB_append, h1]
      simp only [List.map_append, List.map_cons, List.map_nil, List.length_append, leL_length]
      rw [Nat.add_assoc]

/-- What is written is read to what it was. -/
theorem read_write {T : Tabs} {b : List UInt8} (h : writeR T = (b, 0)) : readR b = (T, 0, 0) := by
  unfold writeR at h
  split at h
  · simp at h
  · rename_i h1
    split at h
    · simp at h
    · rename_i h2
      simp only [Prod.mk.injEq, and_true] at h
      have hl6 : T.rows.length = 6 := by
        rcases Nat.decEq T.rows.length 6 with e | e
        · exact absurd (.inl e) h1
        · exact e
      have hsh : shaped 0 T.rows = true := by
        cases e : shaped 0 T.rows with
        | false => exact absurd (.inr e) h1
        | true => rfl
      have hen : fitsR T.entry 2 = true := by
        cases e : fitsR T.entry 2 with
        | false => exact absurd (.inl e) h2
        | true => rfl
      have hft : fitting 0 T.rows = true := by
        cases e : fitting 0 T.rows with
        | false => exact absurd (.inr e) h2
        | true => rfl
      obtain ⟨n, hn, hn2⟩ := fits_nat hen
      have htl := there_lt T.rows
      rw [hl6] at htl
      have hb : b = [0, UInt8.ofNat (thereB T.rows)] ++ (cntB T.rows ++ (leL n 2 ++ tabsB 0 T.rows)) := by
        rw [← h]; unfold writeB; rw [hn]; rfl
      have hb0 : byteAt b 0 = 0 := by rw [hb]; rfl
      have hb1 : byteAt b 1 = thereB T.rows := by rw [hb]; simp [byteAt]; omega
      have hc := cnt_read (post := leL n 2 ++ tabsB 0 T.rows) hb rfl (fun i hi => (fitting_get T.rows 0 i hi hft).1) 6 (by omega)
      have ht6 : T.rows.take 6 = T.rows := List.take_of_length_le (by omega)
      rw [ht6] at hc
      have hbe : b = ([0, UInt8.ofNat (thereB T.rows)] ++ cntB T.rows) ++ (leL n 2 ++ (tabsB 0 T.rows ++ [])) := by rw [hb]; simp
      have hpe : [0, UInt8.ofNat (thereB T.rows)].length + (cntB T.rows).length = ([0, UInt8.ofNat (thereB T.rows)] ++ cntB T.rows).length := by rw [List.length_append]
      have hnum := leN_at hbe rfl hpe hn2
      have hbt : b = ([0, UInt8.ofNat (thereB T.rows)] ++ cntB T.rows ++ leL n 2) ++ (tabsB 0 T.rows ++ []) := by rw [hb]; simp
      have hpt : [0, UInt8.ofNat (thereB T.rows)].length + (cntB T.rows).length + 2 = ([0, UInt8.ofNat (thereB T.rows)] ++ cntB T.rows ++ leL n 2).length := by simp only [List.length_append, leL_length]
      have hts := tabs_read (cs := T.rows.map List.length) hbt hpt (fun i hi => by simp [List.getD, hi]) hsh hft 6 (by omega)
      rw [ht6] at hts
      have hbl : b.length = 2 + (cntB T.rows).length + 2 + (tabsB 0 T.rows).length := by rw [hb]; simp [leL_length]; omega
      simp only [List.length_cons, List.length_nil, Nat.zero_add, Nat.reduceAdd] at hc hnum hts
      unfold readR
      rw [if_neg (by omega), hb0, if_neg (by omega), if_neg (by omega), hb1, if_neg (by omega)]
      unfold readB
      rw [hb1, hc]
      simp only
      rw [if_neg (by omega), hb0, hts]
      simp only
      rw [if_neg (by omega), hnum, ← hn]

end Go.Proofs.YtclmafoelibihaaGreat
