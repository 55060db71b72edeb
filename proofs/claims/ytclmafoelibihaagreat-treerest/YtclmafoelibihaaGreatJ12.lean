/- Texts joined: RowPlain, Cols4, Codes4. -/
import Derived.Test.YtclmafoelibihaaGreatJ11
import Derived.Test.YtclmafoelibihaaGreatRows
import Derived.Test.YtclmafoelibihaaGreatJ01
/- Layer 4 by definition: what is read is written by no more bytes, where it fits. No program is named here. -/
namespace Go.Proofs.YtclmafoelibihaaGreat
set_option linter.unusedVariables false
set_option linter.unusedSimpArgs false
open Go.RowKit

theorem num_lt (bs : List UInt8) (at_ n : Nat) : numAt bs at_ n < 256 ^ n := by
  unfold numAt
  have h := leN_lt (seg bs at_ n)
  have : (seg bs at_ n).length ≤ n := by simp [seg]; omega
  exact Nat.lt_of_lt_of_le h (Nat.pow_le_pow_right (by omega) this)
theorem fits_num (bs : List UInt8) (at_ n : Nat) : fitsR (numAt bs at_ n : Int) n = true := by
  have h := num_lt bs at_ n
  have e : ((256 ^ n : Nat) : Int) = (256 : Int) ^ n := Int.natCast_pow 256 n
  simp only [fitsR, Bool.and_eq_true, decide_eq_true_eq]
  rw [← e]
  omega

theorem rowFits_append (t : Nat) : ∀ (l m : List Int) (c : Nat), rowFits t c (l ++ m) = (rowFits t c l && rowFits t (c + l.length) m)
  | [], m, c => by simp [rowFits]
  | x :: l, m, c => by
    simp only [List.cons_append, rowFits, rowFits_append t l m (c + 1), List.length_cons, Bool.and_assoc]
    rw [show c + 1 + l.length = c + (l.length + 1) by omega]
theorem shaped_append : ∀ (l m : List (List (List Int))) (t : Nat), shaped t (l ++ m) = (shaped t l && shaped (t + l.length) m)
  | [], m, t => by simp [shaped]
  | x :: l, m, t => by
    simp only [List.cons_append, shaped, shaped_append l m (t + 1), List.length_cons, Bool.and_assoc]
    rw [show t + 1 + l.length = t + (l.length + 1) by omega]
theorem fitting_append : ∀ (l m : List (List (List Int))) (t : Nat), fitting t (l ++ m) = (fitting t l && fitting (t + l.length) m)
  | [], m, t => by simp [fitting]
  | x :: l, m, t => by
    simp only [List.cons_append, fitting, fitting_append l m (t + 1), List.length_cons, Bool.and_assoc]
    rw [show t + 1 + l.length = t + (l.length + 1) by omega]

/-- A row that was read. -/
theorem row_was {bs : List UInt8} {t marks at0 : Nat} : ∀ {c : Nat} {r : List Int} {a : Nat}, rowTo bs t marks at0 c = some (r, a) → r.length = c ∧ at0 + (rowB t 0 r).length ≤ a ∧ (at0 ≤ bs.length → a ≤ bs.length) ∧ (marks = 0 → rowFits t 0 r = true)
  | 0, r, a, h => by
    simp only [rowTo, Option.some.injEq, Prod.mk.injEq] at h
    obtain ⟨rfl, rfl⟩ := h
    simp [rowB, rowFits]
  | c + 1, r, a, h => by
    simp only [rowTo] at h
    cases hp : rowTo bs t marks at0 c with
    | none => rw [hp] at h; simp at h
    | some p =>
      rw [hp] at h
      simp only at h
      split at h
      · simp at h
      · rename_i hlen
        simp only [Option.some.injEq, Prod.mk.injEq] at h
        obtain ⟨rfl, rfl⟩ := h
        obtain ⟨h1, h2, h3, h4⟩ := row_was (r := p.1) (a := p.2) hp
        have hw := widR_plain t c marks
        refine ⟨by simp [h1], ?_, fun _ => by omega, fun hm => ?_⟩
        · rw [rowB_append, h1, Nat.zero_add]
          simp only [rowB, List.append_nil, List.length_append, leL_length]
          omega
        · subst hm
          rw [rowFits_append, h1, Nat.zero_add, h4 rfl]
          simp only [rowFits, Bool.and_true, Bool.true_and]
          exact fits_num _ _ _
theorem rows_was {bs : List UInt8} {t marks at0 : Nat} : ∀ {i : Nat} {l : List (List Int)} {a : Nat}, rowsTo bs t marks at0 i = some (l, a) → l.length = i ∧ at0 + (tabB t l).length ≤ a ∧ (at0 ≤ bs.length → a ≤ bs.length) ∧ (∀ row ∈ l, row.length = colsR t) ∧ (marks = 0 → ∀ row ∈ l, rowFits t 0 row = true)
  | 0, l, a, h => by
    simp only [rowsTo, Option.some.injEq, Prod.mk.injEq] at h
    obtain ⟨rfl, rfl⟩ := h
    simp [tabB]
  | i + 1, l, a, h => by
    simp only [rowsTo] at h
    cases hp : rowsTo bs t marks at0 i with
    | none => rw [hp] at h; simp at h
    | some p =>
      rw [hp] at h
      simp only at h
      cases hq : rowTo bs t marks p.2 (colsR t) with
      | none => rw [hq] at h; simp at h
      | some q =>
        rw [hq] at h
        simp only [Option.some.injEq, Prod.mk.injEq] at h
        obtain ⟨rfl, rfl⟩ := h
        obtain ⟨h1, h2, h3, h4, h5⟩ := rows_was (l := p.1) (a := p.2) hp
        obtain ⟨k1, k2, k3, k4⟩ := row_was (r := q.1) (a := q.2) hq
        refine ⟨by simp [h1], ?_, fun h => k3 (h3 h), ?_, ?_⟩
        · rw [tabB_append]
          have : tabB t [q.1] = rowB t 0 q.1 := by simp [tabB]
          rw [this, List.length_append]; omega
        · intro row hr
          rcases List.mem_append.1 hr with hr | hr
          · exact h4 row hr
          · simp at hr; subst hr; exact k1
        · intro hm row hr
          rcases List.mem_append.1 hr with hr | hr
          · exact h5 hm row hr
          · simp at hr; subst hr; exact k4 hm
theorem cnt_was {bs : List UInt8} {there at0 : Nat} : ∀ {t : Nat} {cs : List Nat} {a : Nat}, cntTo bs there at0 t = some (cs, a) → cs.length = t ∧ (at0 ≤ bs.length → a ≤ bs.length) ∧ (∀ c ∈ cs, c < 65536) ∧ ∀ T : List (List (List Int)), T.map List.length = cs → at0 + (cntB T).length ≤ a
  | 0, cs, a, h => by
    simp only [cntTo, Option.some.injEq, Prod.mk.injEq] at h
    obtain ⟨rfl, rfl⟩ := h
    refine ⟨rfl, id, by simp, fun T hT => ?_⟩
    simp at hT; subst hT; simp [cntB]
  | t + 1, cs, a, h => by
    simp only [cntTo] at h
    cases hp : cntTo bs there at0 t with
    | none => rw [hp] at h; simp at h
    | some p =>
      rw [hp] at h
      simp only at h
      obtain ⟨h1, h2, h3, h4⟩ := cnt_was (cs := p.1) (a := p.2) hp
      have last : ∀ (T : List (List (List Int))) (n : Nat), T.map List.length = p.1 ++ [n] → ∃ T' x, T = T' ++ [x] ∧ T'.map List.length = p.1 ∧ x.length = n := fun T n hT => by
        obtain ⟨l1, l2, e, e1, e2⟩ := List.map_eq_append_iff.1 hT
        obtain ⟨x, rfl, e3⟩ : ∃ x, l2 = [x] ∧ x.length = n := by
          cases l2 with
          | nil => simp at e2
          | cons y r =>
            simp only [List.map_cons, List.cons.injEq, List.map_eq_nil_iff] at e2
            exact ⟨y, by rw [e2.2], e2.1⟩
        exact ⟨l1, x, e, e1, e3⟩
      split at h
      · split at h
        · simp at h
        · rename_i hlen
          simp only [Option.some.injEq, Prod.mk.injEq] at h
          obtain ⟨rfl, rfl⟩ := h
          refine ⟨by simp [h1], fun _ => by omega, fun c hc => ?_, fun T hT => ?_⟩
          · rcases List.mem_append.1 hc with hc | hc
            · exact h3 c hc
            · simp at hc; subst hc; have := num_lt bs p.2 2; omega
          · obtain ⟨T', x, rfl, e1, e2⟩ := last T _ hT
            have := h4 T' e1
            rw [cntB_append, List.length_append]
            have hx : (cntB [x]).length ≤ 2 := by simp only [cntB, List.append_nil]; split <;> simp [leL_length]
            omega
      · simp only [Option.some.injEq, Prod.mk.injEq] at h
        obtain ⟨rfl, rfl⟩ := h
        refine ⟨by simp [h1], h2, fun c hc => ?_, fun T hT => ?_⟩
        · rcases List.mem_append.1 hc with hc | hc
          · exact h3 c hc
          · simp at hc; omega
        · obtain ⟨T', x, rfl, e1, e2⟩ := last T _ hT
          have := h4 T' e1
          rw [cntB_append, List.length_append]
          have hx : cntB [x] = [] := by simp [cntB, e2]
          rw [hx]; simpa using this
theorem tabs_was {bs : List UInt8} {cs : List Nat} {marks at0 : Nat} (hcs : ∀ i, cs.getD i 0 < 65536) : ∀ {t : Nat} {T : List (List (List Int))} {a : Nat}, tabsTo bs cs marks at0 t = some (T, a) → T.length = t ∧ at0 + (tabsB 0 T).length ≤ a ∧ (at0 ≤ bs.length → a ≤ bs.length) ∧ shaped 0 T = true ∧ (∀ i (h : i < T.length), T[i].length = cs.getD i 0) ∧ (marks = 0 → fitting 0 T = true)
  | 0, T, a, h => by
    simp only [tabsTo, Option.some.injEq, Prod.mk.injEq] at h
    obtain ⟨rfl, rfl⟩ := h
    simp [tabsB, shaped, fitting]
  | t + 1, T, a, h => by
    simp only [tabsTo] at h
    cases hp : tabsTo bs cs marks at0 t with
    | none => rw [hp] at h; simp at h
    | some p =>
      rw [hp] at h
      simp only at h
      cases hq : rowsTo bs t marks p.2 (cs.getD t 0) with
      | none => rw [hq] at h; simp at h
      | some q =>
        rw [hq] at h
        simp only [Option.some.injEq, Prod.mk.injEq] at h
        obtain ⟨rfl, rfl⟩ := h
        obtain ⟨h1, h2, h3, h4, h5, h6⟩ := tabs_was hcs (T := p.1) (a := p.2) hp
        obtain ⟨k1, k2, k3, k4, k5⟩ := rows_was (l := q.1) (a := q.2) hq
        refine ⟨by simp [h1], ?_, fun h => k3 (h3 h), ?_, ?_, fun hm => ?_⟩
        · rw [tabsB_append, h1, Nat.zero_add]
          have : tabsB t [q.1] = tabB t q.1 := by simp [tabsB]
          rw [this, List.length_append]; omega
        · rw [shaped_append, h4, h1, Nat.zero_add]
          simp only [shaped, Bool.and_true, Bool.true_and, List.all_eq_true, decide_eq_true_eq]
          exact k4
        · intro i hi
          rw [List.getElem_append]
          split
          · exact h5 i _
          · rename_i hn
            simp only [List.length_append, List.length_cons, List.length_nil] at hi
            have : i = t := by omega
            subst this
            simp [h1, k1]
        · rw [fitting_append, h6 hm, h1, Nat.zero_add]
          simp only [fitting, Bool.and_true, Bool.true_and, Bool.and_eq_true, List.all_eq_true, decide_eq_true_eq]
          exact ⟨by rw [k1]; exact hcs t, k5 hm⟩

/-- What is read is written by no more bytes and read alike, or its numbers don't fit and it bore marks. -/
theorem read_plain {b : List UInt8} {T : Tabs} (h : readR b = (T, 0, 0)) : ((writeR T).2 = 0 ∧ readR (writeR T).1 = (T, 0, 0) ∧ (writeR T).1.length ≤ b.length) ∨ ((writeR T).2 = 3 ∧ 0 < byteAt b 0) := by
  unfold readR at h
  split at h
  · simp only [Prod.mk.injEq] at h; omega
  · split at h
    · simp only [Prod.mk.injEq] at h; omega
    · split at h
      · simp only [Prod.mk.injEq] at h; omega
      · split at h
        · simp only [Prod.mk.injEq] at h; omega
        · rename_i l1 l2 l3 l4
          unfold readB at h
          cases hc : cntTo b (byteAt b 1) 2 6 with
          | none => rw [hc] at h; simp only [Prod.mk.injEq] at h; omega
          | some p =>
            rw [hc] at h
            simp only at h
            split at h
            · simp only [Prod.mk.injEq] at h; omega
            · rename_i l5
              cases ht : tabsTo b p.1 (byteAt b 0) (p.2 + 2) 6 with
              | none => rw [ht] at h; simp only [Prod.mk.injEq] at h; omega
              | some q =>
                rw [ht] at h
                simp only at h
                split at h
                · simp only [Prod.mk.injEq] at h; omega
                · rename_i l6
                  simp only [Prod.mk.injEq, and_true] at h
                  subst h
                  obtain ⟨c1, c2, c3, c4⟩ := cnt_was (cs := p.1) (a := p.2) hc
                  have hcs : ∀ i, p.1.getD i 0 < 65536 := fun i => by
                    by_cases hi : i < p.1.length
                    · simp only [List.getD, List.getElem?_eq_getElem hi, Option.getD_some]
                      exact c3 _ (List.getElem_mem _)
                    · simp [List.getD, List.getElem?_eq_none (by omega : p.1.length ≤ i)]
                  obtain ⟨t1, t2, t3, t4, t5, t6⟩ := tabs_was hcs (T := q.1) (a := q.2) ht
                  have hmap : q.1.map List.length = p.1 := by
                    apply List.ext_getElem
                    · simp [t1, c1]
                    · intro i h1 h2
                      simp only [List.length_map] at h1
                      rw [List.getElem_map, t5 i h1]
                      simp [List.getD, List.getElem?_eq_getElem h2]
                  have hcb := c4 q.1 hmap
                  have hen : fitsR (numAt b p.2 2 : Int) 2 = true := fits_num _ _ _
                  by_cases hf : fitting 0 q.1 = true
                  · left
                    have hw : writeR ⟨numAt b p.2 2, q.1⟩ = (writeB ⟨numAt b p.2 2, q.1⟩, 0) := by
                      unfold writeR
                      rw [if_neg (by simp [t1, t4]), if_neg (by simp only [hen, hf]; simp)]
                    refine ⟨by rw [hw], by rw [hw]; exact read_write hw, ?_⟩
                    rw [hw]
                    simp only [writeB, List.length_append, List.length_cons, List.length_nil, leL_length]
                    have := t3 (by omega)
                    omega
                  · right
                    have hf' : fitting 0 q.1 = false := by simpa using hf
                    refine ⟨?_, ?_⟩
                    · unfold writeR
                      rw [if_neg (by simp [t1, t4]), if_pos (.inr hf')]
                    · rcases Nat.eq_zero_or_pos (byteAt b 0) with e | e
                      · exact absurd (t6 e) hf
                      · exact e

end Go.Proofs.YtclmafoelibihaaGreat

/- The small functions of rows and of its references: signs, Columns, width, Width, fits, Code, Coded. -/
namespace Go.Proofs.YtclmafoelibihaaGreat
set_option linter.unusedVariables false
set_option linter.unusedSimpArgs false
open Go.RowKit

/-- The signs of a table's columns. -/
def sgL (n : Int) : List UInt8 :=
  if n = 0 then [50, 110, 99, 105, 105] else if n = 1 then [50, 110, 98] else if n = 2 then [52, 50, 50, 110, 98, 105] else if n = 3 then [105, 105] else if n = 4 then [98] else if n = 5 then [98] else []
def sgB (n : Int) : ByteArray := ⟨(sgL n).toArray⟩
def colsI (n : Int) : Int := if n = 0 then 5 else if n = 1 then 3 else if n = 2 then 6 else if n = 3 then 2 else if n = 4 then 1 else if n = 5 then 1 else 0

theorem ret_str {a b : ByteArray} (h : a = b) : Ending.returned (.string a) = .returned (.string b) := by rw [h]

theorem sgB_size (n : Int) : ((sgB n).size : Int) = colsI n := by
  unfold sgB sgL colsI
  repeat' split
  all_goals rfl

theorem colsI_nat (t : Nat) : colsI (t : Int) = (colsR t : Int) := by
  unfold colsI colsR
  split <;> simp_all <;> (repeat' split) <;> simp_all <;> omega

end Go.Proofs.YtclmafoelibihaaGreat

/- width, Width, fits of rows and of its references; Code and Coded. -/
namespace Go.Proofs.YtclmafoelibihaaGreat
set_option linter.unusedVariables false
set_option linter.unusedSimpArgs false
open Go.RowKit

/-- How wide a column of that sign is. -/
def wdI (s : Int) (m : Nat) : Int := if s = 52 then 4 else if s = 110 then (if m % 2 = 1 then 4 else 2) else if s = 98 then (if 2 ≤ m then 4 else 2) else 2

def codeI (table row : Int) : Int := if table = -1 then 0 else if table ≠ 0 ∧ table ≠ 4 then 0 else if row < 1 ∨ 16383 < row then 0 else row * 4 + (if table = 4 then 2 else 0)
def codeE (table row : Int) : Int := if table = -1 then 0 else if table ≠ 0 ∧ table ≠ 4 then 17 else if row < 1 ∨ 16383 < row then 3 else 0
def codedT (x : Int) : Int := if x = 0 then -1 else if x < 4 ∨ 65535 < x ∨ x % 2 = 1 then 0 else if x % 4 = 2 then 4 else 0
def codedR (x : Int) : Int := if x = 0 then 0 else if x < 4 ∨ 65535 < x ∨ x % 2 = 1 then 0 else x / 4
def codedE (x : Int) : Int := if x = 0 then 0 else if x < 4 ∨ 65535 < x ∨ x % 2 = 1 then 5 else 0
theorem ret_int3 {k l m : IntKind} {a b c d e f : Int} (h : a = b) (g : c = d) (i : e = f) : Ending.returned (.tuple #[.int k a, .int l c, .int m e]) = .returned (.tuple #[.int k b, .int l d, .int m f]) := by rw [h, g, i]

theorem ret_agg3 {k l m : IntKind} {a b c d e f : Int} (h : a = b) (g : c = d) (i : e = f) : Ending.returned (.agg #[.int k a, .int l c, .int m e]) = .returned (.agg #[.int k b, .int l d, .int m f]) := by rw [h, g, i]

theorem code_any (table row : Int) (w : World) :
    Calls Tryz.prog 170 #[.int .i64 table, .int .i64 row] w fun e w' => e = .returned (.tuple #[.int .i64 (codeI table row), .int .i64 (codeE table row)]) ∧ w' = w := by
  go_enter Tryz.func170, Tryz.ntmps170
  go_wp2
  all_goals (go_ret2; exact ⟨ret_int2 (by (try simp only [beq_iff_eq, beq_eq_false_iff_ne, ne_eq, bne_iff_ne, bne_eq_false_iff_eq] at *); unfold codeI; (repeat' split) <;> omega) (by (try simp only [beq_iff_eq, beq_eq_false_iff_ne, ne_eq, bne_iff_ne, bne_eq_false_iff_eq] at *); unfold codeE; (repeat' split) <;> omega), rfl⟩)

end Go.Proofs.YtclmafoelibihaaGreat
