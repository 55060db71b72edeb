
/- RowsCodes: the walk of the statement's function. -/
import Derived.Test.YtjmjpdamhondkaaRows
import Derived.Test.YtjmjpdamhondkaaLaws4
namespace Go.Proofs.Ytjmjpdamhondkaa
set_option linter.unusedVariables false
set_option linter.unusedSimpArgs false
open Go.RowKit Go.Maps

theorem codes_back {table row : Int} (he : codeE table row = 0) (ht : 0 ≤ table) : codedT (codeI table row) = table ∧ codedR (codeI table row) = row ∧ codedE (codeI table row) = 0 := by
  unfold codeE at he
  split at he
  · omega
  · split at he
    · simp at he
    · split at he
      · simp at he
      · rename_i h1 h2 h3
        have hy : codeI table row = row * 4 + (if table = 4 then 2 else 0) := by
          unfold codeI
          rw [if_neg h1, if_neg h2, if_neg h3]
        rw [hy]
        by_cases h4 : table = 4
        · rw [if_pos h4]
          refine ⟨?_, ?_, ?_⟩
          · unfold codedT
            rw [if_neg (by omega), if_neg (by omega), if_pos (by omega), h4]
          · unfold codedR
            rw [if_neg (by omega), if_neg (by omega)]; omega
          · unfold codedE
            rw [if_neg (by omega), if_neg (by omega)]
        · rw [if_neg h4]
          refine ⟨?_, ?_, ?_⟩
          · unfold codedT
            rw [if_neg (by omega), if_neg (by omega), if_neg (by omega)]; omega
          · unfold codedR
            rw [if_neg (by omega), if_neg (by omega)]; omega
          · unfold codedE
            rw [if_neg (by omega), if_neg (by omega)]

theorem cells3 {w : World} {g : Nat} {x0 x1 x2 : Value} {t : TypeId} (h : w.heap[g]? = some (Obj.cells #[x0, x1, x2] t (0, 0))) : w.cell? ⟨g, 0, none⟩ = some x0 ∧ w.cell? ⟨g, 1, none⟩ = some x1 ∧ w.cell? ⟨g, 2, none⟩ = some x2 := by
  refine ⟨?_, ?_, ?_⟩ <;> simp [World.cell?, h]

set_option maxRecDepth 100000 in
set_option maxHeartbeats 1000000 in
theorem rowsCodes_walk (table row x : Int) (w : World) (h1 : (Lit.int .i64 table).wf = true) (h2 : (Lit.int .i64 row).wf = true) (h3 : (Lit.int .i64 x).wf = true) :
    Calls Try.prog 7 #[.int .i64 table, .int .i64 row, .int .i64 x] w fun e w' => e = .returned (.bool true) ∧ Below w.heap.size w w' := by
  clear h1 h2 h3
  have HC1 : Hid (∀ W, Calls Try.prog 17 #[.int .i64 table, .int .i64 row] W fun e w' => e = .returned (.tuple #[.int .i64 (codeI table row), .int .i64 (codeE table row)]) ∧ w' = W) := code_any table row
  have HC2 : Hid (∀ W, Calls Try.prog 18 #[.int .i64 table, .int .i64 row] W fun e w' => e = .returned (.tuple #[.int .i64 (codeI table row), .int .i64 (codeE table row)]) ∧ w' = W) := refCode_any table row
  have HD1 : Hid (∀ W, Calls Try.prog 19 #[.int .i64 x] W fun e w' => e = .returned (.tuple #[.int .i64 (codedT x), .int .i64 (codedR x), .int .i64 (codedE x)]) ∧ w' = W) := coded_any x
  have HD2 : Hid (∀ W, Calls Try.prog 20 #[.int .i64 x] W fun e w' => e = .returned (.agg #[.int .i64 (codedT x), .int .i64 (codedR x), .int .i64 (codedE x)]) ∧ Below W.heap.size W w') := refCoded_any x
  have HK1 : Hid (∀ W, Calls Try.prog 21 #[.int .i64 table] W fun e w' => e = .returned (.int .i64 (colsI table)) ∧ w' = W) := columns_any table
  have HK2 : Hid (∀ W, Calls Try.prog 22 #[.int .i64 table] W fun e w' => e = .returned (.int .i64 (colsI table)) ∧ w' = W) := refColumns_any table
  have HBK : Hid (codeE table row = 0 → 0 ≤ table → ∀ W, Calls Try.prog 19 #[.int .i64 (codeI table row)] W fun e w' => e = .returned (.tuple #[.int .i64 table, .int .i64 row, .int .i64 0]) ∧ w' = W) := fun he ht W => by
    have := coded_any (codeI table row) W
    obtain ⟨e1, e2, e3⟩ := codes_back he ht
    rw [e1, e2, e3] at this
    exact this
  generalize codeI table row = y at *
  generalize codeE table row = ye at *
  generalize codedT x = xt at *
  generalize codedR x = xr at *
  generalize codedE x = xe at *
  generalize colsI table = cc at *
  go_enter Try.func7, Try.ntmps7
  go_wp2_with fail
  refine (wakes4_any w).mono ?_
  rintro e w1 ⟨rfl, hb1⟩
  have HB1 : Hid (Below w.heap.size w w1) := hb1
  have hs1 := hb1.size
  clear hb1
  go_wp2_with (first
    | (go_at_call 17; refine (HC1.out _).mono ?_; rintro e wz ⟨rfl, hz⟩; subst wz)
    | (go_at_call 18; refine (HC2.out _).mono ?_; rintro e wz ⟨rfl, hz⟩; subst wz)
    | (go_at_call 19; refine (HD1.out _).mono ?_; rintro e wz ⟨rfl, hz⟩; subst wz))
  refine (HD2.out _).mono ?_
  rintro e w2 ⟨rfl, hb2⟩
  have HB2 : Hid (Below w.heap.size w (w2.alloc (Obj.cells #[.int .i64 xt, .int .i64 xr, .int .i64 xe] 49))) := (HB1.out.trans (hb2.mono hs1)).alloc (by have := hb2.size; omega) _
  clear hb2
  by_cases hok : ye = 0 ∧ 0 ≤ table
  · obtain ⟨rfl, ht⟩ := hok
    have HX : Hid _ := HBK.out rfl ht
    go_wp2_with (first
      | (go_at_call 19; refine (HX.out _).mono ?_; rintro e wz ⟨rfl, hz⟩; subst wz)
      | (go_at_call 21; refine (HK1.out _).mono ?_; rintro e wz ⟨rfl, hz⟩; subst wz)
      | (go_at_call 22; refine (HK2.out _).mono ?_; rintro e wz ⟨rfl, hz⟩; subst wz))
    go_ret
    exact ⟨rfl, HB2.out⟩
  · have hd : (ye == 0) = false ∨ ((ye == 0) = true ∧ ¬ 0 ≤ table) := by
      by_cases h : ye = 0
      · exact .inr ⟨by simp [h], fun h2 => hok ⟨h, h2⟩⟩
      · exact .inl (by simp [h])
    clear hok
    rcases hd with hd | ⟨hd, ht⟩
    · go_wp2_with (first
        | (go_at_call 21; refine (HK1.out _).mono ?_; rintro e wz ⟨rfl, hz⟩; subst wz)
        | (go_at_call 22; refine (HK2.out _).mono ?_; rintro e wz ⟨rfl, hz⟩; subst wz))
      go_ret
      exact ⟨rfl, HB2.out⟩
    · go_wp2_with (first
        | (go_at_call 21; refine (HK1.out _).mono ?_; rintro e wz ⟨rfl, hz⟩; subst wz)
        | (go_at_call 22; refine (HK2.out _).mono ?_; rintro e wz ⟨rfl, hz⟩; subst wz))
      go_ret
      exact ⟨rfl, HB2.out⟩

end Go.Proofs.Ytjmjpdamhondkaa
