/- Texts joined: Know10. -/
import Derived.Test.YtclmafoelibihaaGreatJ25
import Derived.Test.YtclmafoelibihaaGreatJ27
/- What an image asks of its parts, one by one: numbers, types, instructions, clauses. -/
namespace Go.Proofs.YtclmafoelibihaaGreat
set_option linter.unusedVariables false
set_option linter.unusedSimpArgs false
open Go.RowKit
attribute [local go_sem ↓] Go.wp_at_zero Go.wp_at_succ

def szV (a b c : Nat) : Value := .agg #[.int .i64 a, .int .i64 b, .int .i64 c]
def szC (a b c : Nat) : Array Value := #[.int .i64 a, .int .i64 b, .int .i64 c]
def insA (x : Ins) : Array Value := #[.int .i64 x.1, .int .i64 x.2.1, .int .i64 x.2.2.1, .int .i64 x.2.2.2.1, .int .i64 x.2.2.2.2.1, .bool x.2.2.2.2.2]
def tyA (x : Ty) : Array Value := #[.int .i64 x.1, .int .i64 x.2.1, .int .i64 x.2.2.1, .bool x.2.2.2]

/-- Two boxes, and what comes behind them. -/
theorem two_boxes {w w0 : World} {A B : Array Value} {s t : TypeId} (h : w0 = (w.alloc (.cells A s)).alloc (.cells B t)) :
    Below w.heap.size w w0 ∧ ∀ W, Below w0.heap.size w0 W → At W w.heap.size A s ∧ At W (w.heap.size + 1) B t := by
  subst h
  refine ⟨bbox (made_below _ _ _) _, fun W hW => ⟨((At.made w A s).next _).later hW, ?_⟩⟩
  have := (At.made (w.alloc (.cells A s)) B t).later hW
  simpa using this

theorem isNumber_any (i n : Int) (w : World) :
    Calls Tryz.prog 51 #[.int .i64 i, .int .i64 n] w fun e w' => e = .returned (.bool (decide (0 ≤ i) && decide (i < n))) ∧ w' = w := by
  go_enter Tryz.func51, Tryz.ntmps51
  go_wp2
  all_goals go_ret
  all_goals refine ⟨ret_bool ?_, rfl⟩
  all_goals (rw [Bool.eq_iff_iff]; simp; try omega)
theorem isWithin_any (i n : Int) (w : World) :
    Calls Tryz.prog 82 #[.int .i64 i, .int .i64 n] w fun e w' => e = .returned (.bool (witB i n)) ∧ w' = w := by
  go_enter Tryz.func82, Tryz.ntmps82
  go_wp2
  all_goals go_ret
  all_goals refine ⟨ret_bool ?_, rfl⟩
  all_goals (unfold witB; rw [Bool.eq_iff_iff]; simp; try omega)

set_option maxHeartbeats 1000000 in
theorem knows_any (a b c : Nat) (t : Ty) (w : World) :
    Calls Tryz.prog 121 #[szV a b c, tv t] w fun e w' => e = .returned (.bool (ownB a t)) ∧ Below w.heap.size w w' := by
  obtain ⟨k, i, d, r⟩ := t
  have HB : Hid (Below w.heap.size w ((w.alloc (.cells (szC a b c) 65)).alloc (.cells #[.int .i64 k, .int .i64 i, .int .i64 d, .bool r] 44))) := bbox (made_below _ _ _) _
  unfold szV tv
  by_cases h5 : k = 5
  · subst h5
    go_enter Tryz.func121, Tryz.ntmps121
    go_wp2_with (go_at_call 51; refine (isNumber_any _ _ _).mono ?_; rintro e wz ⟨rfl, hz⟩; subst wz)
    go_ret
    exact ⟨ret_bool (by simp [ownB, numB]), HB.out⟩
  · by_cases h6 : k = 6
    · subst h6
      go_enter Tryz.func121, Tryz.ntmps121
      go_wp2_with (go_at_call 51; refine (isNumber_any _ _ _).mono ?_; rintro e wz ⟨rfl, hz⟩; subst wz)
      go_ret
      exact ⟨ret_bool (by simp [ownB, numB]), HB.out⟩
    · have HO : Hid (ownB a (k, i, d, r) = true) := by show _ = _; unfold ownB; rw [if_neg (by simp; omega)]
      have e5 : (k == 5) = false := by simpa using h5
      have e6 : (k == 6) = false := by simpa using h6
      go_enter Tryz.func121, Tryz.ntmps121
      go_wp2
      go_ret
      exact ⟨ret_bool HO.out.symm, HB.out⟩

set_option maxHeartbeats 1000000 in
/-- The kind of an instruction's operand. -/
theorem operandOf10_any (x : Ins) (w : World) :
    Calls Tryz.prog 158 #[iv x] w fun e w' => e = .returned (.int .i64 (opP x.1)) ∧ Below w.heap.size w w' := by
  obtain ⟨w0, hw0⟩ : ∃ W, W = w.alloc (.cells (insA x) 126) := ⟨_, rfl⟩
  have HW0 : Hid (w0 = _) := hw0
  have hb0 : Below w.heap.size w w0 := by rw [hw0]; exact made_below _ _ _
  have HB0 : Hid (Below w.heap.size w w0) := hb0
  have hA : At w0 w.heap.size (insA x) 126 := by rw [hw0]; exact At.made w _ _
  have HO : Hid (Calls Tryz.prog 156 #[.int .i64 x.1] w0 fun e w' => ∃ s q z, e = .returned (.tuple #[.agg #[.string s, .int .i64 (opP x.1), .int .i64 q], .int .i64 z]) ∧ Below w0.heap.size w0 w') := by
    by_cases hin : 1 ≤ x.1 ∧ x.1 ≤ 75
    · exact (of_in x.1 hin.1 hin.2 w0).mono fun e w' ⟨he, hb⟩ => ⟨_, _, _, he, hb⟩
    · refine (of_out x.1 hin w0).mono fun e w' ⟨he, hb⟩ => ⟨⟨#[]⟩, 0, 3, ?_, hb⟩
      rw [he, opP_out hin]
  have hc := hA.cell
  unfold insA at hc
  unfold insA at HW0
  clear hw0 hb0 hA
  unfold iv
  go_enter Tryz.func158, Tryz.ntmps158
  go_wp2_with (rw [← HW0.out])
  refine Calls.mono HO.out ?_
  rintro e w1 ⟨s, q, z, rfl, hb1⟩
  have HB1 : Hid (Below w.heap.size w w1) := bstep HB0.out hb1
  clear hb1 hc HO
  go_wp2
  go_ret
  exact ⟨rfl, bbox HB1.out _⟩

set_option maxHeartbeats 2000000 in
theorem has_any10 (a b c n : Nat) (x : Ins) (w : World) :
    Calls Tryz.prog 130 #[szV a b c, iv x, .int .i64 n] w fun e w' => e = .returned (.bool (hasI a b c n x)) ∧ Below w.heap.size w w' := by
  obtain ⟨w0, hw0⟩ : ∃ W, W = (w.alloc (.cells (szC a b c) 65)).alloc (.cells (insA x) 126) := ⟨_, rfl⟩
  have HW0 : Hid (w0 = _) := hw0
  obtain ⟨hb0, hat⟩ := two_boxes hw0
  have HB0 : Hid (Below w.heap.size w w0) := hb0
  have HAT : Hid (∀ W, Below w0.heap.size w0 W → At W w.heap.size (szC a b c) 65 ∧ At W (w.heap.size + 1) (insA x) 126) := hat
  have HO : Hid (Calls Tryz.prog 158 #[.agg #[.int .i64 x.1, .int .i64 x.2.1, .int .i64 x.2.2.1, .int .i64 x.2.2.2.1, .int .i64 x.2.2.2.2.1, .bool x.2.2.2.2.2]] w0 fun e w' => e = .returned (.int .i64 (opP x.1)) ∧ Below w0.heap.size w0 w') := operandOf10_any x w0
  have hc := (hat w0 (Below.refl _ _)).2.cell
  unfold insA at hc
  unfold insA szC at HW0
  clear hw0 hb0 hat
  have HH : Hid (hasI a b c n x = if opP x.1 = 5 then numB x.2.1 n else if opP x.1 = 6 then numB x.2.1 c else if opP x.1 = 7 then numB x.2.1 b else if opP x.1 = 8 then ownB a x.2.2 else true) := rfl
  unfold szV iv
  go_enter Tryz.func130, Tryz.ntmps130
  go_wp2_with (rw [← HW0.out])
  refine Calls.mono HO.out ?_
  rintro e w1 ⟨rfl, hb1⟩
  obtain ⟨hA1, hA2⟩ := HAT.out w1 hb1
  have HB1 : Hid (Below w.heap.size w w1) := bstep HB0.out hb1
  have c1 := hA1.cell
  have c2 := hA2.cell
  unfold szC at c1
  unfold insA at c2
  clear hb1 hc HO hA1 hA2
  generalize opP x.1 = p at *
  by_cases h5 : p = 5
  · subst h5
    go_wp2_with (go_at_call 51; refine (isNumber_any _ _ _).mono ?_; rintro e wz ⟨rfl, hz⟩; subst wz)
    go_ret
    exact ⟨ret_bool (by rw [HH.out]; rfl), HB1.out⟩
  · have e5 : (p == 5) = false := by simpa using h5
    by_cases h6 : p = 6
    · subst h6
      go_wp2_with (go_at_call 51; refine (isNumber_any _ _ _).mono ?_; rintro e wz ⟨rfl, hz⟩; subst wz)
      go_ret
      exact ⟨ret_bool (by rw [HH.out]; rfl), HB1.out⟩
    · have e6 : (p == 6) = false := by simpa using h6
      by_cases h7 : p = 7
      · subst h7
        go_wp2_with (go_at_call 51; refine (isNumber_any _ _ _).mono ?_; rintro e wz ⟨rfl, hz⟩; subst wz)
        go_ret
        exact ⟨ret_bool (by rw [HH.out]; rfl), HB1.out⟩
      · have e7 : (p == 7) = false := by simpa using h7
        by_cases h8 : p = 8
        · subst h8
          have HKn : Hid (Calls Tryz.prog 121 #[.agg #[.int .i64 a, .int .i64 b, .int .i64 c], .agg #[.int .i64 x.2.2.1, .int .i64 x.2.2.2.1, .int .i64 x.2.2.2.2.1, .bool x.2.2.2.2.2]] w1 fun e w' => e = .returned (.bool (ownB a x.2.2)) ∧ Below w1.heap.size w1 w') := knows_any a b c x.2.2 w1
          go_wp2_with fail
          refine Calls.mono HKn.out ?_
          rintro e w2 ⟨rfl, hb2⟩
          have HB2 : Hid (Below w.heap.size w w2) := bstep HB1.out hb2
          clear hb2 c1 c2
          go_wp2
          go_ret
          exact ⟨ret_bool (by rw [HH.out]; rfl), HB2.out⟩
        · have e8 : (p == 8) = false := by simpa using h8
          go_wp2
          go_ret
          exact ⟨ret_bool (by rw [HH.out, if_neg h5, if_neg h6, if_neg h7, if_neg h8]), HB1.out⟩

set_option maxHeartbeats 1000000 in
theorem isFieldType_any (a b c : Nat) (t : Ty) (w : World) :
    Calls Tryz.prog 86 #[szV a b c, tv t] w fun e w' => e = .returned (.bool (fldB a t)) ∧ Below w.heap.size w w' := by
  obtain ⟨w0, hw0⟩ : ∃ W, W = (w.alloc (.cells (szC a b c) 65)).alloc (.cells (tyA t) 44) := ⟨_, rfl⟩
  have HW0 : Hid (w0 = _) := hw0
  obtain ⟨hb0, hat⟩ := two_boxes hw0
  have HB0 : Hid (Below w.heap.size w w0) := hb0
  have HAT : Hid (∀ W, Below w0.heap.size w0 W → At W w.heap.size (szC a b c) 65 ∧ At W (w.heap.size + 1) (tyA t) 44) := hat
  have hc := (hat w0 (Below.refl _ _)).2.cell
  have HF : Hid (fldB a t = (mayB 1 t.1 t.2.1 t.2.2.1 t.2.2.2 && ownB a t)) := rfl
  unfold tyA at hc
  unfold tyA szC at HW0
  clear hw0 hb0 hat
  unfold szV tv
  cases hm : mayB 1 t.1 t.2.1 t.2.2.1 t.2.2.2 with
  | false =>
    have HP := putField_no t.1 t.2.1 t.2.2.1 t.2.2.2 w0 hm
    go_enter Tryz.func86, Tryz.ntmps86
    go_wp2_with (rw [← HW0.out])
    refine Calls.mono HP ?_
    rintro e w1 ⟨rfl, hb1⟩
    have HB1 : Hid (Below w.heap.size w w1) := bstep HB0.out hb1
    clear hb1 hc HP
    go_wp2
    go_ret
    exact ⟨ret_bool (by rw [HF.out, hm]; rfl), HB1.out⟩
  | true =>
    have HP : Hid (Calls Tryz.prog 120 #[.agg #[.int .i64 t.1, .int .i64 t.2.1, .int .i64 t.2.2.1, .bool t.2.2.2]] w0 fun e w' => ∃ v, e = .returned (.tuple #[v, .int .i64 0]) ∧ Below w0.heap.size w0 w') := (putField_yes t.1 t.2.1 t.2.2.1 t.2.2.2 w0 hm).mono fun e w' ⟨v, he, _, hb⟩ => ⟨v, he, hb⟩
    go_enter Tryz.func86, Tryz.ntmps86
    go_wp2_with (rw [← HW0.out])
    refine Calls.mono HP.out ?_
    rintro e w1 ⟨v1, rfl, hb1⟩
    have HB1 : Hid (Below w.heap.size w w1) := bstep HB0.out hb1
    obtain ⟨hA1, hA2⟩ := HAT.out w1 hb1
    have c1 := hA1.cell
    have c2 := hA2.cell
    unfold szC at c1
    unfold tyA at c2
    have HKn : Hid (Calls Tryz.prog 121 #[.agg #[.int .i64 a, .int .i64 b, .int .i64 c], .agg #[.int .i64 t.1, .int .i64 t.2.1, .int .i64 t.2.2.1, .bool t.2.2.2]] w1 fun e w' => e = .returned (.bool (ownB a t)) ∧ Below w1.heap.size w1 w') := knows_any a b c t w1
    clear hb1 hc HP hA1 hA2
    go_wp2_with fail
    refine Calls.mono HKn.out ?_
    rintro e w2 ⟨rfl, hb2⟩
    have HB2 : Hid (Below w.heap.size w w2) := bstep HB1.out hb2
    clear hb2 c1 c2
    go_wp2
    go_ret
    exact ⟨ret_bool (by rw [HF.out, hm]; rfl), HB2.out⟩

set_option maxHeartbeats 1000000 in
theorem catches_any (a b c : Nat) (x : Cl) (w : World) :
    Calls Tryz.prog 133 #[szV a b c, clV x] w fun e w' => e = .returned (.bool (catB a x)) ∧ Below w.heap.size w w' := by
  obtain ⟨k, tf, tt, hf, ht, fi, t0, t1, t2, t3⟩ := x
  obtain ⟨w0, hw0⟩ : ∃ W, W = (w.alloc (.cells (szC a b c) 65)).alloc (.cells (clC ⟨k, tf, tt, hf, ht, fi, t0, t1, t2, t3⟩).toArray 133) := ⟨_, rfl⟩
  have HW0 : Hid (w0 = _) := hw0
  obtain ⟨hb0, hat⟩ := two_boxes hw0
  have HB0 : Hid (Below w.heap.size w w0) := hb0
  obtain ⟨hA1, hA2⟩ := hat w0 (Below.refl _ _)
  have c1 := hA1.cell
  have c2 := hA2.cell
  unfold szC at c1
  unfold clC at c2
  unfold szC clC at HW0
  clear hw0 hb0 hat hA1 hA2
  unfold szV clV
  by_cases h1 : k = 1
  · subst h1
    have HFt : Hid (Calls Tryz.prog 86 #[.agg #[.int .i64 a, .int .i64 b, .int .i64 c], .agg #[.int .i64 t0, .int .i64 t1, .int .i64 t2, .bool t3]] w0 fun e w' => e = .returned (.bool (fldB a (t0, t1, t2, t3))) ∧ Below w0.heap.size w0 w') := isFieldType_any a b c (t0, t1, t2, t3) w0
    go_enter Tryz.func133, Tryz.ntmps133
    go_wp2_with (rw [← HW0.out])
    refine Calls.mono HFt.out ?_
    rintro e w1 ⟨rfl, hb1⟩
    have HB1 : Hid (Below w.heap.size w w1) := bstep HB0.out hb1
    clear hb1 c1 c2
    go_wp2
    go_ret
    exact ⟨ret_bool rfl, HB1.out⟩
  · have e1 : (k == 1) = false := by simpa using h1
    have hz : ∀ W : World, (binOp .eql 44 (.agg #[.int .i64 t0, .int .i64 t1, .int .i64 t2, .bool t3]) (.agg #[.int .i64 0, .int .i64 0, .int .i64 0, .bool false])).run Tryz.prog W = .ok (.bool (t0 == 0 && t1 == 0 && t2 == 0 && t3 == false)) W := fun W => eq_ty W _ _ _ _ _ _ _ _
    have HR : Hid (catB a ⟨k, tf, tt, hf, ht, fi, t0, t1, t2, t3⟩ = (t0 == 0 && t1 == 0 && t2 == 0 && !t3)) := by show _ = _; unfold catB; rw [if_neg h1]
    go_enter Tryz.func133, Tryz.ntmps133
    go_wp2_with (rw [← HW0.out])
    go_ret
    exact ⟨ret_bool HR.out.symm, HB0.out⟩

end Go.Proofs.YtclmafoelibihaaGreat
