/- Texts joined: RefAlone9. -/
import Derived.Test.YtclmafoelibihaaGreatJ41
/- alone and Fits of the references. -/
namespace Go.Proofs.YtclmafoelibihaaGreat
set_option linter.unusedVariables false
set_option linter.unusedSimpArgs false
open Go.RowKit
attribute [local go_sem ↓] Go.wp_at_zero Go.wp_at_succ

set_option maxHeartbeats 1000000 in
theorem alone_any (n : Int) (c : Cl) (w : World) :
    Calls Tryz.prog 189 #[.int .i64 n, clV c] w fun e w' => e = .returned (.int .i64 (raloneI n c)) ∧ Below w.heap.size w w' := by
  obtain ⟨w0, hw0⟩ : ∃ W, W = w.alloc (.cells #[.int .i64 c.k, .int .i64 c.tf, .int .i64 c.tt, .int .i64 c.hf, .int .i64 c.ht, .int .i64 c.fi, .int .i64 c.t0, .int .i64 c.t1, .int .i64 c.t2, .bool c.t3] 133) := ⟨_, rfl⟩
  have HW0 : Hid (w0 = _) := hw0
  have HB0 : Hid (Below w.heap.size w w0) := by rw [hw0]; exact made_below _ _ _
  have hA : At w0 w.heap.size (clC c).toArray 133 := by rw [hw0]; exact At.made w (clC c).toArray _
  have HK : Hid (∀ W, Below w0.heap.size w0 W → Ten W w.heap.size 0 c) := fun W hW => (hA.later hW).ten
  have HM : Hid (∀ W p q, Calls Tryz.prog 204 #[.agg #[.int .i64 c.k, .int .i64 c.tf, .int .i64 c.tt, .int .i64 c.hf, .int .i64 c.ht, .int .i64 c.fi, .int .i64 c.t0, .int .i64 c.t1, .int .i64 c.t2, .bool c.t3], .int .i64 p, .agg #[.int .i64 c.k, .int .i64 c.tf, .int .i64 c.tt, .int .i64 c.hf, .int .i64 c.ht, .int .i64 c.fi, .int .i64 c.t0, .int .i64 c.t1, .int .i64 c.t2, .bool c.t3], .int .i64 q] W fun e w' => e = .returned (.bool (rmeetB c p c q)) ∧ Below W.heap.size W w') := fun W p q => rmeet_any c p c q W
  obtain ⟨c0, c1, c2, c3, c4, c5, c6, c7, c8, c9⟩ := hA.ten
  clear hw0 hA
  unfold clV
  go_enter Tryz.func189, Tryz.ntmps189
  by_cases hA : c.k < 1 ∨ 4 < c.k ∨ ¬ (0 ≤ c.tf ∧ c.tf < c.tt ∧ c.tt ≤ n) ∨ ¬ (0 ≤ c.hf ∧ c.hf < c.ht ∧ c.ht ≤ n)
  · have HX : Hid (raloneI n c = 3) := by show _ = _; unfold raloneI; rw [if_pos hA]
    have HA : Hid (c.k < 1 ∨ 4 < c.k ∨ ¬ (0 ≤ c.tf ∧ c.tf < c.tt ∧ c.tt ≤ n) ∨ ¬ (0 ≤ c.hf ∧ c.hf < c.ht ∧ c.ht ≤ n)) := hA
    clear hA
    go_wp2_with (rw [← HW0.out])
    all_goals first
      | (go_ret; exact ⟨ret_int HX.out.symm, HB0.out⟩)
      | (exfalso; have := HA.out; simp only [Bool.not_eq_true', Bool.not_eq_false', decide_eq_true_eq, decide_eq_false_iff_not] at *; omega)
  · have HX : Hid (raloneI n c = if (c.k = 2 ∧ (c.fi < 0 ∨ c.hf ≤ c.fi)) ∨ (c.k ≠ 2 ∧ c.fi ≠ -1) then 3 else if (rmeetB c 1 c 2 || rmeetB c 1 c 3 || rmeetB c 2 c 3) = true then 12 else 0) := by show _ = _; unfold raloneI; rw [if_neg hA]
    obtain ⟨g1, g2, g3, g4, g5, g6, g7, g8⟩ : 1 ≤ c.k ∧ c.k ≤ 4 ∧ 0 ≤ c.tf ∧ c.tf < c.tt ∧ c.tt ≤ n ∧ 0 ≤ c.hf ∧ c.hf < c.ht ∧ c.ht ≤ n := by omega
    clear hA
    by_cases hF : (c.k = 2 ∧ (c.fi < 0 ∨ c.hf ≤ c.fi)) ∨ (c.k ≠ 2 ∧ c.fi ≠ -1)
    · have HX2 : Hid (raloneI n c = 3) := by show _ = _; rw [HX.out, if_pos hF]
      have HF : Hid ((c.k = 2 ∧ (c.fi < 0 ∨ c.hf ≤ c.fi)) ∨ (c.k ≠ 2 ∧ c.fi ≠ -1)) := hF
      clear hF
      go_wp2_with (rw [← HW0.out])
      all_goals first
        | (go_ret; exact ⟨ret_int HX2.out.symm, HB0.out⟩)
        | (exfalso; have := HF.out; simp only [beq_iff_eq, beq_eq_false_iff_ne, bne_iff_ne, bne_eq_false_iff_eq, ne_eq] at *; omega)
    · have HX2 : Hid (raloneI n c = if (rmeetB c 1 c 2 || rmeetB c 1 c 3 || rmeetB c 2 c 3) = true then 12 else 0) := by show _ = _; rw [HX.out, if_neg hF]
      have HP : Hid (c.k = 2 ∧ 0 ≤ c.fi ∧ c.fi < c.hf ∨ (c.k == 2) = false ∧ c.fi = -1) := by
        show _ ∨ _
        rw [beq_eq_false_iff_ne]
        omega
      clear hF
      have fin : Hid (∀ W a b d, Below w0.heap.size w0 W → a = rmeetB c 1 c 2 → b = rmeetB c 1 c 3 → d = rmeetB c 2 c 3 → Ending.returned (.int .i64 (if (a || b || d) = true then 12 else 0)) = Ending.returned (.int .i64 (raloneI n c)) ∧ Below w.heap.size w W) := fun W a b d hW ha hb hd => ⟨by rw [HX2.out, ha, hb, hd], bstep HB0.out hW⟩
      obtain ⟨hk, h5, h6⟩ | ⟨hk, h5⟩ := HP.out
      · obtain ⟨k, tf, tt, hf, ht, fi, t0, t1, t2, t3⟩ := c
        simp only at *
        subst hk
        go_wp2_with (rw [← HW0.out])
        refine (HM.out _ _ _).mono ?_
        rintro e w1 ⟨rfl, hb1⟩
        have HB1 : Hid (Below w0.heap.size w0 w1) := bstep (Below.refl _ _) hb1
        clear hb1 c0 c1 c2 c3 c4 c5 c6 c7 c8 c9
        obtain ⟨c0, c1, c2, c3, c4, c5, c6, c7, c8, c9⟩ := HK.out w1 HB1.out
        cases m1 : rmeetB ⟨2, tf, tt, hf, ht, fi, t0, t1, t2, t3⟩ 1 ⟨2, tf, tt, hf, ht, fi, t0, t1, t2, t3⟩ 2 with
        | true =>
          go_wp2_with fail
          go_ret
          have := fin.out w1 true _ _ HB1.out m1.symm rfl rfl
          simpa using this
        | false =>
          go_wp2_with fail
          refine (HM.out _ _ _).mono ?_
          rintro e w2 ⟨rfl, hb2⟩
          have HB2 : Hid (Below w0.heap.size w0 w2) := bstep HB1.out hb2
          clear hb2 c0 c1 c2 c3 c4 c5 c6 c7 c8 c9
          obtain ⟨c0, c1, c2, c3, c4, c5, c6, c7, c8, c9⟩ := HK.out w2 HB2.out
          cases m2 : rmeetB ⟨2, tf, tt, hf, ht, fi, t0, t1, t2, t3⟩ 1 ⟨2, tf, tt, hf, ht, fi, t0, t1, t2, t3⟩ 3 with
          | true =>
            go_wp2_with fail
            go_ret
            have := fin.out w2 false true _ HB2.out m1.symm m2.symm rfl
            simpa using this
          | false =>
            go_wp2_with fail
            refine (HM.out _ _ _).mono ?_
            rintro e w3 ⟨rfl, hb3⟩
            have HB3 : Hid (Below w0.heap.size w0 w3) := bstep HB2.out hb3
            clear hb3 c0 c1 c2 c3 c4 c5 c6 c7 c8 c9
            obtain ⟨c0, c1, c2, c3, c4, c5, c6, c7, c8, c9⟩ := HK.out w3 HB3.out
            cases m3 : rmeetB ⟨2, tf, tt, hf, ht, fi, t0, t1, t2, t3⟩ 2 ⟨2, tf, tt, hf, ht, fi, t0, t1, t2, t3⟩ 3 with
            | true =>
              go_wp2_with fail
              go_ret
              have := fin.out w3 false false true HB3.out m1.symm m2.symm m3.symm
              simpa using this
            | false =>
              go_wp2_with fail
              go_ret
              have := fin.out w3 false false false HB3.out m1.symm m2.symm m3.symm
              simpa using this
      · have n1 : ¬ c.k < 1 := by omega
        have n2 : ¬ 4 < c.k := by omega
        obtain ⟨k, tf, tt, hf, ht, fi, t0, t1, t2, t3⟩ := c
        simp only at *
        have n3 : ¬ k = 2 := by rw [beq_eq_false_iff_ne] at hk; exact hk
        subst h5
        go_wp2_with (rw [← HW0.out])
        refine (HM.out _ _ _).mono ?_
        rintro e w1 ⟨rfl, hb1⟩
        have HB1 : Hid (Below w0.heap.size w0 w1) := bstep (Below.refl _ _) hb1
        clear hb1 c0 c1 c2 c3 c4 c5 c6 c7 c8 c9
        obtain ⟨c0, c1, c2, c3, c4, c5, c6, c7, c8, c9⟩ := HK.out w1 HB1.out
        cases m1 : rmeetB ⟨k, tf, tt, hf, ht, -1, t0, t1, t2, t3⟩ 1 ⟨k, tf, tt, hf, ht, -1, t0, t1, t2, t3⟩ 2 with
        | true =>
          go_wp2_with fail
          go_ret
          have := fin.out w1 true _ _ HB1.out m1.symm rfl rfl
          simpa using this
        | false =>
          go_wp2_with fail
          refine (HM.out _ _ _).mono ?_
          rintro e w2 ⟨rfl, hb2⟩
          have HB2 : Hid (Below w0.heap.size w0 w2) := bstep HB1.out hb2
          clear hb2 c0 c1 c2 c3 c4 c5 c6 c7 c8 c9
          obtain ⟨c0, c1, c2, c3, c4, c5, c6, c7, c8, c9⟩ := HK.out w2 HB2.out
          cases m2 : rmeetB ⟨k, tf, tt, hf, ht, -1, t0, t1, t2, t3⟩ 1 ⟨k, tf, tt, hf, ht, -1, t0, t1, t2, t3⟩ 3 with
          | true =>
            go_wp2_with fail
            go_ret
            have := fin.out w2 false true _ HB2.out m1.symm m2.symm rfl
            simpa using this
          | false =>
            go_wp2_with fail
            refine (HM.out _ _ _).mono ?_
            rintro e w3 ⟨rfl, hb3⟩
            have HB3 : Hid (Below w0.heap.size w0 w3) := bstep HB2.out hb3
            clear hb3 c0 c1 c2 c3 c4 c5 c6 c7 c8 c9
            obtain ⟨c0, c1, c2, c3, c4, c5, c6, c7, c8, c9⟩ := HK.out w3 HB3.out
            cases m3 : rmeetB ⟨k, tf, tt, hf, ht, -1, t0, t1, t2, t3⟩ 2 ⟨k, tf, tt, hf, ht, -1, t0, t1, t2, t3⟩ 3 with
            | true =>
              go_wp2_with fail
              go_ret
              have := fin.out w3 false false true HB3.out m1.symm m2.symm m3.symm
              simpa using this
            | false =>
              go_wp2_with fail
              go_ret
              have := fin.out w3 false false false HB3.out m1.symm m2.symm m3.symm
              simpa using this

end Go.Proofs.YtclmafoelibihaaGreat
