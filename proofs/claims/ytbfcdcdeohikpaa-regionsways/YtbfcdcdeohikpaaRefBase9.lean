
/- Bounds, In, meet, within, alone of the references. -/
import Derived.Test.YtbfcdcdeohikpaaCheckF9
namespace Go.Proofs.Ytbfcdcdeohikpaa
set_option linter.unusedVariables false
set_option linter.unusedSimpArgs false
open Go.RowKit
attribute [local go_sem ↓] Go.wp_at_zero Go.wp_at_succ

/-- The second of two new blocks. -/
theorem At.made2 (w : World) (o : Obj) (C : Array Value) (t : TypeId) : At ((w.alloc o).alloc (.cells C t)) (w.heap.size + 1) C t := by
  have := At.made (w.alloc o) C t
  simpa using this

set_option maxHeartbeats 1000000 in
theorem bounds_any (c : Cl) (p : Int) (w : World) :
    Calls Try.prog 19 #[clV c, .int .i64 p] w fun e w' => e = .returned (.tuple #[.int .i64 (bnd c p).1, .int .i64 (bnd c p).2]) ∧ Below w.heap.size w w' := by
  obtain ⟨w0, hw0⟩ : ∃ W, W = w.alloc (.cells #[.int .i64 c.k, .int .i64 c.tf, .int .i64 c.tt, .int .i64 c.hf, .int .i64 c.ht, .int .i64 c.fi, .int .i64 c.t0, .int .i64 c.t1, .int .i64 c.t2, .bool c.t3] 44) := ⟨_, rfl⟩
  have HW0 : Hid (w0 = _) := hw0
  have HB0 : Hid (Below w.heap.size w w0) := by rw [hw0]; exact made_below _ _ _
  have hA : At w0 w.heap.size (clC c).toArray 44 := by rw [hw0]; exact At.made w (clC c).toArray _
  obtain ⟨c0, c1, c2, c3, c4, c5, c6, c7, c8, c9⟩ := hA.ten
  clear hw0 hA
  unfold clV
  go_enter Try.func19, Try.ntmps19
  by_cases h1 : p = 1
  · subst h1
    go_wp2_with (rw [← HW0.out])
    go_quiet (fail)
    go_wp2_with fail
    go_ret2
    exact ⟨rfl, bstep HB0.out (Below.drewN (Below.refl _ _) _)⟩
  · have h1' : (p == 1) = false := by rw [beq_eq_false_iff_ne]; exact h1
    by_cases h2 : p = 2
    · subst h2
      go_wp2_with (rw [← HW0.out])
      go_quiet (fail)
      go_wp2_with fail
      go_ret2
      exact ⟨rfl, bstep HB0.out (Below.drewN (Below.refl _ _) _)⟩
    · have h2' : (p == 2) = false := by rw [beq_eq_false_iff_ne]; exact h2
      have HR : Hid (bnd c p = if c.k = 2 then (c.fi, c.hf) else (0, 0)) := by show _ = _; unfold bnd; rw [if_neg h1, if_neg h2]
      clear h1 h2
      by_cases hk : c.k = 2
      · have hk' : (c.k == 2) = true := by rw [hk]; rfl
        have HR2 : Hid (bnd c p = (c.fi, c.hf)) := by show _ = _; rw [HR.out, if_pos hk]
        clear hk
        go_wp2_with (rw [← HW0.out])
        go_quiet (fail)
        go_wp2_with fail
        go_ret2
        exact ⟨by rw [HR2.out]; rfl, bstep HB0.out (Below.drewN (Below.refl _ _) _)⟩
      · have hk' : (c.k == 2) = false := by rw [beq_eq_false_iff_ne]; exact hk
        have HR2 : Hid (bnd c p = (0, 0)) := by show _ = _; rw [HR.out, if_neg hk]
        clear hk
        go_wp2_with (rw [← HW0.out])
        go_ret2
        exact ⟨by rw [HR2.out]; rfl, HB0.out⟩

set_option maxHeartbeats 1000000 in
theorem in_any (c : Cl) (p n : Int) (w : World) :
    Calls Try.prog 41 #[clV c, .int .i64 p, .int .i64 n] w fun e w' => e = .returned (.bool (hasB (bnd c p) n)) ∧ Below w.heap.size w w' := by
  obtain ⟨w0, hw0⟩ : ∃ W, W = w.alloc (.cells #[.int .i64 c.k, .int .i64 c.tf, .int .i64 c.tt, .int .i64 c.hf, .int .i64 c.ht, .int .i64 c.fi, .int .i64 c.t0, .int .i64 c.t1, .int .i64 c.t2, .bool c.t3] 44) := ⟨_, rfl⟩
  have HW0 : Hid (w0 = _) := hw0
  have HB0 : Hid (Below w.heap.size w w0) := by rw [hw0]; exact made_below _ _ _
  have hA : At w0 w.heap.size (clC c).toArray 44 := by rw [hw0]; exact At.made w (clC c).toArray _
  obtain ⟨c0, c1, c2, c3, c4, c5, c6, c7, c8, c9⟩ := hA.ten
  have HBo : Hid (Calls Try.prog 19 #[.agg #[.int .i64 c.k, .int .i64 c.tf, .int .i64 c.tt, .int .i64 c.hf, .int .i64 c.ht, .int .i64 c.fi, .int .i64 c.t0, .int .i64 c.t1, .int .i64 c.t2, .bool c.t3], .int .i64 p] w0 fun e w' => e = .returned (.tuple #[.int .i64 (bnd c p).1, .int .i64 (bnd c p).2]) ∧ Below w0.heap.size w0 w') := bounds_any c p w0
  have HR : Hid (hasB (bnd c p) n = (decide ((bnd c p).1 ≤ n) && decide (n < (bnd c p).2))) := rfl
  clear hw0 hA
  unfold clV
  go_enter Try.func41, Try.ntmps41
  go_wp2_with (rw [← HW0.out])
  refine Calls.mono HBo.out ?_
  rintro e w1 ⟨rfl, hb1⟩
  have HB1 : Hid (Below w.heap.size w w1) := bstep HB0.out hb1
  clear hb1 c0 c1 c2 c3 c4 c5 c6 c7 c8 c9
  generalize (bnd c p).1 = x at *
  generalize (bnd c p).2 = y at *
  go_wp2_with fail
  all_goals go_ret
  all_goals refine ⟨ret_bool ?_, HB1.out⟩
  all_goals (rw [HR.out]; simp_all; try omega)

set_option maxHeartbeats 1000000 in
theorem rmeet_any (a : Cl) (p : Int) (b : Cl) (q : Int) (w : World) :
    Calls Try.prog 63 #[clV a, .int .i64 p, clV b, .int .i64 q] w fun e w' => e = .returned (.bool (rmeetB a p b q)) ∧ Below w.heap.size w w' := by
  obtain ⟨w0, hw0⟩ : ∃ W, W = (w.alloc (.cells #[.int .i64 a.k, .int .i64 a.tf, .int .i64 a.tt, .int .i64 a.hf, .int .i64 a.ht, .int .i64 a.fi, .int .i64 a.t0, .int .i64 a.t1, .int .i64 a.t2, .bool a.t3] 44)).alloc (.cells #[.int .i64 b.k, .int .i64 b.tf, .int .i64 b.tt, .int .i64 b.hf, .int .i64 b.ht, .int .i64 b.fi, .int .i64 b.t0, .int .i64 b.t1, .int .i64 b.t2, .bool b.t3] 44) := ⟨_, rfl⟩
  have HW0 : Hid (w0 = _) := hw0
  have HB0 : Hid (Below w.heap.size w w0) := by rw [hw0]; exact bbox (made_below _ _ _) _
  have hA : At w0 w.heap.size (clC a).toArray 44 := by rw [hw0]; exact (At.made w (clC a).toArray _).next _
  have hA2 : At w0 (w.heap.size + 1) (clC b).toArray 44 := by
    rw [hw0]; exact At.made2 w _ (clC b).toArray 44
  have HK : Hid (∀ W, Below w0.heap.size w0 W → Ten W w.heap.size 0 a ∧ Ten W (w.heap.size + 1) 0 b) := fun W hW => ⟨(hA.later hW).ten, (hA2.later hW).ten⟩
  obtain ⟨⟨c0, c1, c2, c3, c4, c5, c6, c7, c8, c9⟩, _⟩ := HK.out w0 (Below.refl _ _)
  have HBo : Hid (∀ W, Calls Try.prog 19 #[.agg #[.int .i64 a.k, .int .i64 a.tf, .int .i64 a.tt, .int .i64 a.hf, .int .i64 a.ht, .int .i64 a.fi, .int .i64 a.t0, .int .i64 a.t1, .int .i64 a.t2, .bool a.t3], .int .i64 p] W fun e w' => e = .returned (.tuple #[.int .i64 (bnd a p).1, .int .i64 (bnd a p).2]) ∧ Below W.heap.size W w') := fun W => bounds_any a p W
  have HBo2 : Hid (∀ W, Calls Try.prog 19 #[.agg #[.int .i64 b.k, .int .i64 b.tf, .int .i64 b.tt, .int .i64 b.hf, .int .i64 b.ht, .int .i64 b.fi, .int .i64 b.t0, .int .i64 b.t1, .int .i64 b.t2, .bool b.t3], .int .i64 q] W fun e w' => e = .returned (.tuple #[.int .i64 (bnd b q).1, .int .i64 (bnd b q).2]) ∧ Below W.heap.size W w') := fun W => bounds_any b q W
  have HR : Hid (rmeetB a p b q = (decide ((bnd a p).1 < (bnd b q).2) && decide ((bnd b q).1 < (bnd a p).2) && decide ((bnd a p).1 < (bnd a p).2) && decide ((bnd b q).1 < (bnd b q).2))) := rfl
  clear hw0 hA hA2
  unfold clV
  go_enter Try.func63, Try.ntmps63
  go_wp2_with (rw [← HW0.out])
  refine (HBo.out _).mono ?_
  rintro e w1 ⟨rfl, hb1⟩
  clear c0 c1 c2 c3 c4 c5 c6 c7 c8 c9
  obtain ⟨_, ⟨d0, d1, d2, d3, d4, d5, d6, d7, d8, d9⟩⟩ := HK.out w1 hb1
  have HB1 : Hid (Below w.heap.size w w1) := bstep HB0.out hb1
  clear hb1
  go_wp2_with fail
  refine (HBo2.out _).mono ?_
  rintro e w2 ⟨rfl, hb2⟩
  have HB2 : Hid (Below w.heap.size w w2) := bstep HB1.out hb2
  clear hb2 d0 d1 d2 d3 d4 d5 d6 d7 d8 d9 HBo HBo2
  generalize (bnd a p).1 = x at *
  generalize (bnd a p).2 = y at *
  generalize (bnd b q).1 = x' at *
  generalize (bnd b q).2 = y' at *
  go_wp2_with fail
  all_goals go_ret
  all_goals refine ⟨ret_bool ?_, HB2.out⟩
  all_goals (rw [HR.out]; simp_all; try omega)

set_option maxHeartbeats 1000000 in
theorem rwithin_any (a : Cl) (p : Int) (b : Cl) (q : Int) (w : World) :
    Calls Try.prog 64 #[clV a, .int .i64 p, clV b, .int .i64 q] w fun e w' => e = .returned (.bool (rwithinB a p b q)) ∧ Below w.heap.size w w' := by
  obtain ⟨w0, hw0⟩ : ∃ W, W = (w.alloc (.cells #[.int .i64 a.k, .int .i64 a.tf, .int .i64 a.tt, .int .i64 a.hf, .int .i64 a.ht, .int .i64 a.fi, .int .i64 a.t0, .int .i64 a.t1, .int .i64 a.t2, .bool a.t3] 44)).alloc (.cells #[.int .i64 b.k, .int .i64 b.tf, .int .i64 b.tt, .int .i64 b.hf, .int .i64 b.ht, .int .i64 b.fi, .int .i64 b.t0, .int .i64 b.t1, .int .i64 b.t2, .bool b.t3] 44) := ⟨_, rfl⟩
  have HW0 : Hid (w0 = _) := hw0
  have HB0 : Hid (Below w.heap.size w w0) := by rw [hw0]; exact bbox (made_below _ _ _) _
  have hA : At w0 w.heap.size (clC a).toArray 44 := by rw [hw0]; exact (At.made w (clC a).toArray _).next _
  have hA2 : At w0 (w.heap.size + 1) (clC b).toArray 44 := by
    rw [hw0]; exact At.made2 w _ (clC b).toArray 44
  have HK : Hid (∀ W, Below w0.heap.size w0 W → Ten W w.heap.size 0 a ∧ Ten W (w.heap.size + 1) 0 b) := fun W hW => ⟨(hA.later hW).ten, (hA2.later hW).ten⟩
  obtain ⟨⟨c0, c1, c2, c3, c4, c5, c6, c7, c8, c9⟩, _⟩ := HK.out w0 (Below.refl _ _)
  have HBo : Hid (∀ W, Calls Try.prog 19 #[.agg #[.int .i64 a.k, .int .i64 a.tf, .int .i64 a.tt, .int .i64 a.hf, .int .i64 a.ht, .int .i64 a.fi, .int .i64 a.t0, .int .i64 a.t1, .int .i64 a.t2, .bool a.t3], .int .i64 p] W fun e w' => e = .returned (.tuple #[.int .i64 (bnd a p).1, .int .i64 (bnd a p).2]) ∧ Below W.heap.size W w') := fun W => bounds_any a p W
  have HBo2 : Hid (∀ W, Calls Try.prog 19 #[.agg #[.int .i64 b.k, .int .i64 b.tf, .int .i64 b.tt, .int .i64 b.hf, .int .i64 b.ht, .int .i64 b.fi, .int .i64 b.t0, .int .i64 b.t1, .int .i64 b.t2, .bool b.t3], .int .i64 q] W fun e w' => e = .returned (.tuple #[.int .i64 (bnd b q).1, .int .i64 (bnd b q).2]) ∧ Below W.heap.size W w') := fun W => bounds_any b q W
  have HR : Hid (rwithinB a p b q = if (bnd a p).1 = 0 ∧ (bnd a p).2 = 0 then true else decide ((bnd b q).1 ≤ (bnd a p).1) && decide ((bnd a p).2 ≤ (bnd b q).2) && (decide ((bnd b q).1 < (bnd a p).1) || decide ((bnd a p).2 < (bnd b q).2))) := rfl
  clear hw0 hA hA2
  unfold clV
  go_enter Try.func64, Try.ntmps64
  go_wp2_with (rw [← HW0.out])
  refine (HBo.out _).mono ?_
  rintro e w1 ⟨rfl, hb1⟩
  clear c0 c1 c2 c3 c4 c5 c6 c7 c8 c9
  obtain ⟨_, ⟨d0, d1, d2, d3, d4, d5, d6, d7, d8, d9⟩⟩ := HK.out w1 hb1
  have HB1 : Hid (Below w.heap.size w w1) := bstep HB0.out hb1
  clear hb1
  go_wp2_with fail
  refine (HBo2.out _).mono ?_
  rintro e w2 ⟨rfl, hb2⟩
  have HB2 : Hid (Below w.heap.size w w2) := bstep HB1.out hb2
  clear hb2 d0 d1 d2 d3 d4 d5 d6 d7 d8 d9 HBo HBo2
  generalize (bnd a p).1 = x at *
  generalize (bnd a p).2 = y at *
  generalize (bnd b q).1 = x' at *
  generalize (bnd b q).2 = y' at *
  go_wp2_with fail
  all_goals go_ret
  all_goals refine ⟨ret_bool ?_, HB2.out⟩
  all_goals (rw [HR.out]; simp_all; try omega)

end Go.Proofs.Ytbfcdcdeohikpaa
