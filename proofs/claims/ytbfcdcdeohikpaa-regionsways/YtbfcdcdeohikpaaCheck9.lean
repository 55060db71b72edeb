
/- isInRange, misfits, Check. -/
import Derived.Test.YtbfcdcdeohikpaaFits9
namespace Go.Proofs.Ytbfcdcdeohikpaa
set_option linter.unusedVariables false
set_option linter.unusedSimpArgs false
open Go.RowKit
attribute [local go_sem ↓] Go.wp_at_zero Go.wp_at_succ

theorem spans_ne (c : Cl) : spansL c ≠ [] := by unfold spansL; split <;> simp

set_option maxHeartbeats 2000000 in
theorem check1_any {c : Cl} {g : Nat} {vl : Value} {ll : List Sp} {w : World} (hg : w.cell? ⟨g, 0, none⟩ = some vl) (hlt : g < w.heap.size) (hl : Es spE w vl ll) (nl : ll ≠ []) :
    Calls Try.prog 28 #[clV c, .pointer (some ⟨g, 0, none⟩)] w fun e w' => e = .returned (.bool (!fitB (spansL c) ll)) ∧ Below w.heap.size w w' := by
  obtain ⟨w0, hw0⟩ : ∃ W, W = w.alloc (.cells #[.int .i64 c.k, .int .i64 c.tf, .int .i64 c.tt, .int .i64 c.hf, .int .i64 c.ht, .int .i64 c.fi, .int .i64 c.t0, .int .i64 c.t1, .int .i64 c.t2, .bool c.t3] 44) := ⟨_, rfl⟩
  have HW0 : Hid (w0 = _) := hw0
  have hb0 : Below w.heap.size w w0 := by rw [hw0]; exact made_below _ _ _
  have HB0 : Hid (Below w.heap.size w w0) := hb0
  have hA : At w0 w.heap.size (clC c).toArray 44 := by rw [hw0]; exact At.made w (clC c).toArray _
  obtain ⟨al, cl, hvl, _, _⟩ := hl.shape
  subst hvl
  have HK : Hid (∀ w', Below w0.heap.size w0 w' → w'.cell? ⟨g, 0, none⟩ = some (.slice al ll.length cl) ∧ Ten w' w.heap.size 0 c) := fun w' h => ⟨by rw [← hg]; exact (bstep hb0 h).cell (p := ⟨g, 0, none⟩) hlt, (hA.later h).ten⟩
  have HSp : Hid (∀ W, Calls Try.prog 27 #[.agg #[.int .i64 c.k, .int .i64 c.tf, .int .i64 c.tt, .int .i64 c.hf, .int .i64 c.ht, .int .i64 c.fi, .int .i64 c.t0, .int .i64 c.t1, .int .i64 c.t2, .bool c.t3]] W fun e w' => ∃ v, e = .returned v ∧ OwnE spE w' W.heap.size 63 v (spansL c) ∧ Below W.heap.size W w') := fun W => spansOf_any c W
  have HFi : Hid (∀ W v, Below w0.heap.size w0 W → Es spE W v (spansL c) → Calls Try.prog 29 #[v, .slice al ll.length cl] W fun e w' => e = .returned (.bool (fitB (spansL c) ll)) ∧ Below W.heap.size W w') := fun W v hW hv => fits_any hv ((hl.later hb0).later hW) (spans_ne c) nl
  obtain ⟨kg, c0, c1, c2, c3, c4, c5, c6, c7, c8, c9⟩ := HK.out w0 (Below.refl _ _)
  clear hg hl hw0 hb0 hA
  unfold clV
  go_enter Try.func28, Try.ntmps28
  go_wp2_with (rw [← HW0.out])
  go_region_held3 (fun w' => w'.cell? ⟨g, 0, none⟩ = some (.slice al ll.length cl) ∧ w'.cell? ⟨w.heap.size, 0, none⟩ = some (.int .i64 c.k) ∧ w'.cell? ⟨w.heap.size, 1, none⟩ = some (.int .i64 c.tf) ∧ w'.cell? ⟨w.heap.size, 2, none⟩ = some (.int .i64 c.tt) ∧ w'.cell? ⟨w.heap.size, 3, none⟩ = some (.int .i64 c.hf) ∧ w'.cell? ⟨w.heap.size, 4, none⟩ = some (.int .i64 c.ht) ∧ w'.cell? ⟨w.heap.size, 5, none⟩ = some (.int .i64 c.fi) ∧ w'.cell? ⟨w.heap.size, 6, none⟩ = some (.int .i64 c.t0) ∧ w'.cell? ⟨w.heap.size, 7, none⟩ = some (.int .i64 c.t1) ∧ w'.cell? ⟨w.heap.size, 8, none⟩ = some (.int .i64 c.t2) ∧ w'.cell? ⟨w.heap.size, 9, none⟩ = some (.bool c.t3))
    (first | (exact HK.out _ (bdrew _)) | (exact HK.out _ (bstep (bdrew _) hb1)) | (exact HK.out _ (bstep (bstep (bdrew _) hb1) hb2)))
    (first | (go_at_call 27; refine (HSp.out _).mono ?_; rintro e w1 ⟨v1, rfl, ho1, hb1⟩) | (go_at_call 29; refine (HFi.out _ _ (bstep (bdrew _) hb1) ho1.es).mono ?_; rintro e w2 ⟨rfl, hb2⟩))
  rename_i hheld
  clear hheld
  have HB2 : Hid (Below w.heap.size w w2) := bstep (bstep HB0.out (bstep (bdrew _) hb1)) hb2
  clear hb1 hb2 ho1 c0 c1 c2 c3 c4 c5 c6 c7 c8 c9 kg
  go_wp2_with fail
  go_ret
  exact ⟨rfl, HB2.out⟩

set_option maxHeartbeats 4000000 in
theorem isInRange_any (n : Int) (c : Cl) (w : World) :
    Calls Try.prog 30 #[.int .i64 n, clV c] w fun e w' => e = .returned (.bool (rngB n c)) ∧ Below w.heap.size w w' := by
  obtain ⟨w0, hw0⟩ : ∃ W, W = (w.alloc (.cells #[.int .i64 c.k, .int .i64 c.tf, .int .i64 c.tt, .int .i64 c.hf, .int .i64 c.ht, .int .i64 c.fi, .int .i64 c.t0, .int .i64 c.t1, .int .i64 c.t2, .bool c.t3] 44)).alloc (.cells #[.int .i64 0, .int .i64 n] 63) := ⟨_, rfl⟩
  have HW0 : Hid (w0 = _) := hw0
  have hb0 : Below w.heap.size w w0 := by rw [hw0]; exact bbox (made_below _ _ _) _
  have HB0 : Hid (Below w.heap.size w w0) := hb0
  have hA : At w0 w.heap.size (clC c).toArray 44 := by rw [hw0]; exact (At.made w (clC c).toArray _).next _
  have hS : At w0 (w.heap.size + 1) #[.int .i64 0, .int .i64 n] 63 := by
    rw [hw0]
    have := At.made (w.alloc (.cells #[.int .i64 c.k, .int .i64 c.tf, .int .i64 c.tt, .int .i64 c.hf, .int .i64 c.ht, .int .i64 c.fi, .int .i64 c.t0, .int .i64 c.t1, .int .i64 c.t2, .bool c.t3] 44)) #[.int .i64 0, .int .i64 n] 63
    simpa using this
  have HK : Hid (∀ w', Below w0.heap.size w0 w' → (w'.cell? ⟨w.heap.size + 1, 0, none⟩ = some (.int .i64 0) ∧ w'.cell? ⟨w.heap.size + 1, 1, none⟩ = some (.int .i64 n)) ∧ Ten w' w.heap.size 0 c) := fun w' h => ⟨(hS.later h).box2, (hA.later h).ten⟩
  have HTR : Hid (∀ W, Calls Try.prog 45 #[.agg #[.int .i64 c.k, .int .i64 c.tf, .int .i64 c.tt, .int .i64 c.hf, .int .i64 c.ht, .int .i64 c.fi, .int .i64 c.t0, .int .i64 c.t1, .int .i64 c.t2, .bool c.t3]] W fun e w' => e = .returned (.agg #[.int .i64 c.tf, .int .i64 c.tt]) ∧ Below W.heap.size W w') := fun W => triedBy_any c W
  have HHA : Hid (∀ W, Calls Try.prog 53 #[.agg #[.int .i64 c.k, .int .i64 c.tf, .int .i64 c.tt, .int .i64 c.hf, .int .i64 c.ht, .int .i64 c.fi, .int .i64 c.t0, .int .i64 c.t1, .int .i64 c.t2, .bool c.t3]] W fun e w' => e = .returned (.agg #[.int .i64 c.hf, .int .i64 c.ht]) ∧ Below W.heap.size W w') := fun W => handledBy_any c W
  have HFI : Hid (∀ W, Calls Try.prog 54 #[.agg #[.int .i64 c.k, .int .i64 c.tf, .int .i64 c.tt, .int .i64 c.hf, .int .i64 c.ht, .int .i64 c.fi, .int .i64 c.t0, .int .i64 c.t1, .int .i64 c.t2, .bool c.t3]] W fun e w' => e = .returned (.agg #[.int .i64 c.fi, .int .i64 c.hf]) ∧ Below W.heap.size W w') := fun W => filterOf_any c W
  have HP1 : Hid (∀ W, Calls Try.prog 60 #[.agg #[.int .i64 c.tf, .int .i64 c.tt], .agg #[.int .i64 0, .int .i64 n]] W fun e w' => e = .returned (.bool (partB (triS c) (0, n))) ∧ Below W.heap.size W w') := fun W => isPartOf_any (triS c) (0, n) W
  have HP2 : Hid (∀ W, Calls Try.prog 60 #[.agg #[.int .i64 c.hf, .int .i64 c.ht], .agg #[.int .i64 0, .int .i64 n]] W fun e w' => e = .returned (.bool (partB (hanS c) (0, n))) ∧ Below W.heap.size W w') := fun W => isPartOf_any (hanS c) (0, n) W
  have HP3 : Hid (∀ W, Calls Try.prog 60 #[.agg #[.int .i64 c.fi, .int .i64 c.hf], .agg #[.int .i64 0, .int .i64 n]] W fun e w' => e = .returned (.bool (partB (filS c) (0, n))) ∧ Below W.heap.size W w') := fun W => isPartOf_any (filS c) (0, n) W
  have HR : Hid (rngB n c = (decide (1 ≤ c.k) && decide (c.k ≤ 4) && partB (triS c) (0, n) && partB (hanS c) (0, n) && (if c.k = 2 then partB (filS c) (0, n) else decide (c.fi = -1)))) := rfl
  obtain ⟨⟨s0, s1⟩, c0, c1, c2, c3, c4, c5, c6, c7, c8, c9⟩ := HK.out w0 (Below.refl _ _)
  clear hw0 hb0 hA hS
  unfold clV
  go_enter Try.func30, Try.ntmps30
  go_wp2_with (rw [← HW0.out])
  by_cases h1 : c.k < 1
  · have HR2 : Hid (rngB n c = false) := by show _ = _; rw [HR.out, decide_eq_false (by omega)]; rfl
    go_quiet (fail)
    go_wp2_with fail
    go_ret
    exact ⟨ret_bool HR2.out.symm, bstep HB0.out (Below.drewN (Below.refl _ _) _)⟩
  · by_cases h4 : 4 < c.k
    · have HR2 : Hid (rngB n c = false) := by show _ = _; rw [HR.out, decide_eq_true (by omega : 1 ≤ c.k), decide_eq_false (by omega : ¬ c.k ≤ 4)]; rfl
      go_quiet (fail)
      go_wp2_with fail
      go_ret
      exact ⟨ret_bool HR2.out.symm, bstep HB0.out (Below.drewN (Below.refl _ _) _)⟩
    · cases hp1 : partB (triS c) (0, n) with
      | false =>
        have HR2 : Hid (rngB n c = false) := by show _ = _; rw [HR.out, hp1]; simp
        rw [hp1] at HP1
        go_region_with (first
          | (go_at_call 45; refine (HTR.out _).mono ?_; rintro e w1 ⟨rfl, hb1⟩; obtain ⟨⟨s0', s1'⟩, c0', c1', c2', c3', c4', c5', c6', c7', c8', c9'⟩ := HK.out w1 (bstep (bdrew _) hb1))
          | (go_at_call 60; refine (HP1.out _).mono ?_; rintro e w2 ⟨rfl, hb2⟩))
        all_goals
          have HB2 : Hid (Below w.heap.size w w2) := bstep HB0.out (bstep (bstep (bdrew _) hb1) hb2)
          clear hb1 hb2
          go_wp2_with fail
          go_ret
          exact ⟨ret_bool HR2.out.symm, HB2.out⟩
      | true =>
        rw [hp1] at HP1
        go_region_held3 (fun w' => (w'.cell? ⟨w.heap.size + 1, 0, none⟩ = some (.int .i64 0) ∧ w'.cell? ⟨w.heap.size + 1, 1, none⟩ = some (.int .i64 n)) ∧ w'.cell? ⟨w.heap.size, 0, none⟩ = some (.int .i64 c.k) ∧ w'.cell? ⟨w.heap.size, 1, none⟩ = some (.int .i64 c.tf) ∧ w'.cell? ⟨w.heap.size, 2, none⟩ = some (.int .i64 c.tt) ∧ w'.cell? ⟨w.heap.size, 3, none⟩ = some (.int .i64 c.hf) ∧ w'.cell? ⟨w.heap.size, 4, none⟩ = some (.int .i64 c.ht) ∧ w'.cell? ⟨w.heap.size, 5, none⟩ = some (.int .i64 c.fi) ∧ w'.cell? ⟨w.heap.size, 6, none⟩ = some (.int .i64 c.t0) ∧ w'.cell? ⟨w.heap.size, 7, none⟩ = some (.int .i64 c.t1) ∧ w'.cell? ⟨w.heap.size, 8, none⟩ = some (.int .i64 c.t2) ∧ w'.cell? ⟨w.heap.size, 9, none⟩ = some (.bool c.t3))
          (first | (exact HK.out _ (bdrew _)) | (exact HK.out _ (bstep (bdrew _) hb1)) | (exact HK.out _ (bstep (bstep (bdrew _) hb1) hb2)) | (exact HK.out _ (bstep (bstep (bstep (bdrew _) hb1) hb2) hb3)) | (exact HK.out _ (bstep (bstep (bstep (bstep (bdrew _) hb1) hb2) hb3) hb4)))
          (first
            | (go_at_call 45; refine (HTR.out _).mono ?_; rintro e w1 ⟨rfl, hb1⟩)
            | (go_at_call 53; refine (HHA.out _).mono ?_; rintro e w3 ⟨rfl, hb3⟩)
            | (go_at_call_of 60 (Value.agg #[Value.int IntKind.i64 c.tf, Value.int IntKind.i64 c.tt]); refine (HP1.out _).mono ?_; rintro e w2 ⟨rfl, hb2⟩)
            | (go_at_call 60; refine (HP2.out _).mono ?_; rintro e w4 ⟨rfl, hb4⟩))
        rename_i hheld
        clear hheld
        have HB4 : Hid (Below w0.heap.size w0 w4) := bstep (bstep (bstep (bstep (bdrew _) hb1) hb2) hb3) hb4
        have HK4 : Hid (∀ w', Below w4.heap.size w4 w' → (w'.cell? ⟨w.heap.size + 1, 0, none⟩ = some (.int .i64 0) ∧ w'.cell? ⟨w.heap.size + 1, 1, none⟩ = some (.int .i64 n)) ∧ Ten w' w.heap.size 0 c) := fun w' h => HK.out w' (bstep HB4.out h)
        clear hb1 hb2 hb3 hb4 s0 s1 c0 c1 c2 c3 c4 c5 c6 c7 c8 c9
        obtain ⟨⟨s0, s1⟩, c0, c1, c2, c3, c4, c5, c6, c7, c8, c9⟩ := HK.out w4 HB4.out
        cases hp2 : partB (hanS c) (0, n) with
        | false =>
          have HR2 : Hid (rngB n c = false) := by show _ = _; rw [HR.out, hp2]; simp
          go_wp2_with fail
          go_ret
          exact ⟨ret_bool HR2.out.symm, bstep HB0.out HB4.out⟩
        | true =>
          by_cases hk : c.k = 2
          · have hk' : (c.k == 2) = true := by rw [hk]; rfl
            have HR2 : Hid (rngB n c = partB (filS c) (0, n)) := by show _ = _; rw [HR.out, hp1, hp2, decide_eq_true (by omega : 1 ≤ c.k), decide_eq_true (by omega : c.k ≤ 4), if_pos hk]; simp
            clear hk
            go_wp2_with fail
            go_region_held3 (fun w' => (w'.cell? ⟨w.heap.size + 1, 0, none⟩ = some (.int .i64 0) ∧ w'.cell? ⟨w.heap.size + 1, 1, none⟩ = some (.int .i64 n)) ∧ w'.cell? ⟨w.heap.size, 0, none⟩ = some (.int .i64 c.k) ∧ w'.cell? ⟨w.heap.size, 1, none⟩ = some (.int .i64 c.tf) ∧ w'.cell? ⟨w.heap.size, 2, none⟩ = some (.int .i64 c.tt) ∧ w'.cell? ⟨w.heap.size, 3, none⟩ = some (.int .i64 c.hf) ∧ w'.cell? ⟨w.heap.size, 4, none⟩ = some (.int .i64 c.ht) ∧ w'.cell? ⟨w.heap.size, 5, none⟩ = some (.int .i64 c.fi) ∧ w'.cell? ⟨w.heap.size, 6, none⟩ = some (.int .i64 c.t0) ∧ w'.cell? ⟨w.heap.size, 7, none⟩ = some (.int .i64 c.t1) ∧ w'.cell? ⟨w.heap.size, 8, none⟩ = some (.int .i64 c.t2) ∧ w'.cell? ⟨w.heap.size, 9, none⟩ = some (.bool c.t3))
              (first | (exact HK4.out _ (bdrew _)) | (exact HK4.out _ (bstep (bdrew _) hb5)) | (exact HK4.out _ (bstep (bstep (bdrew _) hb5) hb6)))
              (first
                | (go_at_call 54; refine (HFI.out _).mono ?_; rintro e w5 ⟨rfl, hb5⟩)
                | (go_at_call 60; refine (HP3.out _).mono ?_; rintro e w6 ⟨rfl, hb6⟩))
            rename_i hheld
            clear hheld
            have HB6 : Hid (Below w.heap.size w w6) := bstep (bstep HB0.out HB4.out) (bstep (bstep (bdrew _) hb5) hb6)
            clear hb5 hb6
            go_wp2_with fail
            go_ret
            exact ⟨ret_bool HR2.out.symm, HB6.out⟩
          · have hk' : (c.k == 2) = false := by rw [beq_eq_false_iff_ne]; exact hk
            have HR2 : Hid (rngB n c = decide (c.fi = -1)) := by show _ = _; rw [HR.out, hp1, hp2, decide_eq_true (by omega : 1 ≤ c.k), decide_eq_true (by omega : c.k ≤ 4), if_neg hk]; simp
            clear hk
            go_wp2_with fail
            go_ret
            refine ⟨ret_bool ?_, bstep HB0.out HB4.out⟩
            rw [HR2.out, Bool.eq_iff_iff]; simp

end Go.Proofs.Ytbfcdcdeohikpaa
