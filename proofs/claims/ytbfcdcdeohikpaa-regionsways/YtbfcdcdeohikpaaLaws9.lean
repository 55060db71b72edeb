
/- What the statements of layer 9 share: wakes, copied, may, SameInts. -/
import Derived.Test.YtbfcdcdeohikpaaRefWays9
import Derived.Test.YtbfcdcdeohikpaaRefCheck9
import Derived.Test.YtbfcdcdeohikpaaRefPicks9
namespace Go.Proofs.Ytbfcdcdeohikpaa
set_option linter.unusedVariables false
set_option linter.unusedSimpArgs false
open Go.RowKit
attribute [local go_sem ↓] Go.wp_at_zero Go.wp_at_succ

theorem Try.infoClause : (Try.prog.info? 44).map (fun i => (i.zero, i.size, i.bytes)) = some (some (.agg #[.int .i64 0, .int .i64 0, .int .i64 0, .int .i64 0, .int .i64 0, .int .i64 0, .int .i64 0, .int .i64 0, .int .i64 0, .bool false]), 10, 80) := by kernel_rfl

theorem copied9_any {v : Value} {l : List Cl} {w : World} (h : Es clE9 w v l) (hl : l.length ≤ 100000) :
    Calls Try.prog 10 #[v] w fun e w' => ∃ v', e = .returned v' ∧ Es clE9 w' v' l ∧ Below w.heap.size w w' := by
  obtain ⟨w0, hw0⟩ : ∃ W, W = w.alloc (.cells #[] 44) := ⟨_, rfl⟩
  have HW0 : Hid (w0 = _) := hw0
  have HO : Hid (OwnE clE9 w0 w.heap.size 44 (.slice (some ⟨w.heap.size, 0, none⟩) 0 0) []) := by
    show OwnE _ _ _ _ _ _
    rw [hw0]; exact OwnE.lit clE9 w w.heap.size 44 [] #[] 0 (Nat.le_refl _) rfl rfl (by simp [maxLen])
  have HB0 : Hid (Below w.heap.size w w0) := by show Below _ _ _; rw [hw0]; exact made_below _ _ _
  have HV : Hid (Es clE9 w0 v l) := h.later HB0.out
  have HL1 : Hid (([] : List Cl).length + l.length ≤ maxLen) := by show _ ≤ _; simp only [List.length_nil]; unfold maxLen; omega
  have HL2 : Hid (((([] : List Cl).length + l.length) + (([] : List Cl).length + l.length) / 4 + 192) * 80 ≤ 281474976710656) := by show _ ≤ _; simp only [List.length_nil]; omega
  obtain ⟨a, c, rfl, _, _⟩ := h.shape
  clear h hw0
  go_enter Try.func10, Try.ntmps10
  go_wp2_with (at_builtin; go_must (rw [← HW0.out]; refine wpList_append_es clE9 rfl (.tmp 3) (.tmp 4) 22 rfl w.heap.size 44 _ 80 Try.underlying22 Try.infoClause rfl rfl rfl HO.out HV.out HL1.out HL2.out HB0.out.size ?_; intro v5 w5 ho5 hg5))
  go_ret
  exact ⟨v5, rfl, by simpa using ho5.es, HB0.out.trans (grown_belowE HO.out hg5 (Nat.le_refl _) HB0.out.size)⟩

/-- A way as a value. -/
def wyV (x : Int × Int × Int) : Value := .agg #[.int .i64 x.1, .int .i64 x.2.1, .int .i64 x.2.2]
def MayR (l : List Cl) (x : Int × Int × Int) (r : Bool) : Prop := r = true → x.1 ≤ 100000 ∧ RightL x.1 l

set_option maxHeartbeats 2000000 in
theorem may_any {v : Value} {l : List Cl} {w : World} (h : Es clE9 w v l) (x : Int × Int × Int) :
    Calls Try.prog 12 #[v, wyV x] w fun e w' => ∃ r, e = .returned (.bool r) ∧ MayR l x r ∧ Below w.heap.size w w' := by
  obtain ⟨N, F, T⟩ := x
  obtain ⟨w0, hw0⟩ : ∃ W, W = w.alloc (.cells #[.int .i64 N, .int .i64 F, .int .i64 T] 32) := ⟨_, rfl⟩
  have HW0 : Hid (w0 = _) := hw0
  have hb0 : Below w.heap.size w w0 := by rw [hw0]; exact made_below _ _ _
  have HB0 : Hid (Below w.heap.size w w0) := hb0
  have hA : At w0 w.heap.size #[.int .i64 N, .int .i64 F, .int .i64 T] 32 := by rw [hw0]; exact At.made w _ _
  have HK : Hid (∀ W, Below w0.heap.size w0 W → W.cell? ⟨w.heap.size, 0, none⟩ = some (.int .i64 N) ∧ W.cell? ⟨w.heap.size, 1, none⟩ = some (.int .i64 F) ∧ W.cell? ⟨w.heap.size, 2, none⟩ = some (.int .i64 T)) := fun W hW => ⟨(hA.later hW).cell 0, (hA.later hW).cell 1, (hA.later hW).cell 2⟩
  have HRi : Hid (Calls Try.prog 26 #[.int .i64 N, v] w0 fun e w' => ∃ r : Bool, e = .returned (.bool r) ∧ (r = true ↔ RightL N l) ∧ Below w0.heap.size w0 w') := right_any N (h.later hb0)
  obtain ⟨c0, c1, c2⟩ := HK.out w0 (Below.refl _ _)
  have HNo : Hid (MayR l (N, F, T) false) := fun h => absurd h (by decide)
  clear hw0 hb0 hA h
  unfold wyV
  go_enter Try.func12, Try.ntmps12
  by_cases hN : N ≤ 100000
  · go_wp2_with (rw [← HW0.out])
    refine Calls.mono HRi.out ?_
    rintro e w1 ⟨r, rfl, hr, hb1⟩
    have HR : Hid (r = true ↔ RightL N l) := hr
    have HB1 : Hid (Below w.heap.size w w1) := bstep HB0.out hb1
    clear c0 c1 c2 HRi hr
    obtain ⟨c0, c1, c2⟩ := HK.out w1 hb1
    clear hb1
    cases r with
    | false =>
      go_wp2_with fail
      go_ret
      first | exact ⟨false, rfl, HNo.out, HB1.out⟩ | exact .inl ⟨rfl, HNo.out, HB1.out⟩
    | true =>
      have HYe : Hid (∀ r, MayR l (N, F, T) r) := fun r _ => ⟨hN, HR.out.1 rfl⟩
      go_wp2_with fail
      all_goals go_ret
      all_goals first | exact ⟨_, rfl, HYe.out _, HB1.out⟩ | exact .inl ⟨rfl, HYe.out _, HB1.out⟩ | exact .inr ⟨rfl, HYe.out _, HB1.out⟩
  · go_wp2_with (rw [← HW0.out])
    go_ret
    first | exact ⟨false, rfl, HNo.out, HB0.out⟩ | exact .inl ⟨rfl, HNo.out, HB0.out⟩

theorem sameInts9_any {va vb : Value} {xs ys : List Int} {w : World} (ha : Is w va xs) (hb : Is w vb ys) :
    Calls Try.prog 16 #[va, vb] w fun e w' => e = .returned (.bool (decide (xs = ys))) ∧ Below w.heap.size w w' := by
  have HS : Hid (Calls Try.prog 42 #[va, vb] w fun e w' => e = .returned (.bool (decide (xs = ys))) ∧ ∃ n, w' = w.drewN n) := sameI_any ha hb
  clear ha hb
  go_enter Try.func16, Try.ntmps16
  go_wp2_with fail
  refine Calls.mono HS.out ?_
  rintro e w1 ⟨rfl, n, rfl⟩
  go_wp2
  go_ret
  exact ⟨rfl, Below.drewN (Below.refl _ _) n⟩

/-- The clause of the example. -/
def cl0 : Cl := ⟨1, 0, 2, 2, 4, -1, 0, 0, 0, false⟩
theorem right0 : RightL 4 [cl0] := ⟨by decide, fun k hk => by
  obtain rfl : k = 0 := by simp at hk; exact hk
  decide⟩
theorem ch00 : chR [cl0] 0 = [(0, 1)] := by decide
theorem ch01 : chR [cl0] 1 = [(0, 1)] := by decide
theorem ch02 : chR [cl0] 2 = [(0, 2)] := by decide
theorem way12 : ¬ WayR [cl0] false 2 [(0, 1)] [(0, 2)] := by
  rintro ⟨i, k, h1, h2, h3, h4, h5⟩
  simp at h5
  subst h5
  simp only [List.length_cons, List.length_nil] at h2
  obtain rfl | rfl : k = 0 ∨ k = 1 := by omega
  · simp at h3
  · simp at h3
theorem way01 : WayR [cl0] false 1 [(0, 1)] [(0, 1)] := ⟨0, 0, by simp, by simp, rfl, by simp, by simp⟩

set_option maxHeartbeats 4000000 in
theorem wakes9_any (w : World) :
    Calls Try.prog 8 #[] w fun e w' => e = .returned (.bool true) ∧ Below w.heap.size w w' := by
  obtain ⟨w0, hw0⟩ : ∃ W, W = w.alloc (.cells #[.int .i64 1, .int .i64 0, .int .i64 2, .int .i64 2, .int .i64 4, .int .i64 (-1), .int .i64 0, .int .i64 0, .int .i64 0, .bool false] 44) := ⟨_, rfl⟩
  have HW0 : Hid (w0 = _) := hw0
  have HB0 : Hid (Below w.heap.size w w0) := by show Below _ _ _; rw [hw0]; exact made_below _ _ _
  have HE : Hid (∀ W, Below w0.heap.size w0 W → Es clE9 W (.slice (some ⟨w.heap.size, 0, none⟩) 1 1) [cl0]) := fun W hW => by
    have : Es clE9 w0 (.slice (some ⟨w.heap.size, 0, none⟩) 1 1) [cl0] := by
      rw [hw0]; exact (OwnE.lit clE9 w 0 44 [cl0] _ 1 (Nat.zero_le _) rfl rfl (by simp [maxLen])).es
    exact this.later hW
  have HCk : Hid (Calls Try.prog 9 #[.int .i64 4, .slice (some ⟨w.heap.size, 0, none⟩) 1 1] w0 fun e w' => ∃ i, e = .returned (.tuple #[.int .i64 i, .int .i64 0]) ∧ Below w0.heap.size w0 w') := by
    refine (check_any 4 (HE.out w0 (Below.refl _ _))).mono ?_
    rintro e w' ⟨i, x, rfl, hc, hB⟩
    obtain rfl := (check_right hc).2 right0
    exact ⟨i, rfl, hB⟩
  have HCh : Hid (∀ W, Below w0.heap.size w0 W → Calls Try.prog 13 #[.slice (some ⟨w.heap.size, 0, none⟩) 1 1, .int .i64 1] W fun e w' => ∃ v', e = .returned v' ∧ Es spE w' v' [(0, 1)] ∧ Below W.heap.size W w') := fun W hW => by
    refine (chain_any (HE.out W hW) right0 (by decide) 1).mono ?_
    rintro e w' ⟨v', rfl, ho, hB⟩
    rw [ch01] at ho
    exact ⟨v', rfl, ho.es, hB⟩
  have HP1 : Hid (∀ W, Below w0.heap.size w0 W → Calls Try.prog 20 #[.slice (some ⟨w.heap.size, 0, none⟩) 1 1, .int .i64 1, .int .i64 2] W fun e w' => e = .returned (.bool false) ∧ Below W.heap.size W w') := fun W hW => by
    refine (pass_any (HE.out W hW) right0 (by decide) 1 2).mono ?_
    rintro e w' ⟨r, rfl, hr, hB⟩
    rw [ch01, ch02] at hr
    cases r with
    | false => exact ⟨rfl, hB⟩
    | true => exact absurd (hr.1 rfl) way12
  have HP2 : Hid (∀ W, Below w0.heap.size w0 W → Calls Try.prog 20 #[.slice (some ⟨w.heap.size, 0, none⟩) 1 1, .int .i64 0, .int .i64 1] W fun e w' => e = .returned (.bool true) ∧ Below W.heap.size W w') := fun W hW => by
    refine (pass_any (HE.out W hW) right0 (by decide) 0 1).mono ?_
    rintro e w' ⟨r, rfl, hr, hB⟩
    rw [ch00, ch01] at hr
    have := hr.2 way01
    subst this
    exact ⟨rfl, hB⟩
  clear hw0
  go_enter Try.func8, Try.ntmps8
  go_wp2_with (rw [← HW0.out])
  refine Calls.mono HCk.out ?_
  rintro e w1 ⟨i, rfl, hb1⟩
  have HB1 : Hid (Below w0.heap.size w0 w1) := hb1
  clear hb1
  go_wp2_with fail
  refine (HCh.out w1 HB1.out).mono ?_
  rintro e w2 ⟨v2, rfl, he2, hb2⟩
  have HB2 : Hid (Below w0.heap.size w0 w2) := bstep HB1.out hb2
  have HSm : Hid (Calls Try.prog 14 #[v2, .slice (some ⟨w2.heap.size, 0, none⟩) 1 1] (w2.alloc (.cells #[.int .i64 0, .int .i64 1] 46)) fun e w' => e = .returned (.bool true) ∧ Below w2.heap.size w2 w') := by
    have hb : Es spE (w2.alloc (.cells #[.int .i64 0, .int .i64 1] 46)) (.slice (some ⟨w2.heap.size, 0, none⟩) 1 1) [(0, 1)] := (OwnE.lit spE w2 0 46 [(0, 1)] _ 1 (Nat.zero_le _) rfl rfl (by simp [maxLen])).es
    refine (Same9_any (he2.later (made_below _ _ _)) hb (by simp) (by simp)).mono ?_
    rintro e w' ⟨rfl, hB⟩
    exact ⟨rfl, bstep (made_below _ _ _) hB⟩
  clear he2 hb2
  go_wp2_with fail
  refine Calls.mono HSm.out ?_
  rintro e w3 ⟨rfl, hb3⟩
  have HB3 : Hid (Below w0.heap.size w0 w3) := bstep HB2.out hb3
  clear hb3 HSm
  go_wp2_with fail
  refine (HP1.out w3 HB3.out).mono ?_
  rintro e w4 ⟨rfl, hb4⟩
  have HB4 : Hid (Below w0.heap.size w0 w4) := bstep HB3.out hb4
  clear hb4
  go_wp2_with fail
  refine (HP2.out w4 HB4.out).mono ?_
  rintro e w5 ⟨rfl, hb5⟩
  have HB5 : Hid (Below w.heap.size w w5) := bstep HB0.out (bstep HB4.out hb5)
  clear hb5
  go_wp2_with fail
  go_ret
  exact ⟨rfl, HB5.out⟩

end Go.Proofs.Ytbfcdcdeohikpaa
