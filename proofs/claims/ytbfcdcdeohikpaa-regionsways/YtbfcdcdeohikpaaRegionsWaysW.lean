
/- The walk of RegionsWays. -/
import Derived.Test.YtbfcdcdeohikpaaOpen9
namespace Go.Proofs.Ytbfcdcdeohikpaa
set_option linter.unusedVariables false
set_option linter.unusedSimpArgs false
open Go.RowKit
attribute [local go_sem ↓] Go.wp_at_zero Go.wp_at_succ

/-- Who may pass may leave. -/
theorem pass_leave {l : List Cl} {n : Int} {a b : List Sp} (h : WayR l false n a b) : WayR l true n a b := by
  obtain ⟨i, k, h1, h2, h3, h4, h5⟩ := h
  simp at h5
  subst h5
  exact ⟨0, k, h1, h2, h3, h4, by simp⟩
theorem bool_same {a b : Bool} {P : Prop} (h1 : a = true ↔ P) (h2 : b = true ↔ P) : b = a := by
  cases a <;> cases b <;> simp_all

set_option maxHeartbeats 8000000 in
theorem regionsWays_walk (v : Value) (l : List Cl) (y : Value) (x : Int × Int × Int) (w : World) (h : Es clE9 w v l) (hx : y = wyV x) :
    Calls Try.prog 5 #[v, y] w fun e w' => e = .returned (.bool true) ∧ Below w.heap.size w w' := by
  have h0 := h
  obtain ⟨va, vc, hv, _, _⟩ := h.shape
  have hll := h.len
  unfold maxLen at hll
  obtain ⟨N, F, T⟩ := x
  obtain ⟨w0, hw0⟩ : ∃ W, W = w.alloc (.cells #[.int .i64 N, .int .i64 F, .int .i64 T] 32) := ⟨_, rfl⟩
  have HW0 : Hid (w0 = _) := hw0
  have hb0 : Below w.heap.size w w0 := by rw [hw0]; exact made_below _ _ _
  have HB0 : Hid (Below w.heap.size w w0) := hb0
  have hA : At w0 w.heap.size #[.int .i64 N, .int .i64 F, .int .i64 T] 32 := by rw [hw0]; exact At.made w _ _
  have HK3 : Hid (∀ W, Below w0.heap.size w0 W → W.cell? ⟨w.heap.size, 0, none⟩ = some (.int .i64 N) ∧ W.cell? ⟨w.heap.size, 1, none⟩ = some (.int .i64 F) ∧ W.cell? ⟨w.heap.size, 2, none⟩ = some (.int .i64 T)) := fun W hW => ⟨(hA.later hW).cell 0, (hA.later hW).cell 1, (hA.later hW).cell 2⟩
  have HK : Hid (∀ W, Below w0.heap.size w0 W → W.cell? ⟨w.heap.size, 1, none⟩ = some (.int .i64 F) ∧ W.cell? ⟨w.heap.size, 2, none⟩ = some (.int .i64 T)) := fun W hW => (HK3.out W hW).2
  have HE : Hid (∀ W, Below w0.heap.size w0 W → Es clE9 W v l) := fun W hW => (h.later hb0).later hW
  clear h h0 hw0 hb0 hA
  subst hv
  subst hx
  unfold wyV
  go_enter Try.func5, Try.ntmps5
  go_wp2_with (rw [← HW0.out])
  refine (wakes9_any w0).mono ?_
  rintro e w1 ⟨rfl, hb1⟩
  have HB1 : Hid (Below w0.heap.size w0 w1) := hb1
  obtain ⟨k0, k1, k2⟩ := HK3.out w1 hb1
  have HMa : Hid (Calls Try.prog 12 #[.slice va l.length vc, .agg #[.int .i64 N, .int .i64 F, .int .i64 T]] w1 fun e w' => ∃ r, e = .returned (.bool r) ∧ MayR l (N, F, T) r ∧ Below w1.heap.size w1 w') := may_any (HE.out w1 hb1) (N, F, T)
  clear hb1
  go_wp2_with fail
  refine Calls.mono HMa.out ?_
  rintro e w2 ⟨r, rfl, hr, hb2⟩
  have HB2 : Hid (Below w0.heap.size w0 w2) := bstep HB1.out hb2
  clear hb2 HMa k0 k1 k2
  obtain ⟨k1, k2⟩ := HK.out w2 HB2.out
  cases r with
  | false =>
    go_wp2_with fail
    go_ret
    exact ⟨rfl, bstep HB0.out HB2.out⟩
  | true =>
    obtain ⟨hN, hR⟩ := hr rfl
    have h6 := hR.1
    have HRt : Hid (RightL N l) := hR
    clear hR hr
    have HCo : Hid (∀ W, Below w0.heap.size w0 W → Calls Try.prog 10 #[.slice va l.length vc] W fun e w' => ∃ v', e = .returned v' ∧ Es clE9 w' v' l ∧ Below W.heap.size W w') := fun W hW => copied9_any (HE.out W hW) (by omega)
    obtain ⟨p, hp⟩ : ∃ p : Bool, p = true ↔ WayR l false T (chR l F) (chR l T) := by
      by_cases g : WayR l false T (chR l F) (chR l T)
      · exact ⟨true, by simp [g]⟩
      · exact ⟨false, by simp [g]⟩
    obtain ⟨q, hq⟩ : ∃ q : Bool, q = true ↔ WayR l true T (chR l F) (chR l T) := by
      by_cases g : WayR l true T (chR l F) (chR l T)
      · exact ⟨true, by simp [g]⟩
      · exact ⟨false, by simp [g]⟩
    have hpq : p = true → q = true := fun e => hq.2 (pass_leave (hp.1 e))
    have HPa : Hid (∀ W v', Es clE9 W v' l → Calls Try.prog 20 #[v', .int .i64 F, .int .i64 T] W fun e w' => e = .returned (.bool p) ∧ Below W.heap.size W w') := fun W v' hv => by
      refine (pass_any hv HRt.out hN F T).mono ?_
      rintro e w' ⟨r, rfl, hr, hB⟩
      exact ⟨by rw [bool_same hp hr], hB⟩
    have HLe : Hid (∀ W v', Es clE9 W v' l → Calls Try.prog 21 #[v', .int .i64 F, .int .i64 T] W fun e w' => e = .returned (.bool q) ∧ Below W.heap.size W w') := fun W v' hv => by
      refine (leave_any hv HRt.out hN F T).mono ?_
      rintro e w' ⟨r, rfl, hr, hB⟩
      exact ⟨by rw [bool_same hq hr], hB⟩
    have HRp : Hid (∀ W, Below w0.heap.size w0 W → Calls Try.prog 22 #[.slice va l.length vc, .int .i64 F, .int .i64 T] W fun e w' => e = .returned (.bool p) ∧ Below W.heap.size W w') := fun W hW => by
      refine (refPass_any (HE.out W hW) HRt.out hN F T).mono ?_
      rintro e w' ⟨r, rfl, hr, hB⟩
      exact ⟨by rw [bool_same hp hr], hB⟩
    have HRl : Hid (∀ W, Below w0.heap.size w0 W → Calls Try.prog 23 #[.slice va l.length vc, .int .i64 F, .int .i64 T] W fun e w' => e = .returned (.bool q) ∧ Below W.heap.size W w') := fun W hW => by
      refine (refLeave_any (HE.out W hW) HRt.out hN F T).mono ?_
      rintro e w' ⟨r, rfl, hr, hB⟩
      exact ⟨by rw [bool_same hq hr], hB⟩
    have HFi : Hid (∀ W v', Es clE9 W v' l → Calls Try.prog 24 #[v', .int .i64 F, .int .i64 T] W fun e w' => ∃ u, e = .returned u ∧ OwnI w' W.heap.size u (pkL (finB F T) 0 l) ∧ Below W.heap.size W w') := fun W v' hv => finals_any hv (by omega) F T
    have HRf : Hid (∀ W, Below w0.heap.size w0 W → Calls Try.prog 25 #[.slice va l.length vc, .int .i64 F, .int .i64 T] W fun e w' => ∃ u, e = .returned u ∧ OwnI w' W.heap.size u (pkL (finB F T) 0 l) ∧ Below W.heap.size W w') := fun W hW => refFinals_any (HE.out W hW) (by omega) F T
    have HSi : Hid (∀ W va vb, Is W va (pkL (finB F T) 0 l) → Is W vb (pkL (finB F T) 0 l) → Calls Try.prog 16 #[va, vb] W fun e w' => e = .returned (.bool true) ∧ Below W.heap.size W w') := fun W va vb h1 h2 => by
      refine (sameInts9_any h1 h2).mono ?_
      rintro e w' ⟨rfl, hB⟩
      exact ⟨by rw [decide_eq_true rfl], hB⟩
    clear hp hq
    go_wp2_with fail
    go_region_held3 (fun W => W.cell? ⟨w.heap.size, 1, none⟩ = some (.int .i64 F) ∧ W.cell? ⟨w.heap.size, 2, none⟩ = some (.int .i64 T))
      (first | (exact HK.out _ hBc) | (exact HK.out _ (bstep HB2.out (bdrew _))))
      (first
        | (go_at_call 10; first
            | (refine (HCo.out _ hBc).mono ?_; rintro e w5 ⟨v5, rfl, he5, hb5⟩; have hBc : Below w0.heap.size w0 w5 := bstep hBc hb5)
            | (refine (HCo.out _ (bstep HB2.out (bdrew _))).mono ?_; rintro e w3 ⟨v3, rfl, he3, hb3⟩; have hBc : Below w0.heap.size w0 w3 := bstep (bstep HB2.out (bdrew _)) hb3))
        | (go_at_call 20; refine (HPa.out _ _ he3).mono ?_; rintro e w4 ⟨rfl, hb4⟩; have hBc : Below w0.heap.size w0 w4 := bstep hBc hb4)
        | (go_at_call 21; refine (HLe.out _ _ he5).mono ?_; rintro e w6 ⟨rfl, hb6⟩; have hBc : Below w0.heap.size w0 w6 := bstep hBc hb6))
    rename_i hheld
    clear hheld
    have HB6 : Hid (Below w0.heap.size w0 w6) := hBc
    clear he3 hb3 hb4 he5 hb5 hb6 hBc k1 k2
    obtain ⟨k1, k2⟩ := HK.out w6 HB6.out
    clear HPa HLe
    go_wp2_with fail
    cases p with
    | true =>
      obtain rfl := hpq rfl
      go_region_held3 (fun W => W.cell? ⟨w.heap.size, 1, none⟩ = some (.int .i64 F) ∧ W.cell? ⟨w.heap.size, 2, none⟩ = some (.int .i64 T))
        (first | (exact HK.out _ hBc) | (exact HK.out _ (bstep HB6.out (bdrew _))))
        (first
          | (go_at_call 22; refine (HRp.out _ (bstep HB6.out (bdrew _))).mono ?_; rintro e w7 ⟨rfl, hb7⟩; have hBc : Below w0.heap.size w0 w7 := bstep (bstep HB6.out (bdrew _)) hb7)
          | (go_at_call 23; refine (HRl.out _ hBc).mono ?_; rintro e w8 ⟨rfl, hb8⟩; have hBc : Below w0.heap.size w0 w8 := bstep hBc hb8)
          | (go_at_call 10; refine (HCo.out _ hBc).mono ?_; rintro e w9 ⟨v9, rfl, he9, hb9⟩; have hBc : Below w0.heap.size w0 w9 := bstep hBc hb9)
          | (go_at_call 24; refine (HFi.out _ _ he9).mono ?_; rintro e w10 ⟨v10, rfl, ho10, hb10⟩; have hBc : Below w0.heap.size w0 w10 := bstep hBc hb10)
          | (go_at_call 25; refine (HRf.out _ hBc).mono ?_; rintro e w11 ⟨v11, rfl, ho11, hb11⟩; have hBc : Below w0.heap.size w0 w11 := bstep hBc hb11)
          | (go_at_call 16; refine (HSi.out _ _ _ (ho10.later hb11).is ho11.is).mono ?_; rintro e w12 ⟨rfl, hb12⟩; have hBc : Below w0.heap.size w0 w12 := bstep hBc hb12))
      rename_i hheld
      clear hheld
      have HB12 : Hid (Below w0.heap.size w0 w12) := hBc
      clear hb7 hb8 he9 hb9 ho10 hb10 ho11 hb11 hb12 hBc
      go_wp2_with fail
      go_ret
      exact ⟨rfl, bstep HB0.out HB12.out⟩
    | false =>
      clear hpq
      refine wp_region_held_drew (S := (fun W : World => W.cell? ⟨w.heap.size, 1, none⟩ = some (.int .i64 F) ∧ W.cell? ⟨w.heap.size, 2, none⟩ = some (.int .i64 T))) (by kernel_rfl) (HK.out _ (bstep HB6.out (bdrew _))) (fun hHeld => ?_)
      refine wpAnyH_take (i := 0) (oi := { dst := some 27, op := Op.move (Operand.tmp 5), type := 4, pos := "law.go:74", after := #[], guard := none }) (v := .bool false) rfl (by kernel_rfl) (by kernel_rfl) (by kernel_rfl) (fun _ _ _ h => h) (Or.inl ⟨by rfl, by intro w' hSw; (try dsimp only at hSw); go_simp⟩) hHeld ?_
      try simp only [Act.put, List.setIfInBounds_toArray, List.set_cons_zero, List.set_cons_succ]
      refine wpAnyH_take (i := 1) (oi := { dst := some 28, op := Op.move (Operand.tmp 0), type := 22, pos := "law.go:74", after := #[], guard := none }) (v := .slice va l.length vc) rfl (by kernel_rfl) (by kernel_rfl) (by kernel_rfl) (fun _ _ _ h => h) (Or.inl ⟨by rfl, by intro w' hSw; (try dsimp only at hSw); go_simp⟩) hHeld ?_
      try simp only [Act.put, List.setIfInBounds_toArray, List.set_cons_zero, List.set_cons_succ]
      refine wpAnyH_take (i := 2) (oi := { dst := some 29, op := Op.fieldAddr 32 (Operand.tmp 3) 1, type := 0, pos := "law.go:74", after := #[], guard := none }) (v := .pointer (some ⟨w.heap.size, 1, none⟩)) rfl (by kernel_rfl) (by kernel_rfl) (by kernel_rfl) (fun _ _ _ h => h) (Or.inl ⟨by rfl, by intro w' hSw; (try dsimp only at hSw); go_simp⟩) hHeld ?_
      try simp only [Act.put, List.setIfInBounds_toArray, List.set_cons_zero, List.set_cons_succ]
      refine wpAnyH_take (i := 3) (oi := { dst := some 30, op := Op.load 3 (Operand.tmp 29), type := 3, pos := "law.go:74", after := #[{ on := 2, ground := Ground.data }], guard := none }) (v := .int .i64 F) rfl (by kernel_rfl) (by kernel_rfl) (by kernel_rfl) (fun _ _ _ h => h) (Or.inl ⟨by rfl, by intro w' hSw; (try dsimp only at hSw); go_simp⟩) hHeld ?_
      try simp only [Act.put, List.setIfInBounds_toArray, List.set_cons_zero, List.set_cons_succ]
      refine wpAnyH_take (i := 4) (oi := { dst := some 31, op := Op.fieldAddr 32 (Operand.tmp 3) 2, type := 0, pos := "law.go:74", after := #[], guard := none }) (v := .pointer (some ⟨w.heap.size, 2, none⟩)) rfl (by kernel_rfl) (by kernel_rfl) (by kernel_rfl) (fun _ _ _ h => h) (Or.inl ⟨by rfl, by intro w' hSw; (try dsimp only at hSw); go_simp⟩) hHeld ?_
      try simp only [Act.put, List.setIfInBounds_toArray, List.set_cons_zero, List.set_cons_succ]
      refine wpAnyH_take (i := 5) (oi := { dst := some 32, op := Op.load 3 (Operand.tmp 31), type := 3, pos := "law.go:74", after := #[{ on := 4, ground := Ground.data }], guard := none }) (v := .int .i64 T) rfl (by kernel_rfl) (by kernel_rfl) (by kernel_rfl) (fun _ _ _ h => h) (Or.inl ⟨by rfl, by intro w' hSw; (try dsimp only at hSw); go_simp⟩) hHeld ?_
      try simp only [Act.put, List.setIfInBounds_toArray, List.set_cons_zero, List.set_cons_succ]
      refine wpAnyH_ready (rs := [6]) (by kernel_rfl) (by simp) ?_
      refine AllReadyH.cons (o := { dst := some 33, op := Op.call { callee := Callee.value (Operand.func 22), args := #[Operand.tmp 28, Operand.tmp 30, Operand.tmp 32], argTypes := #[22, 3, 3] }, type := 4, pos := "law.go:74", after := #[{ on := 1, ground := Ground.data }, { on := 3, ground := Ground.data }, { on := 5, ground := Ground.data }], guard := none }) rfl (fun K hK => ?_) AllReadyH.nil
      go_simp
      refine (HRp.out _ (bstep HB6.out (bdrew _))).mono ?_; rintro e w7 ⟨rfl, hb7⟩; have hBc : Below w0.heap.size w0 w7 := bstep (bstep HB6.out (bdrew _)) hb7
      try go_wp2_with fail
      refine hK.out _ _ (HK.out _ hBc) (fun hHeld => ?_)
      clear hK K
      try simp only [Act.put, List.setIfInBounds_toArray, List.set_cons_zero, List.set_cons_succ]
      refine wpAnyH_take (i := 7) (oi := { dst := some 34, op := Op.binOp BinOp.eql 4 (Operand.tmp 27) (Operand.tmp 33) 4, type := 4, pos := "law.go:74", after := #[{ on := 0, ground := Ground.data }, { on := 6, ground := Ground.data }], guard := none }) (v := .bool true) rfl (by kernel_rfl) (by kernel_rfl) (by kernel_rfl) (fun _ _ _ h => h) (Or.inl ⟨by rfl, by intro w' hSw; (try dsimp only at hSw); go_simp⟩) hHeld ?_
      try simp only [Act.put, List.setIfInBounds_toArray, List.set_cons_zero, List.set_cons_succ]
      refine wpAnyH_take (i := 8) (oi := { dst := some 35, op := Op.move (Operand.tmp 34), type := 4, pos := "law.go:74", after := #[{ on := 7, ground := Ground.data }, { on := 6, ground := Ground.chain }], guard := none }) (v := .bool true) rfl (by kernel_rfl) (by kernel_rfl) (by kernel_rfl) (fun _ _ _ h => h) (Or.inl ⟨by rfl, by intro w' hSw; (try dsimp only at hSw); go_simp⟩) hHeld ?_
      try simp only [Act.put, List.setIfInBounds_toArray, List.set_cons_zero, List.set_cons_succ]
      refine wpAnyH_take (i := 9) (oi := { dst := some 36, op := Op.move (Operand.tmp 6), type := 4, pos := "law.go:74", after := #[{ on := 8, ground := Ground.guard }], guard := some (8, true) }) (v := .bool q) rfl (by kernel_rfl) (by kernel_rfl) (by kernel_rfl) (fun _ _ _ h => h) (Or.inl ⟨by rfl, by intro w' hSw; (try dsimp only at hSw); go_simp⟩) hHeld ?_
      try simp only [Act.put, List.setIfInBounds_toArray, List.set_cons_zero, List.set_cons_succ]
      refine wpAnyH_take (i := 10) (oi := { dst := some 37, op := Op.move (Operand.tmp 0), type := 22, pos := "law.go:74", after := #[{ on := 8, ground := Ground.guard }], guard := some (8, true) }) (v := .slice va l.length vc) rfl (by kernel_rfl) (by kernel_rfl) (by kernel_rfl) (fun _ _ _ h => h) (Or.inl ⟨by rfl, by intro w' hSw; (try dsimp only at hSw); go_simp⟩) hHeld ?_
      try simp only [Act.put, List.setIfInBounds_toArray, List.set_cons_zero, List.set_cons_succ]
      refine wpAnyH_take (i := 11) (oi := { dst := some 38, op := Op.fieldAddr 32 (Operand.tmp 3) 1, type := 0, pos := "law.go:74", after := #[{ on := 8, ground := Ground.guard }], guard := some (8, true) }) (v := .pointer (some ⟨w.heap.size, 1, none⟩)) rfl (by kernel_rfl) (by kernel_rfl) (by kernel_rfl) (fun _ _ _ h => h) (Or.inl ⟨by rfl, by intro w' hSw; (try dsimp only at hSw); go_simp⟩) hHeld ?_
      try simp only [Act.put, List.setIfInBounds_toArray, List.set_cons_zero, List.set_cons_succ]
      refine wpAnyH_take (i := 12) (oi := { dst := some 39, op := Op.load 3 (Operand.tmp 38), type := 3, pos := "law.go:74", after := #[{ on := 11, ground := Ground.data }, { on := 8, ground := Ground.guard }], guard := some (8, true) }) (v := .int .i64 F) rfl (by kernel_rfl) (by kernel_rfl) (by kernel_rfl) (fun _ _ _ h => h) (Or.inl ⟨by rfl, by intro w' hSw; (try dsimp only at hSw); go_simp⟩) hHeld ?_
      try simp only [Act.put, List.setIfInBounds_toArray, List.set_cons_zero, List.set_cons_succ]
      refine wpAnyH_take (i := 13) (oi := { dst := some 40, op := Op.fieldAddr 32 (Operand.tmp 3) 2, type := 0, pos := "law.go:74", after := #[{ on := 8, ground := Ground.guard }], guard := some (8, true) }) (v := .pointer (some ⟨w.heap.size, 2, none⟩)) rfl (by kernel_rfl) (by kernel_rfl) (by kernel_rfl) (fun _ _ _ h => h) (Or.inl ⟨by rfl, by intro w' hSw; (try dsimp only at hSw); go_simp⟩) hHeld ?_
      try simp only [Act.put, List.setIfInBounds_toArray, List.set_cons_zero, List.set_cons_succ]
      refine wpAnyH_take (i := 14) (oi := { dst := some 41, op := Op.load 3 (Operand.tmp 40), type := 3, pos := "law.go:74", after := #[{ on := 13, ground := Ground.data }, { on := 8, ground := Ground.guard }], guard := some (8, true) }) (v := .int .i64 T) rfl (by kernel_rfl) (by kernel_rfl) (by kernel_rfl) (fun _ _ _ h => h) (Or.inl ⟨by rfl, by intro w' hSw; (try dsimp only at hSw); go_simp⟩) hHeld ?_
      try simp only [Act.put, List.setIfInBounds_toArray, List.set_cons_zero, List.set_cons_succ]
      refine wpAnyH_ready (rs := [15]) (by kernel_rfl) (by simp) ?_
      refine AllReadyH.cons (o := { dst := some 42, op := Op.call { callee := Callee.value (Operand.func 23), args := #[Operand.tmp 37, Operand.tmp 39, Operand.tmp 41], argTypes := #[22, 3, 3] }, type := 4, pos := "law.go:74", after := #[{ on := 10, ground := Ground.data }, { on := 12, ground := Ground.data }, { on := 14, ground := Ground.data }, { on := 8, ground := Ground.chain }, { on := 8, ground := Ground.guard }], guard := some (8, true) }) rfl (fun K hK => ?_) AllReadyH.nil
      go_simp
      refine (HRl.out _ hBc).mono ?_; rintro e w8 ⟨rfl, hb8⟩; replace hBc : Below w0.heap.size w0 w8 := bstep hBc hb8
      try go_wp2_with fail
      refine hK.out _ _ (HK.out _ hBc) (fun hHeld => ?_)
      clear hK K
      try simp only [Act.put, List.setIfInBounds_toArray, List.set_cons_zero, List.set_cons_succ]
      refine wpAnyH_take (i := 16) (oi := { dst := some 43, op := Op.binOp BinOp.eql 4 (Operand.tmp 36) (Operand.tmp 42) 4, type := 4, pos := "law.go:74", after := #[{ on := 9, ground := Ground.data }, { on := 15, ground := Ground.data }, { on := 8, ground := Ground.guard }], guard := some (8, true) }) (v := .bool true) rfl (by kernel_rfl) (by kernel_rfl) (by kernel_rfl) (fun _ _ _ h => h) (Or.inl ⟨by rfl, by intro w' hSw; (try dsimp only at hSw); go_simp⟩) hHeld ?_
      try simp only [Act.put, List.setIfInBounds_toArray, List.set_cons_zero, List.set_cons_succ]
      refine wpAnyH_take (i := 17) (oi := { dst := some 44, op := Op.pick (Operand.tmp 35) (Operand.tmp 43) (Operand.const (Value.bool false)), type := 4, pos := "law.go:74", after := #[{ on := 8, ground := Ground.data }, { on := 16, ground := Ground.data }], guard := none }) (v := .bool true) rfl (by kernel_rfl) (by kernel_rfl) (by kernel_rfl) (fun _ _ _ h => h) (Or.inl ⟨by rfl, by intro w' hSw; (try dsimp only at hSw); go_simp⟩) hHeld ?_
      try simp only [Act.put, List.setIfInBounds_toArray, List.set_cons_zero, List.set_cons_succ]
      refine wpAnyH_take (i := 18) (oi := { dst := some 45, op := Op.move (Operand.tmp 44), type := 4, pos := "law.go:74", after := #[{ on := 17, ground := Ground.data }, { on := 15, ground := Ground.chain }], guard := none }) (v := .bool true) rfl (by kernel_rfl) (by kernel_rfl) (by kernel_rfl) (fun _ _ _ h => h) (Or.inl ⟨by rfl, by intro w' hSw; (try dsimp only at hSw); go_simp⟩) hHeld ?_
      try simp only [Act.put, List.setIfInBounds_toArray, List.set_cons_zero, List.set_cons_succ]
      refine wpAnyH_take (i := 19) (oi := { dst := some 46, op := Op.move (Operand.tmp 5), type := 4, pos := "law.go:74", after := #[{ on := 18, ground := Ground.guard }], guard := some (18, true) }) (v := .bool false) rfl (by kernel_rfl) (by kernel_rfl) (by kernel_rfl) (fun _ _ _ h => h) (Or.inl ⟨by rfl, by intro w' hSw; (try dsimp only at hSw); go_simp⟩) hHeld ?_
      try simp only [Act.put, List.setIfInBounds_toArray, List.set_cons_zero, List.set_cons_succ]
      refine wpAnyH_take (i := 20) (oi := { dst := some 47, op := Op.unOp UnOp.not 4 (Operand.tmp 46), type := 4, pos := "law.go:74", after := #[{ on := 19, ground := Ground.data }, { on := 18, ground := Ground.guard }], guard := some (18, true) }) (v := .bool true) rfl (by kernel_rfl) (by kernel_rfl) (by kernel_rfl) (fun _ _ _ h => h) (Or.inl ⟨by rfl, by intro w' hSw; (try dsimp only at hSw); go_simp⟩) hHeld ?_
      try simp only [Act.put, List.setIfInBounds_toArray, List.set_cons_zero, List.set_cons_succ]
      refine wpAnyH_take (i := 21) (oi := { dst := some 48, op := Op.move (Operand.tmp 47), type := 4, pos := "law.go:74", after := #[{ on := 20, ground := Ground.data }, { on := 18, ground := Ground.chain }, { on := 18, ground := Ground.guard }], guard := some (18, true) }) (v := .bool true) rfl (by kernel_rfl) (by kernel_rfl) (by kernel_rfl) (fun _ _ _ h => h) (Or.inl ⟨by rfl, by intro w' hSw; (try dsimp only at hSw); go_simp⟩) hHeld ?_
      try simp only [Act.put, List.setIfInBounds_toArray, List.set_cons_zero, List.set_cons_succ]
      refine wpAnyH_take (i := 22) (oi := { dst := some 49, op := Op.move (Operand.tmp 6), type := 4, pos := "law.go:74", after := #[{ on := 21, ground := Ground.guard }], guard := some (21, false) }) (v := undef) rfl (by kernel_rfl) (by kernel_rfl) (by kernel_rfl) (fun _ _ _ h => h) (Or.inr ⟨by rfl, rfl⟩) hHeld ?_
      try simp only [Act.put, List.setIfInBounds_toArray, List.set_cons_zero, List.set_cons_succ]
      refine wpAnyH_take (i := 23) (oi := { dst := some 50, op := Op.pick (Operand.tmp 48) (Operand.const (Value.bool true)) (Operand.tmp 49), type := 4, pos := "law.go:74", after := #[{ on := 21, ground := Ground.data }, { on := 22, ground := Ground.data }, { on := 18, ground := Ground.guard }], guard := some (18, true) }) (v := .bool true) rfl (by kernel_rfl) (by kernel_rfl) (by kernel_rfl) (fun _ _ _ h => h) (Or.inl ⟨by rfl, by intro w' hSw; (try dsimp only at hSw); go_simp⟩) hHeld ?_
      try simp only [Act.put, List.setIfInBounds_toArray, List.set_cons_zero, List.set_cons_succ]
      refine wpAnyH_take (i := 24) (oi := { dst := some 51, op := Op.pick (Operand.tmp 45) (Operand.tmp 50) (Operand.const (Value.bool false)), type := 4, pos := "law.go:74", after := #[{ on := 18, ground := Ground.data }, { on := 23, ground := Ground.data }], guard := none }) (v := .bool true) rfl (by kernel_rfl) (by kernel_rfl) (by kernel_rfl) (fun _ _ _ h => h) (Or.inl ⟨by rfl, by intro w' hSw; (try dsimp only at hSw); go_simp⟩) hHeld ?_
      try simp only [Act.put, List.setIfInBounds_toArray, List.set_cons_zero, List.set_cons_succ]
      refine wpAnyH_take (i := 25) (oi := { dst := some 52, op := Op.move (Operand.tmp 51), type := 4, pos := "law.go:74", after := #[{ on := 24, ground := Ground.data }, { on := 21, ground := Ground.chain }], guard := none }) (v := .bool true) rfl (by kernel_rfl) (by kernel_rfl) (by kernel_rfl) (fun _ _ _ h => h) (Or.inl ⟨by rfl, by intro w' hSw; (try dsimp only at hSw); go_simp⟩) hHeld ?_
      try simp only [Act.put, List.setIfInBounds_toArray, List.set_cons_zero, List.set_cons_succ]
      refine wpAnyH_take (i := 26) (oi := { dst := some 53, op := Op.move (Operand.tmp 0), type := 22, pos := "law.go:74", after := #[{ on := 25, ground := Ground.guard }], guard := some (25, true) }) (v := .slice va l.length vc) rfl (by kernel_rfl) (by kernel_rfl) (by kernel_rfl) (fun _ _ _ h => h) (Or.inl ⟨by rfl, by intro w' hSw; (try dsimp only at hSw); go_simp⟩) hHeld ?_
      try simp only [Act.put, List.setIfInBounds_toArray, List.set_cons_zero, List.set_cons_succ]
      refine wpAnyH_take (i := 28) (oi := { dst := some 55, op := Op.fieldAddr 32 (Operand.tmp 3) 1, type := 0, pos := "law.go:74", after := #[{ on := 25, ground := Ground.guard }], guard := some (25, true) }) (v := .pointer (some ⟨w.heap.size, 1, none⟩)) rfl (by kernel_rfl) (by kernel_rfl) (by kernel_rfl) (fun _ _ _ h => h) (Or.inl ⟨by rfl, by intro w' hSw; (try dsimp only at hSw); go_simp⟩) hHeld ?_
      try simp only [Act.put, List.setIfInBounds_toArray, List.set_cons_zero, List.set_cons_succ]
      refine wpAnyH_take (i := 29) (oi := { dst := some 56, op := Op.load 3 (Operand.tmp 55), type := 3, pos := "law.go:74", after := #[{ on := 28, ground := Ground.data }, { on := 25, ground := Ground.guard }], guard := some (25, true) }) (v := .int .i64 F) rfl (by kernel_rfl) (by kernel_rfl) (by kernel_rfl) (fun _ _ _ h => h) (Or.inl ⟨by rfl, by intro w' hSw; (try dsimp only at hSw); go_simp⟩) hHeld ?_
      try simp only [Act.put, List.setIfInBounds_toArray, List.set_cons_zero, List.set_cons_succ]
      refine wpAnyH_take (i := 30) (oi := { dst := some 57, op := Op.fieldAddr 32 (Operand.tmp 3) 2, type := 0, pos := "law.go:74", after := #[{ on := 25, ground := Ground.guard }], guard := some (25, true) }) (v := .pointer (some ⟨w.heap.size, 2, none⟩)) rfl (by kernel_rfl) (by kernel_rfl) (by kernel_rfl) (fun _ _ _ h => h) (Or.inl ⟨by rfl, by intro w' hSw; (try dsimp only at hSw); go_simp⟩) hHeld ?_
      try simp only [Act.put, List.setIfInBounds_toArray, List.set_cons_zero, List.set_cons_succ]
      refine wpAnyH_take (i := 31) (oi := { dst := some 58, op := Op.load 3 (Operand.tmp 57), type := 3, pos := "law.go:74", after := #[{ on := 30, ground := Ground.data }, { on := 25, ground := Ground.guard }], guard := some (25, true) }) (v := .int .i64 T) rfl (by kernel_rfl) (by kernel_rfl) (by kernel_rfl) (fun _ _ _ h => h) (Or.inl ⟨by rfl, by intro w' hSw; (try dsimp only at hSw); go_simp⟩) hHeld ?_
      try simp only [Act.put, List.setIfInBounds_toArray, List.set_cons_zero, List.set_cons_succ]
      refine wpAnyH_take (i := 33) (oi := { dst := some 60, op := Op.move (Operand.tmp 0), type := 22, pos := "law.go:74", after := #[{ on := 25, ground := Ground.guard }], guard := some (25, true) }) (v := .slice va l.length vc) rfl (by kernel_rfl) (by kernel_rfl) (by kernel_rfl) (fun _ _ _ h => h) (Or.inl ⟨by rfl, by intro w' hSw; (try dsimp only at hSw); go_simp⟩) hHeld ?_
      try simp only [Act.put, List.setIfInBounds_toArray, List.set_cons_zero, List.set_cons_succ]
      refine wpAnyH_take (i := 34) (oi := { dst := some 61, op := Op.fieldAddr 32 (Operand.tmp 3) 1, type := 0, pos := "law.go:74", after := #[{ on := 25, ground := Ground.guard }], guard := some (25, true) }) (v := .pointer (some ⟨w.heap.size, 1, none⟩)) rfl (by kernel_rfl) (by kernel_rfl) (by kernel_rfl) (fun _ _ _ h => h) (Or.inl ⟨by rfl, by intro w' hSw; (try dsimp only at hSw); go_simp⟩) hHeld ?_
      try simp only [Act.put, List.setIfInBounds_toArray, List.set_cons_zero, List.set_cons_succ]
      refine wpAnyH_take (i := 35) (oi := { dst := some 62, op := Op.load 3 (Operand.tmp 61), type := 3, pos := "law.go:74", after := #[{ on := 34, ground := Ground.data }, { on := 25, ground := Ground.guard }], guard := some (25, true) }) (v := .int .i64 F) rfl (by kernel_rfl) (by kernel_rfl) (by kernel_rfl) (fun _ _ _ h => h) (Or.inl ⟨by rfl, by intro w' hSw; (try dsimp only at hSw); go_simp⟩) hHeld ?_
      try simp only [Act.put, List.setIfInBounds_toArray, List.set_cons_zero, List.set_cons_succ]
      refine wpAnyH_take (i := 36) (oi := { dst := some 63, op := Op.fieldAddr 32 (Operand.tmp 3) 2, type := 0, pos := "law.go:74", after := #[{ on := 25, ground := Ground.guard }], guard := some (25, true) }) (v := .pointer (some ⟨w.heap.size, 2, none⟩)) rfl (by kernel_rfl) (by kernel_rfl) (by kernel_rfl) (fun _ _ _ h => h) (Or.inl ⟨by rfl, by intro w' hSw; (try dsimp only at hSw); go_simp⟩) hHeld ?_
      try simp only [Act.put, List.setIfInBounds_toArray, List.set_cons_zero, List.set_cons_succ]
      refine wpAnyH_take (i := 37) (oi := { dst := some 64, op := Op.load 3 (Operand.tmp 63), type := 3, pos := "law.go:74", after := #[{ on := 36, ground := Ground.data }, { on := 25, ground := Ground.guard }], guard := some (25, true) }) (v := .int .i64 T) rfl (by kernel_rfl) (by kernel_rfl) (by kernel_rfl) (fun _ _ _ h => h) (Or.inl ⟨by rfl, by intro w' hSw; (try dsimp only at hSw); go_simp⟩) hHeld ?_
      try simp only [Act.put, List.setIfInBounds_toArray, List.set_cons_zero, List.set_cons_succ]
      refine wpAnyH_ready (rs := [27]) (by kernel_rfl) (by simp) ?_
      refine AllReadyH.cons (o := { dst := some 54, op := Op.call { callee := Callee.value (Operand.func 10), args := #[Operand.tmp 53], argTypes := #[22] }, type := 22, pos := "law.go:74", after := #[{ on := 26, ground := Ground.data }, { on := 25, ground := Ground.chain }, { on := 25, ground := Ground.guard }], guard := some (25, true) }) rfl (fun K hK => ?_) AllReadyH.nil
      go_simp
      refine (HCo.out _ hBc).mono ?_; rintro e w9 ⟨v9, rfl, he9, hb9⟩; replace hBc : Below w0.heap.size w0 w9 := bstep hBc hb9
      try go_wp2_with fail
      refine hK.out _ _ (HK.out _ hBc) (fun hHeld => ?_)
      clear hK K
      try simp only [Act.put, List.setIfInBounds_toArray, List.set_cons_zero, List.set_cons_succ]
      refine wpAnyH_ready (rs := [32]) (by kernel_rfl) (by simp) ?_
      refine AllReadyH.cons (o := { dst := some 59, op := Op.call { callee := Callee.value (Operand.func 24), args := #[Operand.tmp 54, Operand.tmp 56, Operand.tmp 58], argTypes := #[22, 3, 3] }, type := 38, pos := "law.go:74", after := #[{ on := 27, ground := Ground.data }, { on := 29, ground := Ground.data }, { on := 31, ground := Ground.data }, { on := 27, ground := Ground.chain }, { on := 25, ground := Ground.guard }], guard := some (25, true) }) rfl (fun K hK => ?_) AllReadyH.nil
      go_simp
      refine (HFi.out _ _ he9).mono ?_; rintro e w10 ⟨v10, rfl, ho10, hb10⟩; replace hBc : Below w0.heap.size w0 w10 := bstep hBc hb10
      try go_wp2_with fail
      refine hK.out _ _ (HK.out _ hBc) (fun hHeld => ?_)
      clear hK K
      try simp only [Act.put, List.setIfInBounds_toArray, List.set_cons_zero, List.set_cons_succ]
      refine wpAnyH_ready (rs := [38]) (by kernel_rfl) (by simp) ?_
      refine AllReadyH.cons (o := { dst := some 65, op := Op.call { callee := Callee.value (Operand.func 25), args := #[Operand.tmp 60, Operand.tmp 62, Operand.tmp 64], argTypes := #[22, 3, 3] }, type := 38, pos := "law.go:74", after := #[{ on := 33, ground := Ground.data }, { on := 35, ground := Ground.data }, { on := 37, ground := Ground.data }, { on := 32, ground := Ground.chain }, { on := 25, ground := Ground.guard }], guard := some (25, true) }) rfl (fun K hK => ?_) AllReadyH.nil
      go_simp
      refine (HRf.out _ hBc).mono ?_; rintro e w11 ⟨v11, rfl, ho11, hb11⟩; replace hBc : Below w0.heap.size w0 w11 := bstep hBc hb11
      try go_wp2_with fail
      refine hK.out _ _ (HK.out _ hBc) (fun hHeld => ?_)
      clear hK K
      try simp only [Act.put, List.setIfInBounds_toArray, List.set_cons_zero, List.set_cons_succ]
      refine wpAnyH_ready (rs := [39]) (by kernel_rfl) (by simp) ?_
      refine AllReadyH.cons (o := { dst := some 66, op := Op.call { callee := Callee.value (Operand.func 16), args := #[Operand.tmp 59, Operand.tmp 65], argTypes := #[38, 38] }, type := 4, pos := "law.go:74", after := #[{ on := 32, ground := Ground.data }, { on := 38, ground := Ground.data }, { on := 38, ground := Ground.chain }, { on := 25, ground := Ground.guard }], guard := some (25, true) }) rfl (fun K hK => ?_) AllReadyH.nil
      go_simp
      refine (HSi.out _ _ _ (ho10.later hb11).is ho11.is).mono ?_; rintro e w12 ⟨rfl, hb12⟩; replace hBc : Below w0.heap.size w0 w12 := bstep hBc hb12
      try go_wp2_with fail
      refine hK.out _ _ (HK.out _ hBc) (fun hHeld => ?_)
      clear hK K
      try simp only [Act.put, List.setIfInBounds_toArray, List.set_cons_zero, List.set_cons_succ]
      refine wpAnyH_take (i := 40) (oi := { dst := some 67, op := Op.pick (Operand.tmp 52) (Operand.tmp 66) (Operand.const (Value.bool false)), type := 4, pos := "law.go:74", after := #[{ on := 25, ground := Ground.data }, { on := 39, ground := Ground.data }], guard := none }) (v := .bool true) rfl (by kernel_rfl) (by kernel_rfl) (by kernel_rfl) (fun _ _ _ h => h) (Or.inl ⟨by rfl, by intro w' hSw; (try dsimp only at hSw); go_simp⟩) hHeld ?_
      try simp only [Act.put, List.setIfInBounds_toArray, List.set_cons_zero, List.set_cons_succ]
      refine wpAnyH_take (i := 41) (oi := { dst := some 4, op := Op.assign (Operand.tmp 67), type := 4, pos := "law.go:74", after := #[{ on := 40, ground := Ground.data }, { on := 39, ground := Ground.chain }, { on := 0, ground := Ground.phase }, { on := 1, ground := Ground.phase }, { on := 2, ground := Ground.phase }, { on := 3, ground := Ground.phase }, { on := 4, ground := Ground.phase }, { on := 5, ground := Ground.phase }, { on := 6, ground := Ground.phase }, { on := 7, ground := Ground.phase }, { on := 8, ground := Ground.phase }, { on := 9, ground := Ground.phase }, { on := 10, ground := Ground.phase }, { on := 11, ground := Ground.phase }, { on := 12, ground := Ground.phase }, { on := 13, ground := Ground.phase }, { on := 14, ground := Ground.phase }, { on := 15, ground := Ground.phase }, { on := 16, ground := Ground.phase }, { on := 17, ground := Ground.phase }, { on := 18, ground := Ground.phase }, { on := 19, ground := Ground.phase }, { on := 20, ground := Ground.phase }, { on := 21, ground := Ground.phase }, { on := 22, ground := Ground.phase }, { on := 23, ground := Ground.phase }, { on := 24, ground := Ground.phase }, { on := 25, ground := Ground.phase }, { on := 26, ground := Ground.phase }, { on := 27, ground := Ground.phase }, { on := 28, ground := Ground.phase }, { on := 29, ground := Ground.phase }, { on := 30, ground := Ground.phase }, { on := 31, ground := Ground.phase }, { on := 32, ground := Ground.phase }, { on := 33, ground := Ground.phase }, { on := 34, ground := Ground.phase }, { on := 35, ground := Ground.phase }, { on := 36, ground := Ground.phase }, { on := 37, ground := Ground.phase }, { on := 38, ground := Ground.phase }, { on := 39, ground := Ground.phase }, { on := 40, ground := Ground.phase }], guard := none }) (v := .bool true) rfl (by kernel_rfl) (by kernel_rfl) (by kernel_rfl) (fun _ _ _ h => h) (Or.inl ⟨by rfl, by intro w' hSw; (try dsimp only at hSw); go_simp⟩) hHeld ?_
      try simp only [Act.put, List.setIfInBounds_toArray, List.set_cons_zero, List.set_cons_succ]
      refine wpAnyH_done (by kernel_rfl) ?_ _
      have HB12 : Hid (Below w0.heap.size w0 w12) := hBc
      clear he9 hb9 ho10 hb10 ho11 hb11 hBc
      go_wp2_with fail
      go_ret
      exact ⟨rfl, bstep HB0.out HB12.out⟩

end Go.Proofs.Ytbfcdcdeohikpaa
