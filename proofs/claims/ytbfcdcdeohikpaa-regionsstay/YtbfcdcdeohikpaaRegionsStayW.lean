
/- The walk of RegionsStay. -/
import Derived.Test.YtbfcdcdeohikpaaOpen9
namespace Go.Proofs.Ytbfcdcdeohikpaa
set_option linter.unusedVariables false
set_option linter.unusedSimpArgs false
open Go.RowKit
attribute [local go_sem ↓] Go.wp_at_zero Go.wp_at_succ

theorem pkL_nil {p : Cl → Bool} : ∀ {l : List Cl} {i : Int}, (∀ k (hk : k < l.length), p l[k] = false) → pkL p i l = []
  | [], _, _ => rfl
  | c :: r, i, h => by
    have h0 := h 0 (by simp)
    simp only [List.getElem_cons_zero] at h0
    unfold pkL
    rw [if_neg (by rw [h0]; decide), List.nil_append]
    exact pkL_nil fun k hk => h (k + 1) (by simpa using hk)
theorem way_self (l : List Cl) (n : Int) (a : List Sp) : WayR l false n a a := ⟨0, 0, Nat.zero_le _, Nat.zero_le _, rfl, fun x hx => by simp at hx, by simp⟩
/-- What may pass goes through nothing that is final. -/
theorem pass_fin {m : Int} {l : List Cl} (hr : RightL m l) {a b : Int} (h : WayR l false b (chR l a) (chR l b)) : ∀ k (hk : k < l.length), finB a b l[k] = false := by
  intro k hk
  unfold finB
  cases ha : hasB (triS l[k]) a with
  | false => simp
  | true =>
    have hb : hasB (triS l[k]) b = true := by
      have h0 : 0 < (spansL l[k]).length := by unfold spansL; split <;> simp
      have hs0 : (spansL l[k])[0] = triS l[k] := by rw [spans_bnd]; rfl
      have hin := lkL_in (n := a) (l := l) (i := 0) hk h0 (by rw [hs0]; exact ha)
      obtain ⟨y, hy, hsp⟩ := cmp_has (s := 0) (hr.nested a) _ hin (link_pos _ hin)
      have hyr : lkRg y ∈ chR l a := List.mem_map.2 ⟨y, hy, rfl⟩
      obtain ⟨i, k', _, _, hd, _, hi⟩ := h
      simp at hi
      subst hi
      rw [List.drop_zero] at hd
      rw [hd] at hyr
      have hyr2 := List.mem_of_mem_drop hyr
      obtain ⟨z, hz, hzr⟩ := List.mem_map.1 hyr2
      obtain ⟨ky, hky, jy, hjy, hye, _⟩ := lkL_mem (cmp_mem hy).1
      obtain ⟨kz, hkz, jz, hjz, hze, hzh⟩ := lkL_mem (cmp_mem hz).1
      rw [hye, hze] at hzr
      simp only [lkRg, Prod.mk.injEq] at hzr
      have e1 : kz = ky := by omega
      have e2 : jz = jy := by omega
      subst e1 e2
      rw [hye] at hsp
      simp only [lkSp] at hsp
      have : (spansL l[kz])[jz] = triS l[k] := by
        rw [← hs0]
        exact hsp
      rw [← this]; exact hzh
    rw [hb]; simp

set_option maxHeartbeats 8000000 in
theorem regionsStay_walk (v : Value) (l : List Cl) (y : Value) (x : Int × Int × Int) (w : World) (h : Es clE9 w v l) (hx : y = wyV x) :
    Calls Try.prog 6 #[v, y] w fun e w' => e = .returned (.bool true) ∧ Below w.heap.size w w' := by
  have h0 := h
  obtain ⟨va, vc, hv, _, _⟩ := h.shape
  have hll := h.len
  unfold maxLen at hll
  obtain ⟨N, F, T⟩ := x
  obtain ⟨w0, hw0⟩ : ∃ W, W = w.alloc (.cells #[.int .i64 N, .int .i64 F, .int .i64 T] 32) := ⟨_, rfl⟩
  have HW0 : Hid (w0 = _) := hw0
  have hb0 : Below w.heap.size w w0 := by rw [hw0]; exact made_below _ _ _
  have HB0 : Hid (Below w.heap.size w w0) := hb0
  have hA : At w0 w.heap.size #[.int .i64 N, .int .i64 F, .int .i64 T] 32 := by rw [hw0]; exact At.made w _ _
  have HK3 : Hid (∀ W, Below w0.heap.size w0 W → W.cell? ⟨w.heap.size, 0, none⟩ = some (.int .i64 N) ∧ W.cell? ⟨w.heap.size, 1, none⟩ = some (.int .i64 F) ∧ W.cell? ⟨w.heap.size, 2, none⟩ = some (.int .i64 T)) := fun W hW => ⟨(hA.later hW).cell 0, (hA.later hW).cell 1, (hA.later hW).cell 2⟩
  have HK : Hid (∀ W, Below w0.heap.size w0 W → W.cell? ⟨w.heap.size, 1, none⟩ = some (.int .i64 F) ∧ W.cell? ⟨w.heap.size, 2, none⟩ = some (.int .i64 T)) := fun W hW => (HK3.out W hW).2
  have HE : Hid (∀ W, Below w0.heap.size w0 W → Es clE9 W v l) := fun W hW => (h.later hb0).later hW
  clear h h0 hw0 hb0 hA
  subst hv
  subst hx
  unfold wyV
  go_enter Try.func6, Try.ntmps6
  go_wp2_with (rw [← HW0.out])
  refine (wakes9_any w0).mono ?_
  rintro e w1 ⟨rfl, hb1⟩
  have HB1 : Hid (Below w0.heap.size w0 w1) := hb1
  obtain ⟨k0, k1, k2⟩ := HK3.out w1 hb1
  have HMa : Hid (Calls Try.prog 12 #[.slice va l.length vc, .agg #[.int .i64 N, .int .i64 F, .int .i64 T]] w1 fun e w' => ∃ r, e = .returned (.bool r) ∧ MayR l (N, F, T) r ∧ Below w1.heap.size w1 w') := may_any (HE.out w1 hb1) (N, F, T)
  clear hb1
  go_wp2_with fail
  refine Calls.mono HMa.out ?_
  rintro e w2 ⟨r, rfl, hr, hb2⟩
  have HB2 : Hid (Below w0.heap.size w0 w2) := bstep HB1.out hb2
  clear hb2 HMa k0 k1 k2
  obtain ⟨k1, k2⟩ := HK.out w2 HB2.out
  cases r with
  | false =>
    go_wp2_with fail
    go_ret
    exact ⟨rfl, bstep HB0.out HB2.out⟩
  | true =>
    obtain ⟨hN, hR⟩ := hr rfl
    have h6 := hR.1
    have HRt : Hid (RightL N l) := hR
    clear hR hr
    have HCh : Hid (∀ W x, Below w0.heap.size w0 W → Calls Try.prog 15 #[.slice va l.length vc, .int .i64 x] W fun e w' => ∃ v', e = .returned v' ∧ OwnE spE w' W.heap.size 46 v' (chR l x) ∧ Below W.heap.size W w') := fun W x hW => refChain_any (HE.out W hW) HRt.out hN x
    have HLn : Hid (∀ x, (chR l x).length ≤ 18) := fun x => chain_len HRt.out x
    have HPs : Hid (∀ W a b, Below w0.heap.size w0 W → Calls Try.prog 20 #[.slice va l.length vc, .int .i64 a, .int .i64 b] W fun e w' => ∃ r : Bool, e = .returned (.bool r) ∧ (r = true ↔ WayR l false b (chR l a) (chR l b)) ∧ Below W.heap.size W w') := fun W a b hW => pass_any (HE.out W hW) HRt.out hN a b
    have HPy : Hid (∀ W a b, Below w0.heap.size w0 W → chR l a = chR l b → Calls Try.prog 20 #[.slice va l.length vc, .int .i64 a, .int .i64 b] W fun e w' => e = .returned (.bool true) ∧ Below W.heap.size W w') := fun W a b hW he => by
      refine (HPs.out W a b hW).mono ?_
      rintro e w' ⟨r, rfl, hr, hB⟩
      obtain rfl := hr.2 (by rw [he]; exact way_self l b _)
      exact ⟨rfl, hB⟩
    have HFi : Hid (∀ W a b, Below w0.heap.size w0 W → WayR l false b (chR l a) (chR l b) → Calls Try.prog 24 #[.slice va l.length vc, .int .i64 a, .int .i64 b] W fun e w' => ∃ fa fc, e = .returned (.slice fa 0 fc) ∧ Below W.heap.size W w') := fun W a b hW hw => by
      refine (finals_any (HE.out W hW) (by omega) a b).mono ?_
      rintro e w' ⟨v', rfl, ho, hB⟩
      rw [pkL_nil (pass_fin HRt.out hw)] at ho
      obtain ⟨fa, fc, rfl⟩ := ho.shape
      exact ⟨fa, fc, rfl, hB⟩
    go_wp2_with fail
    refine (HPy.out w2 F F HB2.out rfl).mono ?_
    rintro e w3 ⟨rfl, hb3⟩
    have HB3 : Hid (Below w0.heap.size w0 w3) := bstep HB2.out hb3
    clear hb3 k1 k2
    obtain ⟨k1, k2⟩ := HK.out w3 HB3.out
    go_wp2_with fail
    refine (HFi.out w3 F F HB3.out (way_self l F _)).mono ?_
    rintro e w4 ⟨fa, fc, rfl, hb4⟩
    have HB4 : Hid (Below w0.heap.size w0 w4) := bstep HB3.out hb4
    clear hb4 k1 k2
    obtain ⟨k1, k2⟩ := HK.out w4 HB4.out
    go_wp2_with fail
    by_cases hsm : chR l F = chR l T
    · have HSm : Hid (∀ W va vb, Es spE W va (chR l F) → Es spE W vb (chR l T) → Calls Try.prog 14 #[va, vb] W fun e w' => e = .returned (.bool true) ∧ Below W.heap.size W w') := fun W va vb h1 h2 => by
        refine (Same9_any h1 h2 (by have := HLn.out F; omega) (by have := HLn.out T; omega)).mono ?_
        rintro e w' ⟨rfl, hB⟩
        exact ⟨by rw [decide_eq_true hsm], hB⟩
      have HPt : Hid (∀ W, Below w0.heap.size w0 W → Calls Try.prog 20 #[.slice va l.length vc, .int .i64 F, .int .i64 T] W fun e w' => e = .returned (.bool true) ∧ Below W.heap.size W w') := fun W hW => HPy.out W F T hW hsm
      have HWt : Hid (WayR l false T (chR l F) (chR l T)) := by show WayR _ _ _ _ _; rw [hsm]; exact way_self l T _
      clear hsm
      go_region_held3 (fun W => W.cell? ⟨w.heap.size, 1, none⟩ = some (.int .i64 F) ∧ W.cell? ⟨w.heap.size, 2, none⟩ = some (.int .i64 T))
        (first | (exact HK.out _ (bstep HB4.out (bdrew _))) | (exact HK.out _ hBc))
        (first
          | (go_at_call 15; first
              | (refine (HCh.out _ _ hBc).mono ?_; rintro e w6 ⟨v6, rfl, ho6, hb6⟩; have hBc : Below w0.heap.size w0 w6 := bstep hBc hb6)
              | (refine (HCh.out _ _ (bstep HB4.out (bdrew _))).mono ?_; rintro e w5 ⟨v5, rfl, ho5, hb5⟩; have hBc : Below w0.heap.size w0 w5 := bstep (bstep HB4.out (bdrew _)) hb5))
          | (go_at_call 14; refine (HSm.out _ _ _ (ho5.later hb6).es ho6.es).mono ?_; rintro e w7 ⟨rfl, hb7⟩; have hBc : Below w0.heap.size w0 w7 := bstep hBc hb7)
          | (go_at_call 20; refine (HPt.out _ hBc).mono ?_; rintro e w8 ⟨rfl, hb8⟩; have hBc : Below w0.heap.size w0 w8 := bstep hBc hb8))
      rename_i hheld
      clear hheld
      have HB8 : Hid (Below w0.heap.size w0 w8) := hBc
      clear ho5 ho6 hb5 hb6 hb7 hb8 hBc k1 k2
      obtain ⟨k1, k2⟩ := HK.out w8 HB8.out
      go_wp2_with fail
      refine (HPt.out w8 HB8.out).mono ?_
      rintro e w9 ⟨rfl, hb9⟩
      have HB9 : Hid (Below w0.heap.size w0 w9) := bstep HB8.out hb9
      clear hb9 k1 k2
      obtain ⟨k1, k2⟩ := HK.out w9 HB9.out
      go_wp2_with fail
      refine (HFi.out w9 F T HB9.out HWt.out).mono ?_
      rintro e w10 ⟨fa2, fc2, rfl, hb10⟩
      have HB10 : Hid (Below w0.heap.size w0 w10) := bstep HB9.out hb10
      clear hb10
      go_wp2_with fail
      go_ret
      exact ⟨rfl, bstep HB0.out HB10.out⟩
    · have HSm : Hid (∀ W va vb, Es spE W va (chR l F) → Es spE W vb (chR l T) → Calls Try.prog 14 #[va, vb] W fun e w' => e = .returned (.bool false) ∧ Below W.heap.size W w') := fun W va vb h1 h2 => by
        refine (Same9_any h1 h2 (by have := HLn.out F; omega) (by have := HLn.out T; omega)).mono ?_
        rintro e w' ⟨rfl, hB⟩
        exact ⟨by rw [decide_eq_false hsm], hB⟩
      clear hsm
      refine wp_region_held_drew (S := (fun W : World => W.cell? ⟨w.heap.size, 1, none⟩ = some (.int .i64 F) ∧ W.cell? ⟨w.heap.size, 2, none⟩ = some (.int .i64 T))) (by kernel_rfl) (HK.out _ (bstep HB4.out (bdrew _))) (fun hHeld => ?_)
      refine wpAnyH_take (i := 0) (oi := { dst := some 28, op := Op.move (Operand.tmp 0), type := 22, pos := "law.go:88", after := #[], guard := none }) (v := .slice va l.length vc) rfl (by kernel_rfl) (by kernel_rfl) (by kernel_rfl) (fun _ _ _ h => h) (Or.inl ⟨by rfl, by intro w' hSw; (try dsimp only at hSw); go_simp⟩) hHeld ?_
      try simp only [Act.put, List.setIfInBounds_toArray, List.set_cons_zero, List.set_cons_succ]
      refine wpAnyH_take (i := 1) (oi := { dst := some 29, op := Op.fieldAddr 32 (Operand.tmp 3) 1, type := 0, pos := "law.go:88", after := #[], guard := none }) (v := .pointer (some ⟨w.heap.size, 1, none⟩)) rfl (by kernel_rfl) (by kernel_rfl) (by kernel_rfl) (fun _ _ _ h => h) (Or.inl ⟨by rfl, by intro w' hSw; (try dsimp only at hSw); go_simp⟩) hHeld ?_
      try simp only [Act.put, List.setIfInBounds_toArray, List.set_cons_zero, List.set_cons_succ]
      refine wpAnyH_take (i := 2) (oi := { dst := some 30, op := Op.load 3 (Operand.tmp 29), type := 3, pos := "law.go:88", after := #[{ on := 1, ground := Ground.data }], guard := none }) (v := .int .i64 F) rfl (by kernel_rfl) (by kernel_rfl) (by kernel_rfl) (fun _ _ _ h => h) (Or.inl ⟨by rfl, by intro w' hSw; (try dsimp only at hSw); go_simp⟩) hHeld ?_
      try simp only [Act.put, List.setIfInBounds_toArray, List.set_cons_zero, List.set_cons_succ]
      refine wpAnyH_take (i := 4) (oi := { dst := some 32, op := Op.move (Operand.tmp 0), type := 22, pos := "law.go:88", after := #[], guard := none }) (v := .slice va l.length vc) rfl (by kernel_rfl) (by kernel_rfl) (by kernel_rfl) (fun _ _ _ h => h) (Or.inl ⟨by rfl, by intro w' hSw; (try dsimp only at hSw); go_simp⟩) hHeld ?_
      try simp only [Act.put, List.setIfInBounds_toArray, List.set_cons_zero, List.set_cons_succ]
      refine wpAnyH_take (i := 5) (oi := { dst := some 33, op := Op.fieldAddr 32 (Operand.tmp 3) 2, type := 0, pos := "law.go:88", after := #[], guard := none }) (v := .pointer (some ⟨w.heap.size, 2, none⟩)) rfl (by kernel_rfl) (by kernel_rfl) (by kernel_rfl) (fun _ _ _ h => h) (Or.inl ⟨by rfl, by intro w' hSw; (try dsimp only at hSw); go_simp⟩) hHeld ?_
      try simp only [Act.put, List.setIfInBounds_toArray, List.set_cons_zero, List.set_cons_succ]
      refine wpAnyH_take (i := 6) (oi := { dst := some 34, op := Op.load 3 (Operand.tmp 33), type := 3, pos := "law.go:88", after := #[{ on := 5, ground := Ground.data }], guard := none }) (v := .int .i64 T) rfl (by kernel_rfl) (by kernel_rfl) (by kernel_rfl) (fun _ _ _ h => h) (Or.inl ⟨by rfl, by intro w' hSw; (try dsimp only at hSw); go_simp⟩) hHeld ?_
      try simp only [Act.put, List.setIfInBounds_toArray, List.set_cons_zero, List.set_cons_succ]
      refine wpAnyH_ready (rs := [3]) (by kernel_rfl) (by simp) ?_
      refine AllReadyH.cons (o := { dst := some 31, op := Op.call { callee := Callee.value (Operand.func 15), args := #[Operand.tmp 28, Operand.tmp 30], argTypes := #[22, 3] }, type := 34, pos := "law.go:88", after := #[{ on := 0, ground := Ground.data }, { on := 2, ground := Ground.data }], guard := none }) rfl (fun K hK => ?_) AllReadyH.nil
      go_simp
      refine (HCh.out _ _ (bstep HB4.out (bdrew _))).mono ?_; rintro e w5 ⟨v5, rfl, ho5, hb5⟩; have hBc : Below w0.heap.size w0 w5 := bstep (bstep HB4.out (bdrew _)) hb5
      try go_wp2_with fail
      refine hK.out _ _ (HK.out _ hBc) (fun hHeld => ?_)
      clear hK K
      try simp only [Act.put, List.setIfInBounds_toArray, List.set_cons_zero, List.set_cons_succ]
      refine wpAnyH_ready (rs := [7]) (by kernel_rfl) (by simp) ?_
      refine AllReadyH.cons (o := { dst := some 35, op := Op.call { callee := Callee.value (Operand.func 15), args := #[Operand.tmp 32, Operand.tmp 34], argTypes := #[22, 3] }, type := 34, pos := "law.go:88", after := #[{ on := 4, ground := Ground.data }, { on := 6, ground := Ground.data }, { on := 3, ground := Ground.chain }], guard := none }) rfl (fun K hK => ?_) AllReadyH.nil
      go_simp
      refine (HCh.out _ _ hBc).mono ?_; rintro e w6 ⟨v6, rfl, ho6, hb6⟩; replace hBc : Below w0.heap.size w0 w6 := bstep hBc hb6
      try go_wp2_with fail
      refine hK.out _ _ (HK.out _ hBc) (fun hHeld => ?_)
      clear hK K
      try simp only [Act.put, List.setIfInBounds_toArray, List.set_cons_zero, List.set_cons_succ]
      refine wpAnyH_ready (rs := [8]) (by kernel_rfl) (by simp) ?_
      refine AllReadyH.cons (o := { dst := some 36, op := Op.call { callee := Callee.value (Operand.func 14), args := #[Operand.tmp 31, Operand.tmp 35], argTypes := #[34, 34] }, type := 4, pos := "law.go:88", after := #[{ on := 3, ground := Ground.data }, { on := 7, ground := Ground.data }, { on := 7, ground := Ground.chain }], guard := none }) rfl (fun K hK => ?_) AllReadyH.nil
      go_simp
      refine (HSm.out _ _ _ (ho5.later hb6).es ho6.es).mono ?_; rintro e w7 ⟨rfl, hb7⟩; replace hBc : Below w0.heap.size w0 w7 := bstep hBc hb7
      try go_wp2_with fail
      refine hK.out _ _ (HK.out _ hBc) (fun hHeld => ?_)
      clear hK K
      try simp only [Act.put, List.setIfInBounds_toArray, List.set_cons_zero, List.set_cons_succ]
      refine wpAnyH_take (i := 9) (oi := { dst := some 37, op := Op.move (Operand.tmp 36), type := 4, pos := "law.go:88", after := #[{ on := 8, ground := Ground.data }, { on := 8, ground := Ground.chain }], guard := none }) (v := .bool false) rfl (by kernel_rfl) (by kernel_rfl) (by kernel_rfl) (fun _ _ _ h => h) (Or.inl ⟨by rfl, by intro w' hSw; (try dsimp only at hSw); go_simp⟩) hHeld ?_
      try simp only [Act.put, List.setIfInBounds_toArray, List.set_cons_zero, List.set_cons_succ]
      refine wpAnyH_take (i := 10) (oi := { dst := some 38, op := Op.move (Operand.tmp 0), type := 22, pos := "law.go:88", after := #[{ on := 9, ground := Ground.guard }], guard := some (9, true) }) (v := undef) rfl (by kernel_rfl) (by kernel_rfl) (by kernel_rfl) (fun _ _ _ h => h) (Or.inr ⟨by rfl, rfl⟩) hHeld ?_
      try simp only [Act.put, List.setIfInBounds_toArray, List.set_cons_zero, List.set_cons_succ]
      refine wpAnyH_take (i := 11) (oi := { dst := some 39, op := Op.fieldAddr 32 (Operand.tmp 3) 1, type := 0, pos := "law.go:88", after := #[{ on := 9, ground := Ground.guard }], guard := some (9, true) }) (v := undef) rfl (by kernel_rfl) (by kernel_rfl) (by kernel_rfl) (fun _ _ _ h => h) (Or.inr ⟨by rfl, rfl⟩) hHeld ?_
      try simp only [Act.put, List.setIfInBounds_toArray, List.set_cons_zero, List.set_cons_succ]
      refine wpAnyH_take (i := 12) (oi := { dst := some 40, op := Op.load 3 (Operand.tmp 39), type := 3, pos := "law.go:88", after := #[{ on := 11, ground := Ground.data }, { on := 9, ground := Ground.guard }], guard := some (9, true) }) (v := undef) rfl (by kernel_rfl) (by kernel_rfl) (by kernel_rfl) (fun _ _ _ h => h) (Or.inr ⟨by rfl, rfl⟩) hHeld ?_
      try simp only [Act.put, List.setIfInBounds_toArray, List.set_cons_zero, List.set_cons_succ]
      refine wpAnyH_take (i := 13) (oi := { dst := some 41, op := Op.fieldAddr 32 (Operand.tmp 3) 2, type := 0, pos := "law.go:88", after := #[{ on := 9, ground := Ground.guard }], guard := some (9, true) }) (v := undef) rfl (by kernel_rfl) (by kernel_rfl) (by kernel_rfl) (fun _ _ _ h => h) (Or.inr ⟨by rfl, rfl⟩) hHeld ?_
      try simp only [Act.put, List.setIfInBounds_toArray, List.set_cons_zero, List.set_cons_succ]
      refine wpAnyH_take (i := 14) (oi := { dst := some 42, op := Op.load 3 (Operand.tmp 41), type := 3, pos := "law.go:88", after := #[{ on := 13, ground := Ground.data }, { on := 9, ground := Ground.guard }], guard := some (9, true) }) (v := undef) rfl (by kernel_rfl) (by kernel_rfl) (by kernel_rfl) (fun _ _ _ h => h) (Or.inr ⟨by rfl, rfl⟩) hHeld ?_
      try simp only [Act.put, List.setIfInBounds_toArray, List.set_cons_zero, List.set_cons_succ]
      refine wpAnyH_take (i := 15) (oi := { dst := some 43, op := Op.call { callee := Callee.value (Operand.func 20), args := #[Operand.tmp 38, Operand.tmp 40, Operand.tmp 42], argTypes := #[22, 3, 3] }, type := 4, pos := "law.go:88", after := #[{ on := 10, ground := Ground.data }, { on := 12, ground := Ground.data }, { on := 14, ground := Ground.data }, { on := 9, ground := Ground.chain }, { on := 9, ground := Ground.guard }], guard := some (9, true) }) (v := undef) rfl (by kernel_rfl) (by kernel_rfl) (by kernel_rfl) (fun _ _ _ h => h) (Or.inr ⟨by rfl, rfl⟩) hHeld ?_
      try simp only [Act.put, List.setIfInBounds_toArray, List.set_cons_zero, List.set_cons_succ]
      refine wpAnyH_take (i := 16) (oi := { dst := some 44, op := Op.unOp UnOp.not 4 (Operand.tmp 43), type := 4, pos := "law.go:88", after := #[{ on := 15, ground := Ground.data }, { on := 9, ground := Ground.guard }], guard := some (9, true) }) (v := undef) rfl (by kernel_rfl) (by kernel_rfl) (by kernel_rfl) (fun _ _ _ h => h) (Or.inr ⟨by rfl, rfl⟩) hHeld ?_
      try simp only [Act.put, List.setIfInBounds_toArray, List.set_cons_zero, List.set_cons_succ]
      refine wpAnyH_take (i := 17) (oi := { dst := some 45, op := Op.pick (Operand.tmp 37) (Operand.tmp 44) (Operand.const (Value.bool false)), type := 4, pos := "law.go:88", after := #[{ on := 9, ground := Ground.data }, { on := 16, ground := Ground.data }], guard := none }) (v := .bool false) rfl (by kernel_rfl) (by kernel_rfl) (by kernel_rfl) (fun _ _ _ h => h) (Or.inl ⟨by rfl, by intro w' hSw; (try dsimp only at hSw); go_simp⟩) hHeld ?_
      try simp only [Act.put, List.setIfInBounds_toArray, List.set_cons_zero, List.set_cons_succ]
      refine wpAnyH_done (by kernel_rfl) ?_ _
      have HB8 : Hid (Below w0.heap.size w0 w7) := hBc
      clear ho5 ho6 hb5 hb6 hb7 hBc k1 k2
      obtain ⟨k1, k2⟩ := HK.out w7 HB8.out
      go_wp2_with fail
      refine (HPs.out w7 F T HB8.out).mono ?_
      rintro e w9 ⟨r, rfl, hr, hb9⟩
      have HB9 : Hid (Below w0.heap.size w0 w9) := bstep HB8.out hb9
      have HR9 : Hid (r = true ↔ WayR l false T (chR l F) (chR l T)) := hr
      clear hb9 hr k1 k2
      obtain ⟨k1, k2⟩ := HK.out w9 HB9.out
      cases r with
      | false =>
        go_wp2_with fail
        go_ret
        exact ⟨rfl, bstep HB0.out HB9.out⟩
      | true =>
        go_wp2_with fail
        refine (HFi.out w9 F T HB9.out (by first | exact HR9.out.1 rfl | exact HR9.out.1 trivial | exact HR9.out)).mono ?_
        rintro e w10 ⟨fa2, fc2, rfl, hb10⟩
        have HB10 : Hid (Below w0.heap.size w0 w10) := bstep HB9.out hb10
        clear hb10
        go_wp2_with fail
        go_ret
        exact ⟨rfl, bstep HB0.out HB10.out⟩

end Go.Proofs.Ytbfcdcdeohikpaa
