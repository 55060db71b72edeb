/- Texts joined: FormC10, Sorted10. -/
import Derived.Test.YthpmpdpfnlecmaaGreatK19
namespace Go.Proofs.YthpmpdpfnlecmaaGreat
set_option linter.unusedVariables false
set_option linter.unusedSimpArgs false
open Go.RowKit
attribute [local go_sem ↓] Go.wp_at_zero Go.wp_at_succ
set_option maxHeartbeats 4000000 in
theorem isMethod_any (a b c : Nat) (x : MD) {w : World} (hx : x.ok w) :
  Calls Tryz.prog 104 #[szV a b c, mdV x] w fun e w' => e = .returned (.bool (mdB a b c x)) ∧ Below w.heap.size w w' := by
 obtain ⟨w0, hw0⟩ : ∃ W, W = (w.alloc (.cells (szC a b c) 109)).alloc (.cells (mdA x) 55) := ⟨_, rfl⟩
 have HW0 : Hid (w0 = _) := hw0
 obtain ⟨hb0, hat⟩ := two_boxes hw0
 have HB0 : Hid (Below w.heap.size w w0) := hb0
 have HAT : Hid (∀ W, Below w0.heap.size w0 W → At W w.heap.size (szC a b c) 109 ∧ At W (w.heap.size + 1) (mdA x) 55) := hat
 have HX : Hid (∀ W, Below w.heap.size w W → x.ok W) := fun W hW => hx.later hW
 obtain ⟨hA1, hA2⟩ := hat w0 (Below.refl _ _)
 have c1 := hA1.cell
 have c2 := hA2.cell
 obtain ⟨rS, hS⟩ : ∃ r, r = (decide (sigE x.ps x.rt = 0) && ownB a x.rt && x.ps.all (ownB a)) := ⟨_, rfl⟩
 obtain ⟨rL, hL⟩ : ∃ r, r = (decide (locE x.ls = 0) && x.ls.all (ownB a)) := ⟨_, rfl⟩
 obtain ⟨rC, hC⟩ : ∃ r, r = (decide (x.co.length ≤ 160) && x.co.all (insB a b c x.co.length)) := ⟨_, rfl⟩
 obtain ⟨rK, hK⟩ : ∃ r, r = (rgtB x.co.length x.cl && x.cl.all (catB a)) := ⟨_, rfl⟩
 have HF : Hid (mdB a b c x = (fineB x.nm.data.toList && (decide (0 ≤ x.ow) && decide (x.ow < a)) && witB x.fl 31 && witB x.mx 12 && rS && rL && rC && rK)) := by show _ = _; rw [hS, hL, hC, hK]; rfl
 have HS : Hid (∀ W, Below w0.heap.size w0 W → Calls Tryz.prog 153 #[.agg #[.int .i64 a, .int .i64 b, .int .i64 c], .agg (mdA x)] W fun e w' => e = .returned (.bool rS) ∧ Below W.heap.size W w') := fun W hW => by rw [hS]; exact isSig_any a b c x (hx.later (bstep hb0 hW))
 have HL : Hid (∀ W, Below w0.heap.size w0 W → Calls Tryz.prog 154 #[.agg #[.int .i64 a, .int .i64 b, .int .i64 c], .slice x.la x.ls.length x.lc] W fun e w' => e = .returned (.bool rL) ∧ Below W.heap.size W w') := fun W hW => by rw [hL]; exact isLocals_any a b c (hx.later (bstep hb0 hW)).ls
 have HC : Hid (∀ W, Below w0.heap.size w0 W → Calls Tryz.prog 155 #[.agg #[.int .i64 a, .int .i64 b, .int .i64 c], .slice x.ca x.co.length x.cc] W fun e w' => e = .returned (.bool rC) ∧ Below W.heap.size W w') := fun W hW => by rw [hC]; exact isCode_any a b c (hx.later (bstep hb0 hW)).co
 have HK : Hid (∀ W, Below w0.heap.size w0 W → Calls Tryz.prog 156 #[.agg #[.int .i64 a, .int .i64 b, .int .i64 c], .agg (mdA x)] W fun e w' => e = .returned (.bool rK) ∧ Below W.heap.size W w') := fun W hW => by rw [hK]; exact isClauses_any a b c x (hx.later (bstep hb0 hW))
 unfold mdA at c2 HW0 HS HK
 unfold szC at c1 HW0
 clear hw0 hb0 hat hA1 hA2 hx hS hL hC hK
 unfold mdV szV
 go_enter Tryz.func104, Tryz.ntmps104
 go_wp2_with (rw [← HW0.out])
 refine (fine_any _ _).mono ?_
 rintro e wz ⟨rfl, hz⟩
 subst wz
 cases hfi : fineB x.nm.data.toList with
 | false =>
  go_wp2_with fail
  go_ret
  exact ⟨ret_bool (by rw [HF.out, hfi]; simp), HB0.out⟩
 | true =>
  go_wp2_with fail
  refine (isNumber_any _ _ _).mono ?_
  rintro e wz ⟨rfl, hz⟩
  subst wz
  cases hnu : (decide (0 ≤ x.ow) && decide (x.ow < a)) with
  | false =>
   go_wp2_with fail
   go_ret
   exact ⟨ret_bool (by rw [HF.out, hnu]; simp), HB0.out⟩
  | true =>
   go_wp2_with fail
   refine (isWithin_any _ _ _).mono ?_
   rintro e wz ⟨rfl, hz⟩
   subst wz
   cases hwi : witB x.fl 31 with
   | false =>
    go_wp2_with fail
    go_ret
    exact ⟨ret_bool (by rw [HF.out, hwi]; simp), HB0.out⟩
   | true =>
    go_wp2_with fail
    refine (isWithin_any _ _ _).mono ?_
    rintro e wz ⟨rfl, hz⟩
    subst wz
    cases hwx : witB x.mx 12 with
    | false =>
     go_wp2_with fail
     go_ret
     exact ⟨ret_bool (by rw [HF.out, hwx]; simp), HB0.out⟩
    | true =>
     have HG : Hid (mdB a b c x = (rS && rL && rC && rK)) := by show _ = _; rw [HF.out, hfi, hnu, hwi, hwx]; simp
     have HS0 := HS.out w0 (Below.refl _ _)
     clear hfi hnu hwi hwx HF
     go_wp2_with fail
     refine Calls.mono HS0 ?_
     rintro e w1 ⟨rfl, hb1⟩
     have HB1 : Hid (Below w0.heap.size w0 w1) := hb1
     clear HS0 c1 c2
     obtain ⟨hA1, hA2⟩ := HAT.out w1 hb1
     have c1 := hA1.cell
     have c2 := hA2.cell
     unfold mdA at c2
     unfold szC at c1
     clear hA1 hA2 hb1
     cases rS with
     | false =>
      go_wp2_with fail
      go_ret
      exact ⟨ret_bool (by rw [HG.out]; simp), bstep HB0.out HB1.out⟩
     | true =>
      have HL1 := HL.out w1 HB1.out
      go_wp2_with fail
      refine Calls.mono HL1 ?_
      rintro e w2 ⟨rfl, hb2⟩
      have HB2 : Hid (Below w0.heap.size w0 w2) := bstep HB1.out hb2
      clear HL1 c1 c2 hb2
      obtain ⟨hA1, hA2⟩ := HAT.out w2 HB2.out
      have c1 := hA1.cell
      have c2 := hA2.cell
      unfold mdA at c2
      unfold szC at c1
      clear hA1 hA2
      cases rL with
      | false =>
       go_wp2_with fail
       go_ret
       exact ⟨ret_bool (by rw [HG.out]; simp), bstep HB0.out HB2.out⟩
      | true =>
       have HC2 := HC.out w2 HB2.out
       go_wp2_with fail
       refine Calls.mono HC2 ?_
       rintro e w3 ⟨rfl, hb3⟩
       have HB3 : Hid (Below w0.heap.size w0 w3) := bstep HB2.out hb3
       clear HC2 c1 c2 hb3
       obtain ⟨hA1, hA2⟩ := HAT.out w3 HB3.out
       have c1 := hA1.cell
       have c2 := hA2.cell
       unfold mdA at c2
       unfold szC at c1
       clear hA1 hA2
       cases rC with
       | false =>
        go_wp2_with fail
        go_ret
        exact ⟨ret_bool (by rw [HG.out]; simp), bstep HB0.out HB3.out⟩
       | true =>
        have HK3 := HK.out w3 HB3.out
        go_wp2_with fail
        refine Calls.mono HK3 ?_
        rintro e w4 ⟨rfl, hb4⟩
        have HB4 : Hid (Below w0.heap.size w0 w4) := bstep HB3.out hb4
        clear HK3 c1 c2 hb4
        go_wp2
        go_ret
        exact ⟨ret_bool (by rw [HG.out]; simp), bstep HB0.out HB4.out⟩

set_option maxHeartbeats 1000000 in
theorem byFieldOwner_any (x y : FD) (w : World) :
  Calls Tryz.prog 102 #[fdV x, fdV y] w fun e w' => e = .returned (.int .i64 (cmpI x.ow y.ow)) ∧ Below w.heap.size w w' := by
 obtain ⟨w0, hw0⟩ : ∃ W, W = (w.alloc (.cells (fdA x) 75)).alloc (.cells (fdA y) 75) := ⟨_, rfl⟩
 have HW0 : Hid (w0 = _) := hw0
 obtain ⟨hb0, hat⟩ := two_boxes hw0
 have HB0 : Hid (Below w.heap.size w w0) := hb0
 obtain ⟨hA1, hA2⟩ := hat w0 (Below.refl _ _)
 have c1 := hA1.cell
 have c2 := hA2.cell
 unfold fdA at c1 c2 HW0
 clear hw0 hb0 hat hA1 hA2
 unfold fdV
 go_enter Tryz.func102, Tryz.ntmps102
 go_wp2_with (rw [← HW0.out])
 refine (compareI_any _ _ _).mono ?_
 rintro e wz ⟨rfl, hz⟩
 subst wz
 go_wp2
 go_ret
 exact ⟨rfl, HB0.out⟩
set_option maxHeartbeats 1000000 in
theorem byMethodOwner_any (x y : MD) (w : World) :
  Calls Tryz.prog 106 #[mdV x, mdV y] w fun e w' => e = .returned (.int .i64 (cmpI x.ow y.ow)) ∧ Below w.heap.size w w' := by
 obtain ⟨w0, hw0⟩ : ∃ W, W = (w.alloc (.cells (mdA x) 55)).alloc (.cells (mdA y) 55) := ⟨_, rfl⟩
 have HW0 : Hid (w0 = _) := hw0
 obtain ⟨hb0, hat⟩ := two_boxes hw0
 have HB0 : Hid (Below w.heap.size w w0) := hb0
 obtain ⟨hA1, hA2⟩ := hat w0 (Below.refl _ _)
 have c1 := hA1.cell
 have c2 := hA2.cell
 unfold mdA at c1 c2 HW0
 clear hw0 hb0 hat hA1 hA2
 unfold mdV
 go_enter Tryz.func106, Tryz.ntmps106
 go_wp2_with (rw [← HW0.out])
 refine (compareI_any _ _ _).mono ?_
 rintro e wz ⟨rfl, hz⟩
 subst wz
 go_wp2
 go_ret
 exact ⟨rfl, HB0.out⟩
theorem ris_no {l : List Int} {k : Nat} (hk : k + 1 < l.length) (h : l[k + 1] < l[k]) : risB l = false := by
 cases hr : risB l with
 | false => rfl
 | true => have := (ris_iff l).1 hr k hk; omega
theorem ris_step {l : List Int} {k : Nat} (hk : k + 1 < l.length) (h : ¬ l[k + 1] < l[k]) (hz : ∀ j (hj : j + 1 < l.length), k + 1 ≤ j → l[j] ≤ l[j + 1]) : ∀ j (hj : j + 1 < l.length), k ≤ j → l[j] ≤ l[j + 1] := fun j hj hk' => by
 rcases Nat.lt_or_ge k j with g | g
 ·exact hz j hj g
 ·obtain rfl : j = k := by omega
  omega

set_option maxHeartbeats 4000000 in
theorem sortedF_some {b off cap : Nat} {l : List FD} {w : World} (hb : b < w.heap.size) (hc : ∀ i (hi : i < l.length), El fdE w b (off + i * 7) l[i]) (hl : l.length ≤ maxLen) :
  Calls Tryz.prog 101 #[.slice (some ⟨b, off, none⟩) l.length cap, .func (.func 102) #[] #[]] w fun e w' => e = .returned (.bool (risB (l.map (·.ow)))) ∧ Below w.heap.size w w' := by
 unfold maxLen at hl
 have HC : Hid (∀ i (hi : i < l.length), El fdE w b (off + i * 7) l[i]) := hc
 clear hc
 go_enter Tryz.func101, Tryz.ntmps101
 go_wp2_with fail
 go_loopw [5] (fun z wr => ∃ q : Nat, q ≤ l.length ∧ z = .int .i64 ((q : Int) - 1) ∧ Below w.heap.size w wr ∧ Hid (∀ j (hj : j + 1 < (l.map (·.ow)).length), q ≤ j + 1 → (l.map (·.ow))[j]'(by omega) ≤ (l.map (·.ow))[j + 1])) (fun z _ => (intOf z + 1).toNat)
 case atStart => exact ⟨l.length, Nat.le_refl _, rfl, Below.refl _ _, fun j hj h => absurd hj (by simp; omega)⟩
 case round =>
  obtain ⟨q, hq, rfl, hB, HZ⟩ := hrel
  have HBL : Hid (Below w.heap.size w wr) := hB
  by_cases hq2 : 2 ≤ q
  ·obtain ⟨k, m, hk, hm⟩ : ∃ k m, q = m + 1 ∧ m = k + 1 := ⟨q - 2, q - 1, by omega, by omega⟩
   have e1 : ((q : Int) - 1) = (m : Int) := by omega
   have e2 : IntKind.i64.wrap ((m : Int) - 1) = (k : Int) := by rw [IntKind.wrap_i64]; omega
   have h1 : m < l.length := by omega
   have h2 : k < l.length := by omega
   have h0 : (0 : Int) < (m : Int) := by omega
   have HL : Hid (k + 1 < (l.map (·.ow)).length) := by show _ < _; simp; omega
   have HZ2 : Hid (l[m].ow < l[k].ow → risB (l.map (·.ow)) = false) := fun h => ris_no (k := k) HL.out (by subst hm; simpa using h)
   have HM : Hid (m = k + 1) := hm
   have HZ3 : Hid (l[k].ow ≤ l[m].ow → ∀ j (hj : j + 1 < (l.map (·.ow)).length), m ≤ j + 1 → (l.map (·.ow))[j]'(by omega) ≤ (l.map (·.ow))[j + 1]) := fun h j hj hjm => ris_step HL.out (by subst hm; simp; omega) (fun j' hj' h' => HZ.out j' hj' (by omega)) j hj (by omega)
   obtain ⟨x, hx⟩ : ∃ x, x = l[m] := ⟨_, rfl⟩
   obtain ⟨y, hy⟩ : ∃ y, y = l[k] := ⟨_, rfl⟩
   have HK : Hid (∀ W, Below wr.heap.size wr W → (W.cell? ⟨b, off + m * 7, none⟩ = some (.string x.nm) ∧ W.cell? ⟨b, off + m * 7 + 1, none⟩ = some (.int .i64 x.ow) ∧ W.cell? ⟨b, off + m * 7 + 2, none⟩ = some (.int .i64 x.t.1) ∧ W.cell? ⟨b, off + m * 7 + 3, none⟩ = some (.int .i64 x.t.2.1) ∧ W.cell? ⟨b, off + m * 7 + 4, none⟩ = some (.int .i64 x.t.2.2.1) ∧ W.cell? ⟨b, off + m * 7 + 5, none⟩ = some (.bool x.t.2.2.2) ∧ W.cell? ⟨b, off + m * 7 + 6, none⟩ = some (.bool x.st)) ∧ (W.cell? ⟨b, off + k * 7, none⟩ = some (.string y.nm) ∧ W.cell? ⟨b, off + k * 7 + 1, none⟩ = some (.int .i64 y.ow) ∧ W.cell? ⟨b, off + k * 7 + 2, none⟩ = some (.int .i64 y.t.1) ∧ W.cell? ⟨b, off + k * 7 + 3, none⟩ = some (.int .i64 y.t.2.1) ∧ W.cell? ⟨b, off + k * 7 + 4, none⟩ = some (.int .i64 y.t.2.2.1) ∧ W.cell? ⟨b, off + k * 7 + 5, none⟩ = some (.bool y.t.2.2.2) ∧ W.cell? ⟨b, off + k * 7 + 6, none⟩ = some (.bool y.st))) := fun W hW => by
    subst hx hy
    exact ⟨((HC.out m h1).below (bstep hB hW) hb).cells_F, ((HC.out k h2).below (bstep hB hW) hb).cells_F⟩
   rw [← hx, ← hy] at HZ2 HZ3
   have HCm : Hid (∀ W, Calls Tryz.prog 102 #[.agg #[.string x.nm, .int .i64 x.ow, .int .i64 x.t.1, .int .i64 x.t.2.1, .int .i64 x.t.2.2.1, .bool x.t.2.2.2, .bool x.st], .agg #[.string y.nm, .int .i64 y.ow, .int .i64 y.t.1, .int .i64 y.t.2.1, .int .i64 y.t.2.2.1, .bool y.t.2.2.2, .bool y.st]] W fun e w' => e = .returned (.int .i64 (cmpI x.ow y.ow)) ∧ Below W.heap.size W w') := fun W => byFieldOwner_any x y W
   rw [e1]
   clear e1 hk hm hx hy hq2 hq HZ HL HC hB
   go_wp2_with fail
   go_region_held3 (fun W => (W.cell? ⟨b, off + m * 7, none⟩ = some (.string x.nm) ∧ W.cell? ⟨b, off + m * 7 + 1, none⟩ = some (.int .i64 x.ow) ∧ W.cell? ⟨b, off + m * 7 + 2, none⟩ = some (.int .i64 x.t.1) ∧ W.cell? ⟨b, off + m * 7 + 3, none⟩ = some (.int .i64 x.t.2.1) ∧ W.cell? ⟨b, off + m * 7 + 4, none⟩ = some (.int .i64 x.t.2.2.1) ∧ W.cell? ⟨b, off + m * 7 + 5, none⟩ = some (.bool x.t.2.2.2) ∧ W.cell? ⟨b, off + m * 7 + 6, none⟩ = some (.bool x.st)) ∧ (W.cell? ⟨b, off + k * 7, none⟩ = some (.string y.nm) ∧ W.cell? ⟨b, off + k * 7 + 1, none⟩ = some (.int .i64 y.ow) ∧ W.cell? ⟨b, off + k * 7 + 2, none⟩ = some (.int .i64 y.t.1) ∧ W.cell? ⟨b, off + k * 7 + 3, none⟩ = some (.int .i64 y.t.2.1) ∧ W.cell? ⟨b, off + k * 7 + 4, none⟩ = some (.int .i64 y.t.2.2.1) ∧ W.cell? ⟨b, off + k * 7 + 5, none⟩ = some (.bool y.t.2.2.2) ∧ W.cell? ⟨b, off + k * 7 + 6, none⟩ = some (.bool y.st)))
    (first | (exact HK.out _ (bdrew _)) | (exact HK.out _ (bstep (bdrew _) hb1)))
    (first | (go_at_call 102; refine (HCm.out _).mono ?_; rintro e w1 ⟨rfl, hb1⟩))
   rename_i hheld
   clear hheld
   have HB1 : Hid (Below w.heap.size w w1) := bstep HBL.out (bstep (bdrew _) hb1)
   clear hb1
   by_cases hlt : x.ow < y.ow
   ·have hcm : cmpI x.ow y.ow = -1 := by unfold cmpI; rw [if_pos hlt]
    rw [hcm]
    go_wp2_with fail
    go_ret
    exact ⟨ret_bool (HZ2.out hlt).symm, HB1.out⟩
   ·have hcm : ¬ cmpI x.ow y.ow < 0 := by unfold cmpI; rw [if_neg hlt]; split <;> omega
    go_wp2_with fail
    go_roundw
    case rel => exact ⟨m, by omega, by have := HM.out; congr 1; omega, HB1.out, HZ3.out (by omega)⟩
    case measure => have := HM.out; simp [intOf]; omega
  ·have h0 : ¬ (0 : Int) < (q : Int) - 1 := by omega
   have HR : Hid (risB (l.map (·.ow)) = true) := (ris_iff _).2 fun j hj => HZ.out j hj (by omega)
   clear HZ HC
   go_wp2_with fail
   go_ret
   exact ⟨ret_bool HR.out.symm, hB⟩

theorem sortedF_any {v : Value} {l : List FD} {w : World} (h : Es fdE w v l) :
  Calls Tryz.prog 101 #[v, .func (.func 102) #[] #[]] w fun e w' => e = .returned (.bool (risB (l.map (·.ow)))) ∧ Below w.heap.size w w' := by
 by_cases hne : l = []
 ·subst hne
  obtain ⟨a, c, rfl, _, _⟩ := h.shape
  go_enter Tryz.func101, Tryz.ntmps101
  go_wp2
  refine wp_loop_rounds 1 ?_; rw [rounds_succ]
  go_wp2
  go_ret
  exact ⟨rfl, Below.refl _ _⟩
 ·have hl := h.len
  obtain ⟨b, off, cap, rfl, h1, h2, hb, hc⟩ := h.parts hne
  exact sortedF_some hb hc hl

set_option maxHeartbeats 4000000 in
theorem sortedM_some {b off cap : Nat} {l : List MD} {w : World} (hb : b < w.heap.size) (hc : ∀ i (hi : i < l.length), El mdE w b (off + i * 12) l[i]) (hl : l.length ≤ maxLen) :
  Calls Tryz.prog 105 #[.slice (some ⟨b, off, none⟩) l.length cap, .func (.func 106) #[] #[]] w fun e w' => e = .returned (.bool (risB (l.map (·.ow)))) ∧ Below w.heap.size w w' := by
 unfold maxLen at hl
 have HC : Hid (∀ i (hi : i < l.length), El mdE w b (off + i * 12) l[i]) := hc
 clear hc
 go_enter Tryz.func105, Tryz.ntmps105
 go_wp2_with fail
 go_loopw [5] (fun z wr => ∃ q : Nat, q ≤ l.length ∧ z = .int .i64 ((q : Int) - 1) ∧ Below w.heap.size w wr ∧ Hid (∀ j (hj : j + 1 < (l.map (·.ow)).length), q ≤ j + 1 → (l.map (·.ow))[j]'(by omega) ≤ (l.map (·.ow))[j + 1])) (fun z _ => (intOf z + 1).toNat)
 case atStart => exact ⟨l.length, Nat.le_refl _, rfl, Below.refl _ _, fun j hj h => absurd hj (by simp; omega)⟩
 case round =>
  obtain ⟨q, hq, rfl, hB, HZ⟩ := hrel
  have HBL : Hid (Below w.heap.size w wr) := hB
  by_cases hq2 : 2 ≤ q
  ·obtain ⟨k, m, hk, hm⟩ : ∃ k m, q = m + 1 ∧ m = k + 1 := ⟨q - 2, q - 1, by omega, by omega⟩
   have e1 : ((q : Int) - 1) = (m : Int) := by omega
   have e2 : IntKind.i64.wrap ((m : Int) - 1) = (k : Int) := by rw [IntKind.wrap_i64]; omega
   have h1 : m < l.length := by omega
   have h2 : k < l.length := by omega
   have h0 : (0 : Int) < (m : Int) := by omega
   have HL : Hid (k + 1 < (l.map (·.ow)).length) := by show _ < _; simp; omega
   have HZ2 : Hid (l[m].ow < l[k].ow → risB (l.map (·.ow)) = false) := fun h => ris_no (k := k) HL.out (by subst hm; simpa using h)
   have HM : Hid (m = k + 1) := hm
   have HZ3 : Hid (l[k].ow ≤ l[m].ow → ∀ j (hj : j + 1 < (l.map (·.ow)).length), m ≤ j + 1 → (l.map (·.ow))[j]'(by omega) ≤ (l.map (·.ow))[j + 1]) := fun h j hj hjm => ris_step HL.out (by subst hm; simp; omega) (fun j' hj' h' => HZ.out j' hj' (by omega)) j hj (by omega)
   obtain ⟨x, hx⟩ : ∃ x, x = l[m] := ⟨_, rfl⟩
   obtain ⟨y, hy⟩ : ∃ y, y = l[k] := ⟨_, rfl⟩
   have HK : Hid (∀ W, Below wr.heap.size wr W → (W.cell? ⟨b, off + m * 12, none⟩ = some (.string x.nm) ∧ W.cell? ⟨b, off + m * 12 + 1, none⟩ = some (.int .i64 x.ow) ∧ W.cell? ⟨b, off + m * 12 + 2, none⟩ = some (.int .i64 x.fl) ∧ W.cell? ⟨b, off + m * 12 + 3, none⟩ = some (.slice x.pa x.ps.length x.pc) ∧ W.cell? ⟨b, off + m * 12 + 4, none⟩ = some (.int .i64 x.rt.1) ∧ W.cell? ⟨b, off + m * 12 + 5, none⟩ = some (.int .i64 x.rt.2.1) ∧ W.cell? ⟨b, off + m * 12 + 6, none⟩ = some (.int .i64 x.rt.2.2.1) ∧ W.cell? ⟨b, off + m * 12 + 7, none⟩ = some (.bool x.rt.2.2.2) ∧ W.cell? ⟨b, off + m * 12 + 8, none⟩ = some (.slice x.la x.ls.length x.lc) ∧ W.cell? ⟨b, off + m * 12 + 9, none⟩ = some (.int .i64 x.mx) ∧ W.cell? ⟨b, off + m * 12 + 10, none⟩ = some (.slice x.ca x.co.length x.cc) ∧ W.cell? ⟨b, off + m * 12 + 11, none⟩ = some (.slice x.ka x.cl.length x.kc)) ∧ (W.cell? ⟨b, off + k * 12, none⟩ = some (.string y.nm) ∧ W.cell? ⟨b, off + k * 12 + 1, none⟩ = some (.int .i64 y.ow) ∧ W.cell? ⟨b, off + k * 12 + 2, none⟩ = some (.int .i64 y.fl) ∧ W.cell? ⟨b, off + k * 12 + 3, none⟩ = some (.slice y.pa y.ps.length y.pc) ∧ W.cell? ⟨b, off + k * 12 + 4, none⟩ = some (.int .i64 y.rt.1) ∧ W.cell? ⟨b, off + k * 12 + 5, none⟩ = some (.int .i64 y.rt.2.1) ∧ W.cell? ⟨b, off + k * 12 + 6, none⟩ = some (.int .i64 y.rt.2.2.1) ∧ W.cell? ⟨b, off + k * 12 + 7, none⟩ = some (.bool y.rt.2.2.2) ∧ W.cell? ⟨b, off + k * 12 + 8, none⟩ = some (.slice y.la y.ls.length y.lc) ∧ W.cell? ⟨b, off + k * 12 + 9, none⟩ = some (.int .i64 y.mx) ∧ W.cell? ⟨b, off + k * 12 + 10, none⟩ = some (.slice y.ca y.co.length y.cc) ∧ W.cell? ⟨b, off + k * 12 + 11, none⟩ = some (.slice y.ka y.cl.length y.kc))) := fun W hW => by
    subst hx hy
    exact ⟨((HC.out m h1).below (bstep hB hW) hb).cells_M, ((HC.out k h2).below (bstep hB hW) hb).cells_M⟩
   rw [← hx, ← hy] at HZ2 HZ3
   have HCm : Hid (∀ W, Calls Tryz.prog 106 #[.agg #[.string x.nm, .int .i64 x.ow, .int .i64 x.fl, .slice x.pa x.ps.length x.pc, .int .i64 x.rt.1, .int .i64 x.rt.2.1, .int .i64 x.rt.2.2.1, .bool x.rt.2.2.2, .slice x.la x.ls.length x.lc, .int .i64 x.mx, .slice x.ca x.co.length x.cc, .slice x.ka x.cl.length x.kc], .agg #[.string y.nm, .int .i64 y.ow, .int .i64 y.fl, .slice y.pa y.ps.length y.pc, .int .i64 y.rt.1, .int .i64 y.rt.2.1, .int .i64 y.rt.2.2.1, .bool y.rt.2.2.2, .slice y.la y.ls.length y.lc, .int .i64 y.mx, .slice y.ca y.co.length y.cc, .slice y.ka y.cl.length y.kc]] W fun e w' => e = .returned (.int .i64 (cmpI x.ow y.ow)) ∧ Below W.heap.size W w') := fun W => byMethodOwner_any x y W
   rw [e1]
   clear e1 hk hm hx hy hq2 hq HZ HL HC hB
   go_wp2_with fail
   go_region_held3 (fun W => (W.cell? ⟨b, off + m * 12, none⟩ = some (.string x.nm) ∧ W.cell? ⟨b, off + m * 12 + 1, none⟩ = some (.int .i64 x.ow) ∧ W.cell? ⟨b, off + m * 12 + 2, none⟩ = some (.int .i64 x.fl) ∧ W.cell? ⟨b, off + m * 12 + 3, none⟩ = some (.slice x.pa x.ps.length x.pc) ∧ W.cell? ⟨b, off + m * 12 + 4, none⟩ = some (.int .i64 x.rt.1) ∧ W.cell? ⟨b, off + m * 12 + 5, none⟩ = some (.int .i64 x.rt.2.1) ∧ W.cell? ⟨b, off + m * 12 + 6, none⟩ = some (.int .i64 x.rt.2.2.1) ∧ W.cell? ⟨b, off + m * 12 + 7, none⟩ = some (.bool x.rt.2.2.2) ∧ W.cell? ⟨b, off + m * 12 + 8, none⟩ = some (.slice x.la x.ls.length x.lc) ∧ W.cell? ⟨b, off + m * 12 + 9, none⟩ = some (.int .i64 x.mx) ∧ W.cell? ⟨b, off + m * 12 + 10, none⟩ = some (.slice x.ca x.co.length x.cc) ∧ W.cell? ⟨b, off + m * 12 + 11, none⟩ = some (.slice x.ka x.cl.length x.kc)) ∧ (W.cell? ⟨b, off + k * 12, none⟩ = some (.string y.nm) ∧ W.cell? ⟨b, off + k * 12 + 1, none⟩ = some (.int .i64 y.ow) ∧ W.cell? ⟨b, off + k * 12 + 2, none⟩ = some (.int .i64 y.fl) ∧ W.cell? ⟨b, off + k * 12 + 3, none⟩ = some (.slice y.pa y.ps.length y.pc) ∧ W.cell? ⟨b, off + k * 12 + 4, none⟩ = some (.int .i64 y.rt.1) ∧ W.cell? ⟨b, off + k * 12 + 5, none⟩ = some (.int .i64 y.rt.2.1) ∧ W.cell? ⟨b, off + k * 12 + 6, none⟩ = some (.int .i64 y.rt.2.2.1) ∧ W.cell? ⟨b, off + k * 12 + 7, none⟩ = some (.bool y.rt.2.2.2) ∧ W.cell? ⟨b, off + k * 12 + 8, none⟩ = some (.slice y.la y.ls.length y.lc) ∧ W.cell? ⟨b, off + k * 12 + 9, none⟩ = some (.int .i64 y.mx) ∧ W.cell? ⟨b, off + k * 12 + 10, none⟩ = some (.slice y.ca y.co.length y.cc) ∧ W.cell? ⟨b, off + k * 12 + 11, none⟩ = some (.slice y.ka y.cl.length y.kc)))
    (first | (exact HK.out _ (bdrew _)) | (exact HK.out _ (bstep (bdrew _) hb1)))
    (first | (go_at_call 106; refine (HCm.out _).mono ?_; rintro e w1 ⟨rfl, hb1⟩))
   rename_i hheld
   clear hheld
   have HB1 : Hid (Below w.heap.size w w1) := bstep HBL.out (bstep (bdrew _) hb1)
   clear hb1
   by_cases hlt : x.ow < y.ow
   ·have hcm : cmpI x.ow y.ow = -1 := by unfold cmpI; rw [if_pos hlt]
    rw [hcm]
    go_wp2_with fail
    go_ret
    exact ⟨ret_bool (HZ2.out hlt).symm, HB1.out⟩
   ·have hcm : ¬ cmpI x.ow y.ow < 0 := by unfold cmpI; rw [if_neg hlt]; split <;> omega
    go_wp2_with fail
    go_roundw
    case rel => exact ⟨m, by omega, by have := HM.out; congr 1; omega, HB1.out, HZ3.out (by omega)⟩
    case measure => have := HM.out; simp [intOf]; omega
  ·have h0 : ¬ (0 : Int) < (q : Int) - 1 := by omega
   have HR : Hid (risB (l.map (·.ow)) = true) := (ris_iff _).2 fun j hj => HZ.out j hj (by omega)
   clear HZ HC
   go_wp2_with fail
   go_ret
   exact ⟨ret_bool HR.out.symm, hB⟩

theorem sortedM_any {v : Value} {l : List MD} {w : World} (h : Es mdE w v l) :
  Calls Tryz.prog 105 #[v, .func (.func 106) #[] #[]] w fun e w' => e = .returned (.bool (risB (l.map (·.ow)))) ∧ Below w.heap.size w w' := by
 by_cases hne : l = []
 ·subst hne
  obtain ⟨a, c, rfl, _, _⟩ := h.shape
  go_enter Tryz.func105, Tryz.ntmps105
  go_wp2
  refine wp_loop_rounds 1 ?_; rw [rounds_succ]
  go_wp2
  go_ret
  exact ⟨rfl, Below.refl _ _⟩
 ·have hl := h.len
  obtain ⟨b, off, cap, rfl, h1, h2, hb, hc⟩ := h.parts hne
  exact sortedM_some hb hc hl
end Go.Proofs.YthpmpdpfnlecmaaGreat
