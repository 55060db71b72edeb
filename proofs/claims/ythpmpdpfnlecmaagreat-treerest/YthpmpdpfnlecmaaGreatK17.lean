/- Texts joined: CheckF9, Know10. -/
import Derived.Test.YthpmpdpfnlecmaaGreatK16
import Derived.Test.YthpmpdpfnlecmaaGreatK15
namespace Go.Proofs.YthpmpdpfnlecmaaGreat
set_option linter.unusedVariables false
set_option linter.unusedSimpArgs false
open Go.RowKit
attribute [local go_sem ↓] Go.wp_at_zero Go.wp_at_succ
theorem Tryz.sizeClause : (Tryz.prog.info? 101).map (·.size) = some 10 := by kernel_rfl
theorem FirstR.hit {f : Nat → Int} {m q : Nat} (hq : q < m) (h : ∀ k, k < q → f k = 0) (e : Int) (he : f q = e) (hne : e ≠ 0) : FirstR f m (q : Int) e := .inr ⟨q, hq, rfl, he.symm, by rw [he]; exact hne, h⟩
theorem FirstR.done {f : Nat → Int} {m : Nat} (h : ∀ k, k < m → f k = 0) : FirstR f m 0 0 := .inl ⟨rfl, rfl, h⟩
theorem zero_step {f : Nat → Int} {q : Nat} (h : ∀ k, k < q → f k = 0) (hq : f q = 0) : ∀ k, k < q + 1 → f k = 0 := fun k hk => by
 rcases Nat.lt_or_ge k q with g | g
 ·exact h k g
 ·obtain rfl : k = q := by omega
  exact hq

theorem check_none (n : Int) (a : Option Addr) (cap : Nat) (w : World) :
  Calls Tryz.prog 199 #[.int .i64 n, .slice a 0 cap] w fun e w' => e = .returned (.tuple #[.int .i64 0, .int .i64 0]) ∧ w' = w := by
 go_enter Tryz.func199, Tryz.ntmps199
 go_wp2
 refine wp_loop_rounds 1 ?_; rw [rounds_succ]
 go_wp2
 go_ret2
 exact ⟨rfl, rfl⟩

theorem check_full (n : Int) (a : Option Addr) (m cap : Nat) (hm : 6 < m) (w : World) :
  Calls Tryz.prog 199 #[.int .i64 n, .slice a m cap] w fun e w' => e = .returned (.tuple #[.int .i64 0, .int .i64 4]) ∧ w' = w := by
 have h : (6 : Int) < (m : Int) := by omega
 go_enter Tryz.func199, Tryz.ntmps199
 go_wp2
 go_ret2
 exact ⟨rfl, rfl⟩

set_option maxHeartbeats 4000000 in
theorem check_some {b off cap : Nat} {n : Int} {l : List Cl} {w : World} (hE : Es clE9 w (.slice (some ⟨b, off, none⟩) l.length cap) l) (hb : b < w.heap.size) (hc : ∀ i (hi : i < l.length), El clE9 w b (off + i * 10) l[i]) (hl : l.length ≤ 6) (hcap : l.length ≤ cap) (hm : cap ≤ maxLen) :
  Calls Tryz.prog 199 #[.int .i64 n, .slice (some ⟨b, off, none⟩) l.length cap] w fun e w' => ∃ i x, e = .returned (.tuple #[.int .i64 i, .int .i64 x]) ∧ FirstR (clAt n l) l.length i x ∧ Below w.heap.size w w' := by
 unfold maxLen at hm
 have HC : Hid (∀ i (hi : i < l.length), El clE9 w b (off + i * 10) l[i]) := hc
 have HE : Hid (Es clE9 w (.slice (some ⟨b, off, none⟩) l.length cap) l) := hE
 clear hc hE
 go_enter Tryz.func199, Tryz.ntmps199
 go_wp2_with fail
 go_loopw [15] (fun z wr => ∃ q : Nat, q ≤ l.length ∧ z = .int .i64 q ∧ Below w.heap.size w wr ∧ Hid (∀ k, k < q → clAt n l k = 0)) (fun z _ => l.length - (intOf z).toNat)
 case atStart => exact ⟨0, Nat.zero_le _, rfl, Below.refl _ _, fun k hk => absurd hk (Nat.not_lt_zero _)⟩
 case round =>
  obtain ⟨q, hq, rfl, hB, HZ⟩ := hrel
  have HBL : Hid (Below w.heap.size w wr) := hB
  by_cases hql : q < l.length
  ·obtain ⟨c0, c1, c2, c3, c4, c5, c6, c7, c8, c9⟩ := ((HC.out q hql).below hB hb).ten
   have HQ : Hid (clAt n l q = clE n (l.take q) l[q]) := clAt_eq n l q hql
   obtain ⟨hsl, hEs⟩ := slice_toE (P := Tryz.prog) (HE.out.later hB) q (by omega) 53 101 Tryz.underlying53 Tryz.sizeClause
   have HEs : Hid (Es clE9 wr (.slice (some ⟨b, off, none⟩) q cap) (l.take q)) := hEs
   generalize l[q] = c at *
   obtain ⟨wA, hwA⟩ : ∃ W, W = wr.alloc (.cells #[.int .i64 c.k, .int .i64 c.tf, .int .i64 c.tt, .int .i64 c.hf, .int .i64 c.ht, .int .i64 c.fi, .int .i64 c.t0, .int .i64 c.t1, .int .i64 c.t2, .bool c.t3] 101) := ⟨_, rfl⟩
   have HWA : Hid (wA = _) := hwA
   have hbA : Below wr.heap.size wr wA := by rw [hwA]; exact made_below _ _ _
   have HBA : Hid (Below wr.heap.size wr wA) := hbA
   have hAA : At wA wr.heap.size (clC c).toArray 101 := by rw [hwA]; exact At.made wr (clC c).toArray _
   have HAA : Hid (At wA wr.heap.size (clC c).toArray 101) := hAA
   obtain ⟨a0, a1, a2, a3, a4, a5, a6, a7, a8, a9⟩ := hAA.ten
   have HSp : Hid (Calls Tryz.prog 228 #[.agg #[.int .i64 c.k, .int .i64 c.tf, .int .i64 c.tt, .int .i64 c.hf, .int .i64 c.ht, .int .i64 c.fi, .int .i64 c.t0, .int .i64 c.t1, .int .i64 c.t2, .bool c.t3]] wA fun e w' => ∃ v, e = .returned v ∧ OwnE spE w' wA.heap.size 202 v (spansL c) ∧ Below wA.heap.size wA w') := spansOf_any c wA
   clear hB hEs hwA hbA hAA
   go_wp2_with (rw [← HWA.out])
   refine Calls.mono HSp.out ?_
   rintro e w1 ⟨v1, rfl, ho1, hb1⟩
   obtain ⟨a', cv, hv1, _, _⟩ := ho1.shape
   subst hv1
   obtain ⟨w2, hw2⟩ : ∃ W, W = w1.alloc (.cells #[.slice a' (spansL c).length cv] 187) := ⟨_, rfl⟩
   have HW2 : Hid (w2 = _) := hw2
   have hb2 : Below w1.heap.size w1 w2 := by rw [hw2]; exact made_below _ _ _
   have hA2 : At w2 w1.heap.size #[.slice a' (spansL c).length cv] 187 := by rw [hw2]; exact At.made w1 _ _
   have HB2 : Hid (Below wr.heap.size wr w2) := bstep (bstep HBA.out hb1) hb2
   have HT2 : Hid (∀ W, Below w2.heap.size w2 W → Ten W wr.heap.size 0 c ∧ W.cell? ⟨w1.heap.size, 0, none⟩ = some (.slice a' (spansL c).length cv)) := fun W hW => ⟨(HAA.out.later (bstep (bstep hb1 hb2) hW)).ten, (hA2.later hW).cell0⟩
   have HV2 : Hid (Es spE w2 (.slice a' (spansL c).length cv) (spansL c)) := (ho1.es).later hb2
   have HA2 : Hid (At w2 w1.heap.size #[.slice a' (spansL c).length cv] 187) := hA2
   have HRg : Hid (Calls Tryz.prog 231 #[.int .i64 n, .agg #[.int .i64 c.k, .int .i64 c.tf, .int .i64 c.tt, .int .i64 c.hf, .int .i64 c.ht, .int .i64 c.fi, .int .i64 c.t0, .int .i64 c.t1, .int .i64 c.t2, .bool c.t3]] w2 fun e w' => e = .returned (.bool (rngB n c)) ∧ Below w2.heap.size w2 w') := isInRange_any n c w2
   obtain ⟨⟨t0, t1, t2, t3, t4, t5, t6, t7, t8, t9⟩, t10⟩ := HT2.out w2 (Below.refl _ _)
   clear hw2 hb2 hA2 ho1 hb1 a0 a1 a2 a3 a4 a5 a6 a7 a8 a9 HSp
   go_wp2_with (rw [← HW2.out])
   refine Calls.mono HRg.out ?_
   rintro e w3 ⟨rfl, hb3⟩
   have HB3 : Hid (Below w2.heap.size w2 w3) := hb3
   obtain ⟨_, u10⟩ := HT2.out w3 hb3
   clear hb3 t0 t1 t2 t3 t4 t5 t6 t7 t8 t9 t10 HRg
   cases hr : rngB n c with
   | false =>
    have HX : Hid (clAt n l q = 3) := by show _ = _; rw [HQ.out]; unfold clE; rw [if_neg (by rw [hr]; decide)]
    go_wp2_with fail
    go_ret2
    exact ⟨_, _, rfl, FirstR.hit hql HZ.out 3 HX.out (by decide), bstep (bstep HBL.out HB2.out) HB3.out⟩
   | true =>
    have HOv : Hid (Calls Tryz.prog 232 #[.slice a' (spansL c).length cv] w3 fun e w' => e = .returned (.bool (ovlB (spansL c))) ∧ Below w3.heap.size w3 w') := overlaps_any (HV2.out.later HB3.out)
    go_wp2_with fail
    refine Calls.mono HOv.out ?_
    rintro e w4 ⟨rfl, hb4⟩
    have HB4 : Hid (Below w2.heap.size w2 w4) := bstep HB3.out hb4
    clear hb4 u10 HOv
    cases ho : ovlB (spansL c) with
    | true =>
     have HX : Hid (clAt n l q = 12) := by show _ = _; rw [HQ.out]; unfold clE; rw [if_pos hr, if_pos ho]
     go_wp2_with fail
     go_ret2
     exact ⟨_, _, rfl, FirstR.hit hql HZ.out 12 HX.out (by decide), bstep (bstep HBL.out HB2.out) HB4.out⟩
    | false =>
     have HCo : Hid (Calls Tryz.prog 233 #[.slice (some ⟨b, off, none⟩) q cap, .func (.func 229) #[] #[.pointer (some ⟨w1.heap.size, 0, none⟩)]] w4 fun e w' => e = .returned (.bool ((l.take q).any fun x => !fitB9 (spansL x) (spansL c))) ∧ Below w4.heap.size w4 w') := by
      refine containsC_any (HEs.out.later (bstep HB2.out HB4.out)) ⟨run_enter9 Tryz.func229 (by kernel_rfl) rfl, fun W hW x hx => ?_⟩
      have hA1 := HA2.out.later (bstep HB4.out hW)
      have := check1_any (c := x) (w := W) hA1.cell0 hA1.lt (HV2.out.later (bstep HB4.out hW)) (spans_ne c)
      simpa using this
     go_wp2_with fail
     refine Calls.mono HCo.out ?_
     rintro e w5 ⟨rfl, hb5⟩
     have HB5 : Hid (Below w.heap.size w w5) := bstep (bstep (bstep HBL.out HB2.out) HB4.out) hb5
     clear hb5 HCo
     cases hy : ((l.take q).any fun x => !fitB9 (spansL x) (spansL c)) with
     | true =>
      have HX : Hid (clAt n l q = 12) := by show _ = _; rw [HQ.out]; unfold clE; rw [if_pos hr, if_neg (by rw [ho]; decide), if_pos hy]
      go_wp2_with fail
      go_ret2
      exact ⟨_, _, rfl, FirstR.hit hql HZ.out 12 HX.out (by decide), HB5.out⟩
     | false =>
      have HX : Hid (clAt n l q = 0) := by show _ = _; rw [HQ.out]; unfold clE; rw [if_pos hr, if_neg (by rw [ho]; decide), if_neg (by rw [hy]; decide)]
      go_wp2_with fail
      go_roundw
      case rel => exact ⟨q + 1, by omega, by go_num, HB5.out, zero_step HZ.out HX.out⟩
      case measure => simp [intOf]; omega
  ·have HF' : Hid (∀ k, k < l.length → clAt n l k = 0) := fun k hk => HZ.out k (by omega)
   go_wp2
   go_ret2
   exact ⟨_, _, rfl, FirstR.done HF'.out, HBL.out⟩

theorem check_any {v : Value} {l : List Cl} {w : World} (n : Int) (h : Es clE9 w v l) :
  Calls Tryz.prog 199 #[.int .i64 n, v] w fun e w' => ∃ i x, e = .returned (.tuple #[.int .i64 i, .int .i64 x]) ∧ CheckR n l i x ∧ Below w.heap.size w w' := by
 by_cases hne : l = []
 ·subst hne
  obtain ⟨a, c, rfl, _, _⟩ := h.shape
  refine (check_none n a c w).mono ?_
  rintro e w' ⟨rfl, rfl⟩
  exact ⟨_, _, rfl, by unfold CheckR; rw [if_neg (by simp)]; exact FirstR.done (fun k hk => absurd hk (Nat.not_lt_zero _)), Below.refl _ _⟩
 ·by_cases h6 : 6 < l.length
  ·obtain ⟨a, c, rfl, _, _⟩ := h.shape
   refine (check_full n a l.length c h6 w).mono ?_
   rintro e w' ⟨rfl, rfl⟩
   exact ⟨_, _, rfl, by unfold CheckR; rw [if_pos h6]; exact ⟨rfl, rfl⟩, Below.refl _ _⟩
  ·obtain ⟨b, off, cap, rfl, h1, h2, hb, hc⟩ := h.parts hne
   refine (check_some (n := n) h hb hc (by omega) h1 h2).mono ?_
   rintro e w' ⟨i, x, rfl, hf, hB⟩
   exact ⟨i, x, rfl, by unfold CheckR; rw [if_neg h6]; exact hf, hB⟩
def szV (a b c : Nat) : Value := .agg #[.int .i64 a, .int .i64 b, .int .i64 c]
def szC (a b c : Nat) : Array Value := #[.int .i64 a, .int .i64 b, .int .i64 c]
def insA (x : Ins) : Array Value := #[.int .i64 x.1, .int .i64 x.2.1, .int .i64 x.2.2.1, .int .i64 x.2.2.2.1, .int .i64 x.2.2.2.2.1, .bool x.2.2.2.2.2]
def tyA (x : Ty) : Array Value := #[.int .i64 x.1, .int .i64 x.2.1, .int .i64 x.2.2.1, .bool x.2.2.2]

/-- Two boxes, and what comes behind them. -/
theorem two_boxes {w w0 : World} {A B : Array Value} {s t : TypeId} (h : w0 = (w.alloc (.cells A s)).alloc (.cells B t)) :
  Below w.heap.size w w0 ∧ ∀ W, Below w0.heap.size w0 W → At W w.heap.size A s ∧ At W (w.heap.size + 1) B t := by
 subst h
 refine ⟨bbox (made_below _ _ _) _, fun W hW => ⟨((At.made w A s).next _).later hW, ?_⟩⟩
 have := (At.made (w.alloc (.cells A s)) B t).later hW
 simpa using this

theorem isNumber_any (i n : Int) (w : World) :
  Calls Tryz.prog 107 #[.int .i64 i, .int .i64 n] w fun e w' => e = .returned (.bool (decide (0 ≤ i) && decide (i < n))) ∧ w' = w := by
 go_enter Tryz.func107, Tryz.ntmps107
 go_wp2
 all_goals go_ret
 all_goals refine ⟨ret_bool ?_, rfl⟩
 all_goals (rw [Bool.eq_iff_iff]; simp; try omega)
theorem isWithin_any (i n : Int) (w : World) :
  Calls Tryz.prog 145 #[.int .i64 i, .int .i64 n] w fun e w' => e = .returned (.bool (witB i n)) ∧ w' = w := by
 go_enter Tryz.func145, Tryz.ntmps145
 go_wp2
 all_goals go_ret
 all_goals refine ⟨ret_bool ?_, rfl⟩
 all_goals (unfold witB; rw [Bool.eq_iff_iff]; simp; try omega)

set_option maxHeartbeats 1000000 in
theorem knows_any (a b c : Nat) (t : Ty) (w : World) :
  Calls Tryz.prog 189 #[szV a b c, tv t] w fun e w' => e = .returned (.bool (ownB a t)) ∧ Below w.heap.size w w' := by
 obtain ⟨k, i, d, r⟩ := t
 have HB : Hid (Below w.heap.size w ((w.alloc (.cells (szC a b c) 109)).alloc (.cells #[.int .i64 k, .int .i64 i, .int .i64 d, .bool r] 51))) := bbox (made_below _ _ _) _
 unfold szV tv
 by_cases h5 : k = 5
 ·subst h5
  go_enter Tryz.func189, Tryz.ntmps189
  go_wp2_with (go_at_call 107; refine (isNumber_any _ _ _).mono ?_; rintro e wz ⟨rfl, hz⟩; subst wz)
  go_ret
  exact ⟨ret_bool (by simp [ownB, numB]), HB.out⟩
 ·by_cases h6 : k = 6
  ·subst h6
   go_enter Tryz.func189, Tryz.ntmps189
   go_wp2_with (go_at_call 107; refine (isNumber_any _ _ _).mono ?_; rintro e wz ⟨rfl, hz⟩; subst wz)
   go_ret
   exact ⟨ret_bool (by simp [ownB, numB]), HB.out⟩
  ·have HO : Hid (ownB a (k, i, d, r) = true) := by show _ = _; unfold ownB; rw [if_neg (by simp; omega)]
   have e5 : (k == 5) = false := by simpa using h5
   have e6 : (k == 6) = false := by simpa using h6
   go_enter Tryz.func189, Tryz.ntmps189
   go_wp2
   go_ret
   exact ⟨ret_bool HO.out.symm, HB.out⟩

set_option maxHeartbeats 1000000 in
/-- The kind of an instruction's operand. -/
theorem operandOf10_any (x : Ins) (w : World) :
  Calls Tryz.prog 227 #[iv x] w fun e w' => e = .returned (.int .i64 (opP x.1)) ∧ Below w.heap.size w w' := by
 obtain ⟨w0, hw0⟩ : ∃ W, W = w.alloc (.cells (insA x) 89) := ⟨_, rfl⟩
 have HW0 : Hid (w0 = _) := hw0
 have hb0 : Below w.heap.size w w0 := by rw [hw0]; exact made_below _ _ _
 have HB0 : Hid (Below w.heap.size w w0) := hb0
 have hA : At w0 w.heap.size (insA x) 89 := by rw [hw0]; exact At.made w _ _
 have HO : Hid (Calls Tryz.prog 133 #[.int .i64 x.1] w0 fun e w' => ∃ s q z, e = .returned (.tuple #[.agg #[.string s, .int .i64 (opP x.1), .int .i64 q], .int .i64 z]) ∧ Below w0.heap.size w0 w') := by
  by_cases hin : 1 ≤ x.1 ∧ x.1 ≤ 75
  ·exact (of_in x.1 hin.1 hin.2 w0).mono fun e w' ⟨he, hb⟩ => ⟨_, _, _, he, hb⟩
  ·refine (of_out x.1 hin w0).mono fun e w' ⟨he, hb⟩ => ⟨⟨#[]⟩, 0, 3, ?_, hb⟩
   rw [he, opP_out hin]
 have hc := hA.cell
 unfold insA at hc
 unfold insA at HW0
 clear hw0 hb0 hA
 unfold iv
 go_enter Tryz.func227, Tryz.ntmps227
 go_wp2_with (rw [← HW0.out])
 refine Calls.mono HO.out ?_
 rintro e w1 ⟨s, q, z, rfl, hb1⟩
 have HB1 : Hid (Below w.heap.size w w1) := bstep HB0.out hb1
 clear hb1 hc HO
 go_wp2
 go_ret
 exact ⟨rfl, bbox HB1.out _⟩

set_option maxHeartbeats 2000000 in
theorem has_any10 (a b c n : Nat) (x : Ins) (w : World) :
  Calls Tryz.prog 198 #[szV a b c, iv x, .int .i64 n] w fun e w' => e = .returned (.bool (hasI a b c n x)) ∧ Below w.heap.size w w' := by
 obtain ⟨w0, hw0⟩ : ∃ W, W = (w.alloc (.cells (szC a b c) 109)).alloc (.cells (insA x) 89) := ⟨_, rfl⟩
 have HW0 : Hid (w0 = _) := hw0
 obtain ⟨hb0, hat⟩ := two_boxes hw0
 have HB0 : Hid (Below w.heap.size w w0) := hb0
 have HAT : Hid (∀ W, Below w0.heap.size w0 W → At W w.heap.size (szC a b c) 109 ∧ At W (w.heap.size + 1) (insA x) 89) := hat
 have HO : Hid (Calls Tryz.prog 227 #[.agg #[.int .i64 x.1, .int .i64 x.2.1, .int .i64 x.2.2.1, .int .i64 x.2.2.2.1, .int .i64 x.2.2.2.2.1, .bool x.2.2.2.2.2]] w0 fun e w' => e = .returned (.int .i64 (opP x.1)) ∧ Below w0.heap.size w0 w') := operandOf10_any x w0
 have hc := (hat w0 (Below.refl _ _)).2.cell
 unfold insA at hc
 unfold insA szC at HW0
 clear hw0 hb0 hat
 have HH : Hid (hasI a b c n x = if opP x.1 = 5 then numB x.2.1 n else if opP x.1 = 6 then numB x.2.1 c else if opP x.1 = 7 then numB x.2.1 b else if opP x.1 = 8 then ownB a x.2.2 else true) := rfl
 unfold szV iv
 go_enter Tryz.func198, Tryz.ntmps198
 go_wp2_with (rw [← HW0.out])
 refine Calls.mono HO.out ?_
 rintro e w1 ⟨rfl, hb1⟩
 obtain ⟨hA1, hA2⟩ := HAT.out w1 hb1
 have HB1 : Hid (Below w.heap.size w w1) := bstep HB0.out hb1
 have c1 := hA1.cell
 have c2 := hA2.cell
 unfold szC at c1
 unfold insA at c2
 clear hb1 hc HO hA1 hA2
 generalize opP x.1 = p at *
 by_cases h5 : p = 5
 ·subst h5
  go_wp2_with (go_at_call 107; refine (isNumber_any _ _ _).mono ?_; rintro e wz ⟨rfl, hz⟩; subst wz)
  go_ret
  exact ⟨ret_bool (by rw [HH.out]; rfl), HB1.out⟩
 ·have e5 : (p == 5) = false := by simpa using h5
  by_cases h6 : p = 6
  ·subst h6
   go_wp2_with (go_at_call 107; refine (isNumber_any _ _ _).mono ?_; rintro e wz ⟨rfl, hz⟩; subst wz)
   go_ret
   exact ⟨ret_bool (by rw [HH.out]; rfl), HB1.out⟩
  ·have e6 : (p == 6) = false := by simpa using h6
   by_cases h7 : p = 7
   ·subst h7
    go_wp2_with (go_at_call 107; refine (isNumber_any _ _ _).mono ?_; rintro e wz ⟨rfl, hz⟩; subst wz)
    go_ret
    exact ⟨ret_bool (by rw [HH.out]; rfl), HB1.out⟩
   ·have e7 : (p == 7) = false := by simpa using h7
    by_cases h8 : p = 8
    ·subst h8
     have HKn : Hid (Calls Tryz.prog 189 #[.agg #[.int .i64 a, .int .i64 b, .int .i64 c], .agg #[.int .i64 x.2.2.1, .int .i64 x.2.2.2.1, .int .i64 x.2.2.2.2.1, .bool x.2.2.2.2.2]] w1 fun e w' => e = .returned (.bool (ownB a x.2.2)) ∧ Below w1.heap.size w1 w') := knows_any a b c x.2.2 w1
     go_wp2_with fail
     refine Calls.mono HKn.out ?_
     rintro e w2 ⟨rfl, hb2⟩
     have HB2 : Hid (Below w.heap.size w w2) := bstep HB1.out hb2
     clear hb2 c1 c2
     go_wp2
     go_ret
     exact ⟨ret_bool (by rw [HH.out]; rfl), HB2.out⟩
    ·have e8 : (p == 8) = false := by simpa using h8
     go_wp2
     go_ret
     exact ⟨ret_bool (by rw [HH.out, if_neg h5, if_neg h6, if_neg h7, if_neg h8]), HB1.out⟩

set_option maxHeartbeats 1000000 in
theorem isFieldType_any (a b c : Nat) (t : Ty) (w : World) :
  Calls Tryz.prog 149 #[szV a b c, tv t] w fun e w' => e = .returned (.bool (fldB a t)) ∧ Below w.heap.size w w' := by
 obtain ⟨w0, hw0⟩ : ∃ W, W = (w.alloc (.cells (szC a b c) 109)).alloc (.cells (tyA t) 51) := ⟨_, rfl⟩
 have HW0 : Hid (w0 = _) := hw0
 obtain ⟨hb0, hat⟩ := two_boxes hw0
 have HB0 : Hid (Below w.heap.size w w0) := hb0
 have HAT : Hid (∀ W, Below w0.heap.size w0 W → At W w.heap.size (szC a b c) 109 ∧ At W (w.heap.size + 1) (tyA t) 51) := hat
 have hc := (hat w0 (Below.refl _ _)).2.cell
 have HF : Hid (fldB a t = (mayB 1 t.1 t.2.1 t.2.2.1 t.2.2.2 && ownB a t)) := rfl
 unfold tyA at hc
 unfold tyA szC at HW0
 clear hw0 hb0 hat
 unfold szV tv
 cases hm : mayB 1 t.1 t.2.1 t.2.2.1 t.2.2.2 with
 | false =>
  have HP := putField_no t.1 t.2.1 t.2.2.1 t.2.2.2 w0 hm
  go_enter Tryz.func149, Tryz.ntmps149
  go_wp2_with (rw [← HW0.out])
  refine Calls.mono HP ?_
  rintro e w1 ⟨rfl, hb1⟩
  have HB1 : Hid (Below w.heap.size w w1) := bstep HB0.out hb1
  clear hb1 hc HP
  go_wp2
  go_ret
  exact ⟨ret_bool (by rw [HF.out, hm]; rfl), HB1.out⟩
 | true =>
  have HP : Hid (Calls Tryz.prog 188 #[.agg #[.int .i64 t.1, .int .i64 t.2.1, .int .i64 t.2.2.1, .bool t.2.2.2]] w0 fun e w' => ∃ v, e = .returned (.tuple #[v, .int .i64 0]) ∧ Below w0.heap.size w0 w') := (putField_yes t.1 t.2.1 t.2.2.1 t.2.2.2 w0 hm).mono fun e w' ⟨v, he, _, hb⟩ => ⟨v, he, hb⟩
  go_enter Tryz.func149, Tryz.ntmps149
  go_wp2_with (rw [← HW0.out])
  refine Calls.mono HP.out ?_
  rintro e w1 ⟨v1, rfl, hb1⟩
  have HB1 : Hid (Below w.heap.size w w1) := bstep HB0.out hb1
  obtain ⟨hA1, hA2⟩ := HAT.out w1 hb1
  have c1 := hA1.cell
  have c2 := hA2.cell
  unfold szC at c1
  unfold tyA at c2
  have HKn : Hid (Calls Tryz.prog 189 #[.agg #[.int .i64 a, .int .i64 b, .int .i64 c], .agg #[.int .i64 t.1, .int .i64 t.2.1, .int .i64 t.2.2.1, .bool t.2.2.2]] w1 fun e w' => e = .returned (.bool (ownB a t)) ∧ Below w1.heap.size w1 w') := knows_any a b c t w1
  clear hb1 hc HP hA1 hA2
  go_wp2_with fail
  refine Calls.mono HKn.out ?_
  rintro e w2 ⟨rfl, hb2⟩
  have HB2 : Hid (Below w.heap.size w w2) := bstep HB1.out hb2
  clear hb2 c1 c2
  go_wp2
  go_ret
  exact ⟨ret_bool (by rw [HF.out, hm]; rfl), HB2.out⟩

set_option maxHeartbeats 1000000 in
theorem catches_any (a b c : Nat) (x : Cl) (w : World) :
  Calls Tryz.prog 201 #[szV a b c, clV x] w fun e w' => e = .returned (.bool (catB a x)) ∧ Below w.heap.size w w' := by
 obtain ⟨k, tf, tt, hf, ht, fi, t0, t1, t2, t3⟩ := x
 obtain ⟨w0, hw0⟩ : ∃ W, W = (w.alloc (.cells (szC a b c) 109)).alloc (.cells (clC ⟨k, tf, tt, hf, ht, fi, t0, t1, t2, t3⟩).toArray 101) := ⟨_, rfl⟩
 have HW0 : Hid (w0 = _) := hw0
 obtain ⟨hb0, hat⟩ := two_boxes hw0
 have HB0 : Hid (Below w.heap.size w w0) := hb0
 obtain ⟨hA1, hA2⟩ := hat w0 (Below.refl _ _)
 have c1 := hA1.cell
 have c2 := hA2.cell
 unfold szC at c1
 unfold clC at c2
 unfold szC clC at HW0
 clear hw0 hb0 hat hA1 hA2
 unfold szV clV
 by_cases h1 : k = 1
 ·subst h1
  have HFt : Hid (Calls Tryz.prog 149 #[.agg #[.int .i64 a, .int .i64 b, .int .i64 c], .agg #[.int .i64 t0, .int .i64 t1, .int .i64 t2, .bool t3]] w0 fun e w' => e = .returned (.bool (fldB a (t0, t1, t2, t3))) ∧ Below w0.heap.size w0 w') := isFieldType_any a b c (t0, t1, t2, t3) w0
  go_enter Tryz.func201, Tryz.ntmps201
  go_wp2_with (rw [← HW0.out])
  refine Calls.mono HFt.out ?_
  rintro e w1 ⟨rfl, hb1⟩
  have HB1 : Hid (Below w.heap.size w w1) := bstep HB0.out hb1
  clear hb1 c1 c2
  go_wp2
  go_ret
  exact ⟨ret_bool rfl, HB1.out⟩
 ·have e1 : (k == 1) = false := by simpa using h1
  have hz : ∀ W : World, (binOp .eql 51 (.agg #[.int .i64 t0, .int .i64 t1, .int .i64 t2, .bool t3]) (.agg #[.int .i64 0, .int .i64 0, .int .i64 0, .bool false])).run Tryz.prog W = .ok (.bool (t0 == 0 && t1 == 0 && t2 == 0 && t3 == false)) W := fun W => eq_ty W _ _ _ _ _ _ _ _
  have HR : Hid (catB a ⟨k, tf, tt, hf, ht, fi, t0, t1, t2, t3⟩ = (t0 == 0 && t1 == 0 && t2 == 0 && !t3)) := by show _ = _; unfold catB; rw [if_neg h1]
  go_enter Tryz.func201, Tryz.ntmps201
  go_wp2_with (rw [← HW0.out])
  go_ret
  exact ⟨ret_bool HR.out.symm, HB0.out⟩
end Go.Proofs.YthpmpdpfnlecmaaGreat
