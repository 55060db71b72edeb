
/- The reader of bodies: clauses. -/
import Derived.Test.YtfgjlljbpcombaaClause8
namespace Go.Proofs.Ytfgjlljbpcombaa
set_option linter.unusedVariables false
set_option linter.unusedSimpArgs false
open Go.RowKit
attribute [local go_sem ↓] Go.wp_at_zero Go.wp_at_succ

theorem rcL_set : ∀ (R : List Rw) (q : Nat) (_ : q < R.length) (a b c d f g : Int), ((((((rcL R).set (q * 6) (.int .i64 a)).set (q * 6 + 1) (.int .i64 b)).set (q * 6 + 2) (.int .i64 c)).set (q * 6 + 3) (.int .i64 d)).set (q * 6 + 4) (.int .i64 f)).set (q * 6 + 5) (.int .i64 g) = rcL (R.set q (a, b, c, d, f, g))
  | r :: t, 0, _, a, b, c, d, f, g => rfl
  | r :: t, q + 1, h, a, b, c, d, f, g => by
    have ih := rcL_set t q (by simpa using h) a b c d f g
    have e0 : (q + 1) * 6 = q * 6 + 1 + 1 + 1 + 1 + 1 + 1 := by omega
    have e1 : (q + 1) * 6 + 1 = (q * 6 + 1) + 1 + 1 + 1 + 1 + 1 + 1 := by omega
    have e2 : (q + 1) * 6 + 2 = (q * 6 + 2) + 1 + 1 + 1 + 1 + 1 + 1 := by omega
    have e3 : (q + 1) * 6 + 3 = (q * 6 + 3) + 1 + 1 + 1 + 1 + 1 + 1 := by omega
    have e4 : (q + 1) * 6 + 4 = (q * 6 + 4) + 1 + 1 + 1 + 1 + 1 + 1 := by omega
    have e5 : (q + 1) * 6 + 5 = (q * 6 + 5) + 1 + 1 + 1 + 1 + 1 + 1 := by omega
    rw [e5, e4, e3, e2, e1, e0]
    simp only [rcL, List.set_cons_succ, ih]
theorem rcL_take : ∀ (R : List Rw) (n : Nat), rcL (R.take n) = (rcL R).take (6 * n)
  | [], n => by simp [rcL]
  | r :: t, 0 => by simp [rcL]
  | r :: t, n + 1 => by
    have e : 6 * (n + 1) = 6 * n + 1 + 1 + 1 + 1 + 1 + 1 := by omega
    rw [List.take_succ_cons, e]
    simp only [rcL, List.take_succ_cons, rcL_take t n]
/-- Six cells of a block of clauses are laid anew. -/
theorem At.setR {w : World} {g q : Nat} {R : List Rw} {t : TypeId} (h : At w g (rcL R).toArray t) (hq : q < R.length) (a b c d f k : Int) :
    At ((((((w.setCell ⟨g, q * 6, none⟩ (.int .i64 a)).setCell ⟨g, q * 6 + 1, none⟩ (.int .i64 b)).setCell ⟨g, q * 6 + 2, none⟩ (.int .i64 c)).setCell ⟨g, q * 6 + 3, none⟩ (.int .i64 d)).setCell ⟨g, q * 6 + 4, none⟩ (.int .i64 f)).setCell ⟨g, q * 6 + 5, none⟩ (.int .i64 k)) g (rcL (R.set q (a, b, c, d, f, k))).toArray t := by
  have := (((((h.set (q * 6) (.int .i64 a)).set (q * 6 + 1) (.int .i64 b)).set (q * 6 + 2) (.int .i64 c)).set (q * 6 + 3) (.int .i64 d)).set (q * 6 + 4) (.int .i64 f)).set (q * 6 + 5) (.int .i64 k)
  simp only [List.setIfInBounds_toArray, rcL_set R q hq] at this
  exact this
theorem below_setR {B g q : Nat} {w w1 : World} (h : Below B w w1) (hg : B ≤ g) (x0 x1 x2 x3 x4 x5 : Value) : Below B w ((((((w1.setCell ⟨g, q * 6, none⟩ x0).setCell ⟨g, q * 6 + 1, none⟩ x1).setCell ⟨g, q * 6 + 2, none⟩ x2).setCell ⟨g, q * 6 + 3, none⟩ x3).setCell ⟨g, q * 6 + 4, none⟩ x4).setCell ⟨g, q * 6 + 5, none⟩ x5) :=
  (((((h.setCell hg _).setCell hg _).setCell hg _).setCell hg _).setCell hg _).setCell hg _
/-- The first clauses of a block of clauses, as a slice. -/
theorem Ws.of_at {w : World} {g n cap : Nat} {R : List Rw} {t : TypeId} (h : At w g (rcL R).toArray t) (hn : n ≤ R.length) (hc : n ≤ cap) (hm : cap ≤ maxLen) : Ws w (.slice (some ⟨g, 0, none⟩) n cap) (R.take n) := by
  have hl : (R.take n).length = n := by simp; omega
  refine ⟨_, cap, by rw [hl], by omega, hm, fun _ => ⟨g, 0, rfl, h.lt, fun j u hj => ?_⟩⟩
  rw [Nat.zero_add, h.cell]
  rw [rcL_take] at hj
  have hjl := (List.getElem?_eq_some_iff.1 hj).1
  rw [List.getElem?_take, if_pos (by simp at hjl; omega)] at hj
  simpa using hj

theorem zeS_stick (bs : List UInt8) (s : St) (h : s.2 ≠ 0) : ∀ k, zeS bs s k = s
  | 0 => rfl
  | k + 1 => by
    have ih := zeS_stick bs s h k
    unfold zeS
    rw [ih]
    simp [waS, nuS, h]

/-- What clauses leaves. -/
structure GotK (w w' : World) (rr rb : Nat) (bs : List UInt8) (s : St) (e : Ending) : Prop where
  val : ∃ v, e = .returned v ∧ Ws w' v (csL bs s) ∧ ∀ k, v.ownBlock = some k → w.heap.size ≤ k
  rx : Rx w' rr rb bs (csS bs s)
  onl : Onl rr rb w w'

set_option maxHeartbeats 400000 in
set_option maxRecDepth 100000 in
theorem clauses_any {w : World} {rr rb : Nat} {bs : List UInt8} {s : St} (h : Rx w rr rb bs s) :
    Calls Try.prog 41 #[.pointer (some ⟨rr, 0, none⟩)] w fun e w' => GotK w w' rr rb bs s e := by
  have tc := h.box.cell
  have hsm := h.rd.small
  have hle := h.rd.le
  have HAt : Hid (Calls Try.prog 27 #[.pointer (some ⟨rb, 0, none⟩)] w fun e w' => e = .returned (.int .i64 (s.1 : Int)) ∧ w' = w) := at_any h.rd
  have HF : Hid (∀ W, Calls Try.prog 34 #[.int .i64 (s.1 : Int)] W fun e w' => e = .returned (.int .i64 (fillN s.1 : Int)) ∧ w' = W) := fun W => fill_any _ (by omega) W
  have HZ : Hid (Calls Try.prog 40 #[.pointer (some ⟨rr, 0, none⟩), .int .i64 (fillN s.1 : Int)] w fun e w' => e = .returned (.tuple #[]) ∧ Rx w' rr rb bs (cs1 bs s) ∧ Onl rr rb w w') := zeros_any h _ (by unfold fillN; omega)
  have HRR : Hid (rr < w.heap.size) := h.box.lt
  clear h hsm hle
  go_enter Try.func41, Try.ntmps41
  go_wp2_with fail
  refine Calls.mono HAt.out ?_
  rintro e wz ⟨rfl, hz⟩
  subst wz
  go_wp2_with fail
  refine Calls.mono (HF.out _) ?_
  rintro e wz ⟨rfl, hz⟩
  subst wz
  go_wp2_with fail
  refine Calls.mono HZ.out ?_
  rintro e w1 ⟨rfl, h1, h1o⟩
  clear HAt HF HZ tc
  have HN : Hid (Calls Try.prog 37 #[.pointer (some ⟨rr, 0, none⟩), .int .i64 1] w1 fun e w' => e = .returned (.int .i64 (nuV bs (cs1 bs s) 1 : Int)) ∧ Rx w' rr rb bs (nuS bs (cs1 bs s) 1) ∧ Onl rr rb w w') := by
    refine (number8_any h1 1 (by omega)).mono ?_
    rintro e w' ⟨rfl, g1, g2⟩
    exact ⟨rfl, g1, h1o.trans g2⟩
  have HV1 : Hid (cs2 bs s = waS (nuS bs (cs1 bs s) 1) (decide (nuV bs (cs1 bs s) 1 = 1))) := rfl
  clear h1 h1o
  generalize nuV bs (cs1 bs s) 1 = v1 at *
  go_wp2_with fail
  refine Calls.mono HN.out ?_
  rintro e w2 ⟨rfl, h2, h2o⟩
  have hd : ((v1 : Int) == 1) = decide (v1 = 1) := by
    by_cases h : v1 = 1
    · simp [h]
    · rw [decide_eq_false h, beq_eq_false_iff_ne]; omega
  have HW : Hid (Calls Try.prog 39 #[.pointer (some ⟨rr, 0, none⟩), .bool ((v1 : Int) == 1)] w2 fun e w' => e = .returned (.tuple #[]) ∧ Rx w' rr rb bs (cs2 bs s) ∧ Onl rr rb w w') := by
    rw [HV1.out, hd]
    refine (want_any h2 _).mono ?_
    rintro e w' ⟨rfl, g1, g2⟩
    exact ⟨rfl, g1, h2o.trans g2⟩
  clear h2 h2o hd HN HV1
  go_wp2_with fail
  refine Calls.mono HW.out ?_
  rintro e w3 ⟨rfl, h3, h3o⟩
  have HN2 : Hid (Calls Try.prog 37 #[.pointer (some ⟨rr, 0, none⟩), .int .i64 1] w3 fun e w' => e = .returned (.int .i64 (csN bs s : Int)) ∧ Rx w' rr rb bs (nuS bs (cs2 bs s) 1) ∧ Onl rr rb w w') := by
    refine (number8_any h3 1 (by omega)).mono ?_
    rintro e w' ⟨rfl, g1, g2⟩
    exact ⟨rfl, g1, h3o.trans g2⟩
  have HV2 : Hid (cs3 bs s = waS (nuS bs (cs2 bs s) 1) (cntB (csN bs s))) := rfl
  have HVL : Hid (csS bs s = (if (cs4 bs s).2 = 0 then rsS bs (cs4 bs s) (csN bs s) else cs4 bs s) ∧ csL bs s = (if (cs4 bs s).2 = 0 then rsL bs (cs4 bs s) (csN bs s) else [])) := ⟨rfl, rfl⟩
  have HV4 : Hid (cs4 bs s = zeS bs (cs3 bs s) 2) := rfl
  have hnl : csN bs s < 4294967296 := nuV_lt _ _ _ (by omega)
  clear h3 h3o HW
  generalize csN bs s = n at *
  go_wp2_with fail
  refine Calls.mono HN2.out ?_
  rintro e w4 ⟨rfl, h4, h4o⟩
  have HWn : Hid (∀ b, b = cntB n → Calls Try.prog 39 #[.pointer (some ⟨rr, 0, none⟩), .bool b] w4 fun e w' => e = .returned (.tuple #[]) ∧ Rx w' rr rb bs (cs3 bs s) ∧ Onl rr rb w w') := by
    intro b hb
    rw [HV2.out, ← hb]
    refine (want_any h4 _).mono ?_
    rintro e w' ⟨rfl, g1, g2⟩
    exact ⟨rfl, g1, h4o.trans g2⟩
  have HZ4 : Hid (∀ W, Rx W rr rb bs (cs3 bs s) → Calls Try.prog 40 #[.pointer (some ⟨rr, 0, none⟩), .int .i64 2] W fun e w' => e = .returned (.tuple #[]) ∧ Rx w' rr rb bs (cs4 bs s) ∧ Onl rr rb W w') := by
    intro W hW
    rw [HV4.out]
    exact zeros_any hW 2 (by omega)
  have HBad : Hid (cntB n = false → (cs4 bs s).2 ≠ 0) := by
    intro hc
    rw [HV4.out, HV2.out, hc]
    have : (waS (nuS bs (cs2 bs s) 1) false).2 ≠ 0 := by
      unfold waS
      split
      · simp
      · assumption
    rw [zeS_stick _ _ this]
    exact this
  clear HN2 h4 h4o HV2
  by_cases h16 : 1 ≤ n ∧ n ≤ 6
  · have hcn : cntB n = true := by simp [cntB]; omega
    have i1 : (1 : Int) ≤ (n : Int) := by omega
    have i6 : (n : Int) ≤ 6 := by omega
    go_wp2_with fail
    refine Calls.mono (HWn.out true hcn.symm) ?_
    rintro e w5 ⟨rfl, h5, h5o⟩
    clear HWn
    go_wp2_with fail
    refine Calls.mono (HZ4.out _ h5) ?_
    rintro e w6 ⟨rfl, h6, h6o⟩
    have H5o : Hid (Onl rr rb w w6) := h5o.trans h6o
    clear h5 h5o h6o HZ4 HBad
    have HG : Hid (Rx w6 rr rb bs (cs4 bs s)) := h6
    clear h6
    generalize cs4 bs s = s4 at *
    obtain ⟨a4, e4⟩ := s4
    have tc6 := HG.out.box.cell
    by_cases he4 : e4 = 0
    · subst he4
      have HVL' : Hid (csS bs s = rsS bs (a4, 0) n ∧ csL bs s = rsL bs (a4, 0) n) := HVL.out
      clear HVL HV4 hcn
      have hs6 := H5o.out.size
      obtain ⟨wa, hwa⟩ : ∃ W, W = w6.alloc (.cells #[.int .i64 0, .int .i64 0, .int .i64 0, .int .i64 0, .int .i64 0, .int .i64 0, .int .i64 0, .int .i64 0, .int .i64 0, .int .i64 0, .int .i64 0, .int .i64 0, .int .i64 0, .int .i64 0, .int .i64 0, .int .i64 0, .int .i64 0, .int .i64 0, .int .i64 0, .int .i64 0, .int .i64 0, .int .i64 0, .int .i64 0, .int .i64 0, .int .i64 0, .int .i64 0, .int .i64 0, .int .i64 0, .int .i64 0, .int .i64 0, .int .i64 0, .int .i64 0, .int .i64 0, .int .i64 0, .int .i64 0, .int .i64 0] 79) := ⟨_, rfl⟩
      have hb0 : Below w6.heap.size w6 wa := by rw [hwa]; exact (Below.refl _ _).alloc (Nat.le_refl _) _
      have hA0 : At wa w6.heap.size (rcL [(0, 0, 0, 0, 0, 0), (0, 0, 0, 0, 0, 0), (0, 0, 0, 0, 0, 0), (0, 0, 0, 0, 0, 0), (0, 0, 0, 0, 0, 0), (0, 0, 0, 0, 0, 0)]).toArray 79 := by rw [hwa]; exact At.made _ _ _
      have HX0 : Hid (Rx wa rr rb bs (a4, 0)) := HG.out.later hb0
      have HO0 : Hid (Onl rr rb w wa) := H5o.out.trans (Onl.of_below hb0)
      have HA0 : Hid (At wa w6.heap.size (rcL [(0, 0, 0, 0, 0, 0), (0, 0, 0, 0, 0, 0), (0, 0, 0, 0, 0, 0), (0, 0, 0, 0, 0, 0), (0, 0, 0, 0, 0, 0), (0, 0, 0, 0, 0, 0)]).toArray 79) := hA0
      have hrr := HRR.out
      obtain ⟨g, hg⟩ : ∃ g, g = w6.heap.size := ⟨_, rfl⟩
      have HGW : Hid (w.heap.size ≤ g ∧ rr < g ∧ rb < g) := by
        have := HG.out.lt
        refine ⟨?_, ?_, ?_⟩ <;> omega
      go_wp2
      rw [← hwa]
      clear hwa hb0 hA0 HG tc6 hrr
      rw [← hg] at HA0 ⊢
      clear hg hs6 H5o
      go_loopw [5, 37] (fun _ z wr => ∃ (q : Nat) (R : List Rw), q ≤ n ∧ z = .int .i64 (q : Int) ∧ Rx wr rr rb bs (rsS bs (a4, 0) q) ∧ R.length = 6 ∧ R.take q = rsL bs (a4, 0) q ∧ At wr g (rcL R).toArray 79 ∧ Onl rr rb w wr) (fun _ z _ => n - (intOf z).toNat)
      case atStart => exact ⟨0, _, Nat.zero_le _, rfl, HX0.out, rfl, rfl, HA0.out, HO0.out⟩
      case round =>
        obtain ⟨q, R, hq, rfl, hR, hR6, hRt, hA, hO⟩ := hrel
        clear HX0 HA0 HO0
        by_cases hqn : q < n
        · have HC : Hid (Calls Try.prog 46 #[.pointer (some ⟨rr, 0, none⟩)] wr fun e w' => e = .returned (.agg #[.int .i64 (clV bs (rsS bs (a4, 0) q) 0), .int .i64 (clV bs (rsS bs (a4, 0) q) 1), .int .i64 (clV bs (rsS bs (a4, 0) q) 2), .int .i64 (clV bs (rsS bs (a4, 0) q) 3), .int .i64 (clV bs (rsS bs (a4, 0) q) 4), .int .i64 (clV bs (rsS bs (a4, 0) q) 5)]) ∧ Rx w' rr rb bs (rsS bs (a4, 0) (q + 1)) ∧ At w' g (rcL R).toArray 79 ∧ Onl rr rb w w') := by
            obtain ⟨g1, g2, g3⟩ := HGW.out
            refine (clause_any hR).mono ?_
            rintro e w' ⟨rfl, k1, k2⟩
            exact ⟨rfl, k1, hA.onl k2 (by omega) (by omega), hO.trans k2⟩
          have HRt : Hid ((R.set q (clR bs (rsS bs (a4, 0) q))).take (q + 1) = rsL bs (a4, 0) (q + 1)) := by
            show _ = _
            have hts : List.take q (R.set q (clR bs (rsS bs (a4, 0) q))) = List.take q R := by
              apply List.ext_getElem?
              intro i
              rw [List.getElem?_take, List.getElem?_take]
              split
              · rw [List.getElem?_set_ne (by omega)]
              · rfl
            rw [rsL_succ, ← hRt, List.take_succ_eq_append_getElem (by simp; omega), hts]
            simp
          have HR6 : Hid (R.length = 6) := hR6
          clear hR hA hO hRt hR6
          unfold clR at HRt
          generalize clV bs (rsS bs (a4, 0) q) 0 = f0 at *
          generalize clV bs (rsS bs (a4, 0) q) 1 = f1 at *
          generalize clV bs (rsS bs (a4, 0) q) 2 = f2 at *
          generalize clV bs (rsS bs (a4, 0) q) 3 = f3 at *
          generalize clV bs (rsS bs (a4, 0) q) 4 = f4 at *
          generalize clV bs (rsS bs (a4, 0) q) 5 = f5 at *
          go_wp2_with fail
          refine Calls.mono HC.out ?_
          rintro e w7 ⟨rfl, k1, k2, k3⟩
          clear HC
          obtain ⟨c0, c1, c2, c3, c4, c5⟩ := rcL_get R q (by rw [HR6.out]; omega)
          have hcl := k2.cell
          have hml := k2.melt
          have d0 : w7.cell? ⟨g, q * 6, none⟩ = some (.int .i64 (R[q]'(by rw [HR6.out]; omega)).1) := by rw [hcl]; simpa using c0
          have d1 : w7.cell? ⟨g, q * 6 + 1, none⟩ = some (.int .i64 (R[q]'(by rw [HR6.out]; omega)).2.1) := by rw [hcl]; simpa using c1
          have d2 : w7.cell? ⟨g, q * 6 + 2, none⟩ = some (.int .i64 (R[q]'(by rw [HR6.out]; omega)).2.2.1) := by rw [hcl]; simpa using c2
          have d3 : w7.cell? ⟨g, q * 6 + 3, none⟩ = some (.int .i64 (R[q]'(by rw [HR6.out]; omega)).2.2.2.1) := by rw [hcl]; simpa using c3
          have d4 : w7.cell? ⟨g, q * 6 + 4, none⟩ = some (.int .i64 (R[q]'(by rw [HR6.out]; omega)).2.2.2.2.1) := by rw [hcl]; simpa using c4
          have d5 : w7.cell? ⟨g, q * 6 + 5, none⟩ = some (.int .i64 (R[q]'(by rw [HR6.out]; omega)).2.2.2.2.2) := by rw [hcl]; simpa using c5
          generalize R[q]'(by rw [HR6.out]; omega) = t at *
          obtain ⟨t0, t1, t2, t3, t4, t5⟩ := t
          simp only at d0 d1 d2 d3 d4 d5
          clear c0 c1 c2 c3 c4 c5 hcl
          have hb7 : Below g w7 ((((((w7.setCell ⟨g, q * 6, none⟩ (.int .i64 f0)).setCell ⟨g, q * 6 + 1, none⟩ (.int .i64 f1)).setCell ⟨g, q * 6 + 2, none⟩ (.int .i64 f2)).setCell ⟨g, q * 6 + 3, none⟩ (.int .i64 f3)).setCell ⟨g, q * 6 + 4, none⟩ (.int .i64 f4)).setCell ⟨g, q * 6 + 5, none⟩ (.int .i64 f5)) := below_setR (Below.refl g w7) (Nat.le_refl g) _ _ _ _ _ _
          have HA7 : Hid (At ((((((w7.setCell ⟨g, q * 6, none⟩ (.int .i64 f0)).setCell ⟨g, q * 6 + 1, none⟩ (.int .i64 f1)).setCell ⟨g, q * 6 + 2, none⟩ (.int .i64 f2)).setCell ⟨g, q * 6 + 3, none⟩ (.int .i64 f3)).setCell ⟨g, q * 6 + 4, none⟩ (.int .i64 f4)).setCell ⟨g, q * 6 + 5, none⟩ (.int .i64 f5)) g (rcL (R.set q (f0, f1, f2, f3, f4, f5))).toArray 79) := k2.setR (by rw [HR6.out]; omega) f0 f1 f2 f3 f4 f5
          have HX7 : Hid (Rx ((((((w7.setCell ⟨g, q * 6, none⟩ (.int .i64 f0)).setCell ⟨g, q * 6 + 1, none⟩ (.int .i64 f1)).setCell ⟨g, q * 6 + 2, none⟩ (.int .i64 f2)).setCell ⟨g, q * 6 + 3, none⟩ (.int .i64 f3)).setCell ⟨g, q * 6 + 4, none⟩ (.int .i64 f4)).setCell ⟨g, q * 6 + 5, none⟩ (.int .i64 f5)) rr rb bs (rsS bs (a4, 0) (q + 1))) := k1.below hb7 HGW.out.2.1
          have HO7 : Hid (Onl rr rb w ((((((w7.setCell ⟨g, q * 6, none⟩ (.int .i64 f0)).setCell ⟨g, q * 6 + 1, none⟩ (.int .i64 f1)).setCell ⟨g, q * 6 + 2, none⟩ (.int .i64 f2)).setCell ⟨g, q * 6 + 3, none⟩ (.int .i64 f3)).setCell ⟨g, q * 6 + 4, none⟩ (.int .i64 f4)).setCell ⟨g, q * 6 + 5, none⟩ (.int .i64 f5))) := ⟨hb7.os.trans k3.os, hb7.tape.trans k3.tape, hb7.output.trans k3.output, Nat.le_trans k3.size hb7.size, fun k hk q1 q2 => (hb7.block k (by have := HGW.out.1; omega)).trans (k3.block k hk q1 q2)⟩
          clear k1 k2 k3 hb7
          have iq : (q : Int) < 6 := by omega
          go_wp2
          go_roundw
          case rel => exact ⟨q + 1, _, by omega, by go_num, HX7.out, by rw [List.length_set]; exact HR6.out, HRt.out, HA7.out, HO7.out⟩
          case measure => simp [intOf]; omega
        · have hqq : q = n := by omega
          subst hqq
          have HR : Hid (Rx wr rr rb bs (rsS bs (a4, 0) q)) := hR
          have HWs : Hid (Ws wr (.slice (some ⟨g, 0, none⟩) q 6) (rsL bs (a4, 0) q)) := by
            have := Ws.of_at (n := q) (cap := 6) hA (by omega) (by omega) (by unfold maxLen; omega)
            rw [hRt] at this
            exact this
          have HON : Hid (Onl rr rb w wr) := hO
          clear hR hA hO hRt hR6
          go_wp2
          go_ret
          exact ⟨⟨_, rfl, by rw [HVL'.out.2]; exact HWs.out, fun k hk => by simp [Value.ownBlock] at hk; have := HGW.out.1; omega⟩, by rw [HVL'.out.1]; exact HR.out, HON.out⟩
    · have HVL' : Hid (csS bs s = (a4, e4) ∧ csL bs s = []) := ⟨by rw [HVL.out.1, if_neg he4], by rw [HVL.out.2, if_neg he4]⟩
      have he4' : (e4 != 0) = true := by simpa using he4
      clear HVL HV4
      go_wp2
      go_ret
      exact ⟨⟨_, rfl, by rw [HVL'.out.2]; exact Ws.nil _, by simp [Value.ownBlock]⟩, by rw [HVL'.out.1]; exact HG.out, H5o.out⟩
  · have hcn : cntB n = false := by
      cases hc : cntB n with
      | false => rfl
      | true => simp [cntB] at hc; omega
    by_cases h1 : 1 ≤ n
    · have i1 : (1 : Int) ≤ (n : Int) := by omega
      have i6 : (6 : Int) < (n : Int) := by omega
      clear h16 h1
      go_wp2_with fail
      refine Calls.mono (HWn.out (decide ((n : Int) ≤ 6)) (by rw [hcn]; exact decide_eq_false (by omega))) ?_
      rintro e w5 ⟨rfl, h5, h5o⟩
      clear HWn
      go_wp2_with fail
      refine Calls.mono (HZ4.out _ h5) ?_
      rintro e w6 ⟨rfl, h6, h6o⟩
      have H5o : Hid (Onl rr rb w w6) := h5o.trans h6o
      have hbad := HBad.out hcn
      clear h5 h5o h6o HZ4 HBad
      have HG : Hid (Rx w6 rr rb bs (cs4 bs s)) := h6
      have tc6 := h6.box.cell
      clear h6
      have HVL' : Hid (csS bs s = cs4 bs s ∧ csL bs s = []) := ⟨by rw [HVL.out.1, if_neg hbad], by rw [HVL.out.2, if_neg hbad]⟩
      have he4' : ((cs4 bs s).2 != 0) = true := by simpa using hbad
      clear HVL HV4
      generalize (cs4 bs s).2 = e4 at *
      go_wp2
      go_ret
      exact ⟨⟨_, rfl, by rw [HVL'.out.2]; exact Ws.nil _, by simp [Value.ownBlock]⟩, by rw [HVL'.out.1]; exact HG.out, H5o.out⟩
    · have i1 : (n : Int) < 1 := by omega
      go_wp2_with fail
      refine Calls.mono (HWn.out false hcn.symm) ?_
      rintro e w5 ⟨rfl, h5, h5o⟩
      clear HWn
      go_wp2_with fail
      refine Calls.mono (HZ4.out _ h5) ?_
      rintro e w6 ⟨rfl, h6, h6o⟩
      have H5o : Hid (Onl rr rb w w6) := h5o.trans h6o
      have hbad := HBad.out hcn
      clear h5 h5o h6o HZ4 HBad
      have HG : Hid (Rx w6 rr rb bs (cs4 bs s)) := h6
      have tc6 := h6.box.cell
      clear h6
      have HVL' : Hid (csS bs s = cs4 bs s ∧ csL bs s = []) := ⟨by rw [HVL.out.1, if_neg hbad], by rw [HVL.out.2, if_neg hbad]⟩
      have he4' : ((cs4 bs s).2 != 0) = true := by simpa using hbad
      clear HVL HV4
      generalize (cs4 bs s).2 = e4 at *
      go_wp2
      go_ret
      exact ⟨⟨_, rfl, by rw [HVL'.out.2]; exact Ws.nil _, by simp [Value.ownBlock]⟩, by rw [HVL'.out.1]; exact HG.out, H5o.out⟩

end Go.Proofs.Ytfgjlljbpcombaa
