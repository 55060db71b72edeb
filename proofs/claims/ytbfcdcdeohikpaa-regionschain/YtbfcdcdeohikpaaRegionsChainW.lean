
/- The walk of RegionsChain. -/
import Derived.Test.YtbfcdcdeohikpaaOpen9
namespace Go.Proofs.Ytbfcdcdeohikpaa
set_option linter.unusedVariables false
set_option linter.unusedSimpArgs false
open Go.RowKit
attribute [local go_sem ↓] Go.wp_at_zero Go.wp_at_succ

/-- A region of a chain, its clause and its bounds. -/
theorem chain_bnd {l : List Cl} {n : Int} {x : Lk} (hx : x ∈ chL l n) : ∃ k, ∃ hk : k < l.length, x.1 = (k : Int) ∧ bnd l[k] x.2.1 = lkSp x := by
  obtain ⟨k, hk, j, hj, rfl, _⟩ := lkL_mem (cmp_mem hx).1
  refine ⟨k, hk, by simp, ?_⟩
  simp only [lkSp]
  rw [← spans_bnd l[k] j hj]

set_option maxHeartbeats 8000000 in
theorem regionsChain_walk (v : Value) (l : List Cl) (y : Value) (x : Int × Int × Int) (w : World) (h : Es clE9 w v l) (hx : y = wyV x) :
    Calls Try.prog 4 #[v, y] w fun e w' => e = .returned (.bool true) ∧ Below w.heap.size w w' := by
  have h0 := h
  obtain ⟨va, vc, hv, _, _⟩ := h.shape
  have hll := h.len
  unfold maxLen at hll
  obtain ⟨N, F, T⟩ := x
  obtain ⟨w0, hw0⟩ : ∃ W, W = w.alloc (.cells #[.int .i64 N, .int .i64 F, .int .i64 T] 32) := ⟨_, rfl⟩
  have HW0 : Hid (w0 = _) := hw0
  have hb0 : Below w.heap.size w w0 := by rw [hw0]; exact made_below _ _ _
  have HB0 : Hid (Below w.heap.size w w0) := hb0
  have hA : At w0 w.heap.size #[.int .i64 N, .int .i64 F, .int .i64 T] 32 := by rw [hw0]; exact At.made w _ _
  have HK3 : Hid (∀ W, Below w0.heap.size w0 W → W.cell? ⟨w.heap.size, 0, none⟩ = some (.int .i64 N) ∧ W.cell? ⟨w.heap.size, 1, none⟩ = some (.int .i64 F) ∧ W.cell? ⟨w.heap.size, 2, none⟩ = some (.int .i64 T)) := fun W hW => ⟨(hA.later hW).cell 0, (hA.later hW).cell 1, (hA.later hW).cell 2⟩
  have HK : Hid (∀ W, Below w0.heap.size w0 W → W.cell? ⟨w.heap.size, 1, none⟩ = some (.int .i64 F) ∧ W.cell? ⟨w.heap.size, 2, none⟩ = some (.int .i64 T)) := fun W hW => (HK3.out W hW).2
  have HE : Hid (∀ W, Below w0.heap.size w0 W → Es clE9 W v l) := fun W hW => (h.later hb0).later hW
  clear h h0 hw0 hb0 hA
  subst hv
  subst hx
  unfold wyV
  go_enter Try.func4, Try.ntmps4
  go_wp2_with (rw [← HW0.out])
  refine (wakes9_any w0).mono ?_
  rintro e w1 ⟨rfl, hb1⟩
  have HB1 : Hid (Below w0.heap.size w0 w1) := hb1
  obtain ⟨k0, k1, k2⟩ := HK3.out w1 hb1
  have HMa : Hid (Calls Try.prog 12 #[.slice va l.length vc, .agg #[.int .i64 N, .int .i64 F, .int .i64 T]] w1 fun e w' => ∃ r, e = .returned (.bool r) ∧ MayR l (N, F, T) r ∧ Below w1.heap.size w1 w') := may_any (HE.out w1 hb1) (N, F, T)
  clear hb1
  go_wp2_with fail
  refine Calls.mono HMa.out ?_
  rintro e w2 ⟨r, rfl, hr, hb2⟩
  have HB2 : Hid (Below w0.heap.size w0 w2) := bstep HB1.out hb2
  clear hb2 HMa k0 k1 k2
  obtain ⟨k1, k2⟩ := HK.out w2 HB2.out
  cases r with
  | false =>
    go_wp2_with fail
    go_ret
    exact ⟨rfl, bstep HB0.out HB2.out⟩
  | true =>
    obtain ⟨hN, hR⟩ := hr rfl
    have h6 := hR.1
    have HRt : Hid (RightL N l) := hR
    clear hR hr
    have HCh : Hid (∀ W x, Below w0.heap.size w0 W → Calls Try.prog 15 #[.slice va l.length vc, .int .i64 x] W fun e w' => ∃ v', e = .returned v' ∧ OwnE spE w' W.heap.size 46 v' (chR l x) ∧ Below W.heap.size W w') := fun W x hW => refChain_any (HE.out W hW) HRt.out hN x
    have HLn : Hid (∀ x, (chR l x).length ≤ 18) := fun x => chain_len HRt.out x
    have HCo : Hid (∀ W, Below w0.heap.size w0 W → Calls Try.prog 10 #[.slice va l.length vc] W fun e w' => ∃ v', e = .returned v' ∧ Es clE9 w' v' l ∧ Below W.heap.size W w') := fun W hW => copied9_any (HE.out W hW) (by omega)
    have HPc : Hid (∀ W v', Es clE9 W v' l → Calls Try.prog 13 #[v', .int .i64 F] W fun e w' => ∃ u, e = .returned u ∧ OwnE spE w' W.heap.size 46 u (chR l F) ∧ Below W.heap.size W w') := fun W v' hv => chain_any hv HRt.out hN F
    have HTr : Hid (∀ W v', Es clE9 W v' l → Calls Try.prog 17 #[v', .int .i64 F] W fun e w' => ∃ u, e = .returned u ∧ OwnI w' W.heap.size u (pkL (triB F) 0 l) ∧ Below W.heap.size W w') := fun W v' hv => tries_any hv (by omega) F
    have HRr : Hid (∀ W, Below w0.heap.size w0 W → Calls Try.prog 18 #[.slice va l.length vc, .int .i64 F] W fun e w' => ∃ u, e = .returned u ∧ OwnI w' W.heap.size u (pkL (triB F) 0 l) ∧ Below W.heap.size W w') := fun W hW => refTries_any (HE.out W hW) (by omega) F
    have HSm : Hid (∀ W va vb, Es spE W va (chR l F) → Es spE W vb (chR l F) → Calls Try.prog 14 #[va, vb] W fun e w' => e = .returned (.bool true) ∧ Below W.heap.size W w') := fun W va vb h1 h2 => by
      refine (Same9_any h1 h2 (by have := HLn.out F; omega) (by have := HLn.out F; omega)).mono ?_
      rintro e w' ⟨rfl, hB⟩
      exact ⟨by rw [decide_eq_true rfl], hB⟩
    have HSi : Hid (∀ W va vb, Is W va (pkL (triB F) 0 l) → Is W vb (pkL (triB F) 0 l) → Calls Try.prog 16 #[va, vb] W fun e w' => e = .returned (.bool true) ∧ Below W.heap.size W w') := fun W va vb h1 h2 => by
      refine (sameInts9_any h1 h2).mono ?_
      rintro e w' ⟨rfl, hB⟩
      exact ⟨by rw [decide_eq_true rfl], hB⟩
    go_wp2_with fail
    go_region_held3 (fun W => W.cell? ⟨w.heap.size, 1, none⟩ = some (.int .i64 F) ∧ W.cell? ⟨w.heap.size, 2, none⟩ = some (.int .i64 T))
      (first | (exact HK.out _ (bstep HB2.out (bdrew _))) | (exact HK.out _ hBc))
      (first
        | (go_at_call 10; refine (HCo.out _ (bstep HB2.out (bdrew _))).mono ?_; rintro e w3 ⟨v3, rfl, he3, hb3⟩; have hBc : Below w0.heap.size w0 w3 := bstep (bstep HB2.out (bdrew _)) hb3)
        | (go_at_call 13; refine (HPc.out _ _ he3).mono ?_; rintro e w4 ⟨v4, rfl, ho4, hb4⟩; have hBc : Below w0.heap.size w0 w4 := bstep hBc hb4))
    rename_i hheld
    clear hheld
    have HB4 : Hid (Below w0.heap.size w0 w4) := hBc
    have HV4 : Hid (∀ W, Below w4.heap.size w4 W → Es spE W v4 (chR l F)) := fun W hW => ho4.es.later hW
    clear he3 hb3 hb4 ho4 hBc k1 k2
    obtain ⟨k1, k2⟩ := HK.out w4 HB4.out
    go_wp2_with fail
    go_region_held3 (fun W => W.cell? ⟨w.heap.size, 1, none⟩ = some (.int .i64 F) ∧ W.cell? ⟨w.heap.size, 2, none⟩ = some (.int .i64 T))
      (first | (exact HK.out _ (bstep HB4.out (bdrew _))) | (exact HK.out _ (bstep HB4.out hBd)))
      (first
        | (go_at_call 15; refine (HCh.out _ _ (bstep HB4.out (bdrew _))).mono ?_; rintro e w5 ⟨v5, rfl, ho5, hb5⟩; have hBd : Below w4.heap.size w4 w5 := bstep (bdrew _) hb5)
        | (go_at_call 14; refine (HSm.out _ _ _ (HV4.out _ hBd) ho5.es).mono ?_; rintro e w6 ⟨rfl, hb6⟩; have hBd : Below w4.heap.size w4 w6 := bstep hBd hb6)
        | (go_at_call 10; refine (HCo.out _ (bstep HB4.out hBd)).mono ?_; rintro e w7 ⟨v7, rfl, he7, hb7⟩; have hBd : Below w4.heap.size w4 w7 := bstep hBd hb7)
        | (go_at_call 17; refine (HTr.out _ _ he7).mono ?_; rintro e w8 ⟨v8, rfl, ho8, hb8⟩; have hBd : Below w4.heap.size w4 w8 := bstep hBd hb8)
        | (go_at_call 18; refine (HRr.out _ (bstep HB4.out hBd)).mono ?_; rintro e w9 ⟨v9, rfl, ho9, hb9⟩; have hBd : Below w4.heap.size w4 w9 := bstep hBd hb9)
        | (go_at_call 16; refine (HSi.out _ _ _ (ho8.later hb9).is ho9.is).mono ?_; rintro e w10 ⟨rfl, hb10⟩; have hBd : Below w4.heap.size w4 w10 := bstep hBd hb10))
    rename_i hheld
    clear hheld
    have HB10 : Hid (Below w4.heap.size w4 w10) := hBd
    clear ho5 hb5 hb6 he7 hb7 ho8 hb8 ho9 hb9 hb10 hBd k1 k2 HCo HPc HTr HRr HSm HSi HCh
    have HVx : Hid (Es spE w10 v4 (chR l F)) := HV4.out w10 HB10.out
    have HLx : Hid ((chR l F).length ≤ 18) := HLn.out F
    have HBn : Hid (∀ q (hq : q < (chR l F).length), ∃ k, ∃ hk : k < l.length, (chR l F)[q].1 = (k : Int) ∧ ∃ hq' : q < (chL l F).length, bnd l[k] (chR l F)[q].2 = lkSp (chL l F)[q]) := fun q hq => by
      have hq' : q < (chL l F).length := by unfold chR at hq; rw [List.length_map] at hq; exact hq
      have hg : (chR l F)[q] = lkRg (chL l F)[q] := List.getElem_map lkRg
      obtain ⟨k, hk, h1, h2⟩ := chain_bnd (List.getElem_mem hq')
      exact ⟨k, hk, by rw [hg]; exact h1, hq', by rw [hg]; exact h2⟩
    have HPw : Hid ((chL l F).Pairwise fun x y => y.2.2.1 ≤ x.2.2.1 ∧ x.2.2.2 ≤ y.2.2.2 ∧ lkN x < lkN y) := cmp_pairwise (HRt.out.nested F)
    have HEl : Hid (∀ W, Below w10.heap.size w10 W → Es clE9 W (.slice va l.length vc) l) := fun W hW => HE.out W (bstep (bstep HB4.out HB10.out) hW)
    have HBw : Hid (Below w.heap.size w w10) := bstep HB0.out (bstep HB4.out HB10.out)
    clear HV4 HLn HE HK HK3
    generalize chR l F = L at *
    generalize chL l F = D at *
    obtain ⟨ca, cc, hcv, _, hcm⟩ := HVx.out.shape
    unfold maxLen at hcm
    subst hcv
    go_wp2_with fail
    go_loopw [6] (fun z wr => ∃ q : Nat, q ≤ L.length ∧ z = .int .i64 ((q : Int) + 1) ∧ Below w10.heap.size w10 wr) (fun z _ => L.length + 1 - (intOf z).toNat)
    case atStart => exact ⟨0, Nat.zero_le _, rfl, Below.refl _ _⟩
    case round =>
      obtain ⟨q, hq, rfl, hB⟩ := hrel
      have HBq : Hid (Below w10.heap.size w10 wr) := hB
      clear hB
      have hlx := HLx.out
      by_cases hql : q + 1 < L.length
      · have n1 : (q : Int) + 1 < (L.length : Int) := by omega
        have nL : L ≠ [] := by intro e; subst e; simp at hql
        obtain ⟨b, off, cap, he, _, _, hb, hc⟩ := HVx.out.parts nL
        simp only [Value.slice.injEq] at he
        obtain ⟨rfl, _, rfl⟩ := he
        obtain ⟨k, hk, hk1, hqd, hbd⟩ := HBn.out q (by omega)
        obtain ⟨k', hk', hk1', hqd', hbd'⟩ := HBn.out (q + 1) hql
        have hrel2 := List.pairwise_iff_getElem.1 HPw.out q (q + 1) hqd hqd' (by omega)
        have nl : l ≠ [] := by intro e; subst e; simp at hk
        obtain ⟨lb, lo, lcap, hle, _, hlm, hlb, hlc⟩ := (HEl.out w10 (Below.refl _ _)).parts nl
        simp only [Value.slice.injEq] at hle
        obtain ⟨rfl, _, rfl⟩ := hle
        have HS1 : Hid (∀ W, Below w10.heap.size w10 W → (W.cell? ⟨b, off + q * 2, none⟩ = some (.int .i64 (k : Int)) ∧ W.cell? ⟨b, off + q * 2 + 1, none⟩ = some (.int .i64 L[q].2)) ∧ (W.cell? ⟨lb, lo + k * 10, none⟩ = some (.int .i64 l[k].k) ∧ W.cell? ⟨lb, lo + k * 10 + 1, none⟩ = some (.int .i64 l[k].tf) ∧ W.cell? ⟨lb, lo + k * 10 + 2, none⟩ = some (.int .i64 l[k].tt) ∧ W.cell? ⟨lb, lo + k * 10 + 3, none⟩ = some (.int .i64 l[k].hf) ∧ W.cell? ⟨lb, lo + k * 10 + 4, none⟩ = some (.int .i64 l[k].ht) ∧ W.cell? ⟨lb, lo + k * 10 + 5, none⟩ = some (.int .i64 l[k].fi) ∧ W.cell? ⟨lb, lo + k * 10 + 6, none⟩ = some (.int .i64 l[k].t0) ∧ W.cell? ⟨lb, lo + k * 10 + 7, none⟩ = some (.int .i64 l[k].t1) ∧ W.cell? ⟨lb, lo + k * 10 + 8, none⟩ = some (.int .i64 l[k].t2) ∧ W.cell? ⟨lb, lo + k * 10 + 9, none⟩ = some (.bool l[k].t3))) := fun W hW => ⟨by have := ((hc q (by omega)).below hW hb).two; unfold Two9 at this; rw [hk1] at this; exact this, ((hlc k hk).below hW hlb).ten⟩
        have HS2 : Hid (∀ W, Below w10.heap.size w10 W → (W.cell? ⟨b, off + (q + 1) * 2, none⟩ = some (.int .i64 (k' : Int)) ∧ W.cell? ⟨b, off + (q + 1) * 2 + 1, none⟩ = some (.int .i64 L[q + 1].2)) ∧ (W.cell? ⟨lb, lo + k' * 10, none⟩ = some (.int .i64 l[k'].k) ∧ W.cell? ⟨lb, lo + k' * 10 + 1, none⟩ = some (.int .i64 l[k'].tf) ∧ W.cell? ⟨lb, lo + k' * 10 + 2, none⟩ = some (.int .i64 l[k'].tt) ∧ W.cell? ⟨lb, lo + k' * 10 + 3, none⟩ = some (.int .i64 l[k'].hf) ∧ W.cell? ⟨lb, lo + k' * 10 + 4, none⟩ = some (.int .i64 l[k'].ht) ∧ W.cell? ⟨lb, lo + k' * 10 + 5, none⟩ = some (.int .i64 l[k'].fi) ∧ W.cell? ⟨lb, lo + k' * 10 + 6, none⟩ = some (.int .i64 l[k'].t0) ∧ W.cell? ⟨lb, lo + k' * 10 + 7, none⟩ = some (.int .i64 l[k'].t1) ∧ W.cell? ⟨lb, lo + k' * 10 + 8, none⟩ = some (.int .i64 l[k'].t2) ∧ W.cell? ⟨lb, lo + k' * 10 + 9, none⟩ = some (.bool l[k'].t3))) := fun W hW => ⟨by have := ((hc (q + 1) hql).below hW hb).two; unfold Two9 at this; rw [hk1'] at this; exact this, ((hlc k' hk').below hW hlb).ten⟩
        have HBc : Hid (∀ W p, Calls Try.prog 19 #[.agg #[.int .i64 l[k].k, .int .i64 l[k].tf, .int .i64 l[k].tt, .int .i64 l[k].hf, .int .i64 l[k].ht, .int .i64 l[k].fi, .int .i64 l[k].t0, .int .i64 l[k].t1, .int .i64 l[k].t2, .bool l[k].t3], .int .i64 p] W fun e w' => e = .returned (.tuple #[.int .i64 (bnd l[k] p).1, .int .i64 (bnd l[k] p).2]) ∧ Below W.heap.size W w') := fun W p => bounds_any l[k] p W
        have HBd : Hid (∀ W p, Calls Try.prog 19 #[.agg #[.int .i64 l[k'].k, .int .i64 l[k'].tf, .int .i64 l[k'].tt, .int .i64 l[k'].hf, .int .i64 l[k'].ht, .int .i64 l[k'].fi, .int .i64 l[k'].t0, .int .i64 l[k'].t1, .int .i64 l[k'].t2, .bool l[k'].t3], .int .i64 p] W fun e w' => e = .returned (.tuple #[.int .i64 (bnd l[k'] p).1, .int .i64 (bnd l[k'] p).2]) ∧ Below W.heap.size W w') := fun W p => bounds_any l[k'] p W
        have HX : Hid ((bnd l[k] L[q].2) = lkSp D[q]) := hbd
        have HX' : Hid ((bnd l[k'] L[q + 1].2) = lkSp D[q + 1]) := hbd'
        have HRl : Hid ((bnd l[k'] L[q + 1].2).1 ≤ (bnd l[k] L[q].2).1 ∧ (bnd l[k] L[q].2).2 ≤ (bnd l[k'] L[q + 1].2).2 ∧ ¬ ((bnd l[k] L[q].2).1 = (bnd l[k'] L[q + 1].2).1 ∧ (bnd l[k] L[q].2).2 = (bnd l[k'] L[q + 1].2).2)) := by
          show _ ∧ _
          rw [hbd, hbd']
          unfold lkN at hrel2
          simp only [lkSp]
          omega
        have e1 : IntKind.i64.wrap (q : Int) = (q : Int) := by simp [IntKind.wrap, IntKind.bits, IntKind.signed]; omega
        have m0 : (0 : Int) ≤ (q : Int) + 1 := by omega
        have m1 : (0 : Int) ≤ (q : Int) := by omega
        have m2 : (q : Int) < (L.length : Int) := by omega
        have m3 : ((q : Int) + 1).toNat = q + 1 := by omega
        have m4 : (k : Int) < (l.length : Int) := by omega
        have m5 : (0 : Int) ≤ (k : Int) := by omega
        have m6 : (k' : Int) < (l.length : Int) := by omega
        have m7 : (0 : Int) ≤ (k' : Int) := by omega
        clear hbd hbd' hrel2 HX HX' hk1 hk1' hc hlc nL nl
        generalize l[k] = c at *
        generalize l[k'] = d at *
        generalize L[q].2 = p1 at *
        generalize L[q + 1].2 = p2 at *
        obtain ⟨⟨c0, c1⟩, c2, c3, c4, c5, c6, c7, c8, c9, c10, c11⟩ := HS1.out wr HBq.out
        go_wp2_with fail
        go_region_held3 (fun W => (W.cell? ⟨b, off + q * 2, none⟩ = some (.int .i64 (k : Int)) ∧ W.cell? ⟨b, off + q * 2 + 1, none⟩ = some (.int .i64 p1)) ∧ (W.cell? ⟨lb, lo + k * 10, none⟩ = some (.int .i64 c.k) ∧ W.cell? ⟨lb, lo + k * 10 + 1, none⟩ = some (.int .i64 c.tf) ∧ W.cell? ⟨lb, lo + k * 10 + 2, none⟩ = some (.int .i64 c.tt) ∧ W.cell? ⟨lb, lo + k * 10 + 3, none⟩ = some (.int .i64 c.hf) ∧ W.cell? ⟨lb, lo + k * 10 + 4, none⟩ = some (.int .i64 c.ht) ∧ W.cell? ⟨lb, lo + k * 10 + 5, none⟩ = some (.int .i64 c.fi) ∧ W.cell? ⟨lb, lo + k * 10 + 6, none⟩ = some (.int .i64 c.t0) ∧ W.cell? ⟨lb, lo + k * 10 + 7, none⟩ = some (.int .i64 c.t1) ∧ W.cell? ⟨lb, lo + k * 10 + 8, none⟩ = some (.int .i64 c.t2) ∧ W.cell? ⟨lb, lo + k * 10 + 9, none⟩ = some (.bool c.t3)))
          (first | (exact HS1.out _ (bstep HBq.out (bdrew _))) | (exact HS1.out _ hBe))
          (first | (go_at_call 19; refine (HBc.out _ _).mono ?_; rintro e w11 ⟨rfl, hb11⟩; have hBe : Below w10.heap.size w10 w11 := bstep (bstep HBq.out (bdrew _)) hb11))
        rename_i hheld
        clear hheld
        have HB11 : Hid (Below w10.heap.size w10 w11) := hBe
        clear hb11 hBe c0 c1 c2 c3 c4 c5 c6 c7 c8 c9 c10 c11
        obtain ⟨⟨c0, c1⟩, c2, c3, c4, c5, c6, c7, c8, c9, c10, c11⟩ := HS2.out w11 HB11.out
        go_wp2_with fail
        go_region_held3 (fun W => (W.cell? ⟨b, off + (q + 1) * 2, none⟩ = some (.int .i64 (k' : Int)) ∧ W.cell? ⟨b, off + (q + 1) * 2 + 1, none⟩ = some (.int .i64 p2)) ∧ (W.cell? ⟨lb, lo + k' * 10, none⟩ = some (.int .i64 d.k) ∧ W.cell? ⟨lb, lo + k' * 10 + 1, none⟩ = some (.int .i64 d.tf) ∧ W.cell? ⟨lb, lo + k' * 10 + 2, none⟩ = some (.int .i64 d.tt) ∧ W.cell? ⟨lb, lo + k' * 10 + 3, none⟩ = some (.int .i64 d.hf) ∧ W.cell? ⟨lb, lo + k' * 10 + 4, none⟩ = some (.int .i64 d.ht) ∧ W.cell? ⟨lb, lo + k' * 10 + 5, none⟩ = some (.int .i64 d.fi) ∧ W.cell? ⟨lb, lo + k' * 10 + 6, none⟩ = some (.int .i64 d.t0) ∧ W.cell? ⟨lb, lo + k' * 10 + 7, none⟩ = some (.int .i64 d.t1) ∧ W.cell? ⟨lb, lo + k' * 10 + 8, none⟩ = some (.int .i64 d.t2) ∧ W.cell? ⟨lb, lo + k' * 10 + 9, none⟩ = some (.bool d.t3)))
          (first | (exact HS2.out _ (bstep HB11.out (bdrew _))) | (exact HS2.out _ hBe))
          (first | (go_at_call 19; refine (HBd.out _ _).mono ?_; rintro e w12 ⟨rfl, hb12⟩; have hBe : Below w10.heap.size w10 w12 := bstep (bstep HB11.out (bdrew _)) hb12))
        rename_i hheld
        clear hheld
        have HB12 : Hid (Below w10.heap.size w10 w12) := hBe
        clear hb12 hBe c0 c1 c2 c3 c4 c5 c6 c7 c8 c9 c10 c11 HBc HBd HS1 HS2
        obtain ⟨r1, r2, r3⟩ := HRl.out
        generalize (bnd c p1).1 = s1 at *
        generalize (bnd c p1).2 = s2 at *
        generalize (bnd d p2).1 = s3 at *
        generalize (bnd d p2).2 = s4 at *
        clear HRl
        by_cases h13 : s1 = s3
        · have h24 : ¬ s2 = s4 := fun e => r3 ⟨h13, e⟩
          have h24' : (s2 == s4) = false := by rw [beq_eq_false_iff_ne]; exact h24
          subst h13
          clear r3
          go_wp2_with fail
          go_roundw
          case rel => exact ⟨q + 1, by omega, by go_num, HB12.out⟩
          case measure => simp [intOf]; omega
        · have h13' : (s1 == s3) = false := by rw [beq_eq_false_iff_ne]; exact h13
          clear r3
          go_wp2_with fail
          go_roundw
          case rel => exact ⟨q + 1, by omega, by go_num, HB12.out⟩
          case measure => simp [intOf]; omega
      · have n1 : ¬ (q : Int) + 1 < (L.length : Int) := by omega
        go_wp2_with fail
        go_ret
        exact ⟨rfl, bstep HBw.out HBq.out⟩

end Go.Proofs.Ytbfcdcdeohikpaa
