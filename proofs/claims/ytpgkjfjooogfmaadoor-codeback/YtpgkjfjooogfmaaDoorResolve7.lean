
/- resolve. -/
import Derived.Test.YtpgkjfjooogfmaaDoorCodeMath
import Derived.Test.YtpgkjfjooogfmaaDoorSearch7
namespace Go.Proofs.YtpgkjfjooogfmaaDoor
set_option linter.unusedVariables false
set_option linter.unusedSimpArgs false
open Go.RowKit

theorem OwnX.parts {w : World} {base : Nat} {v : Value} {l : List Ins} (h : OwnX w base v l) (hne : l ≠ []) : ∃ g cap, v = .slice (some ⟨g, 0, none⟩) l.length cap ∧ l.length ≤ cap ∧ cap ≤ maxLen ∧ base ≤ g ∧ g < w.heap.size ∧ (∀ i (hi : i < l.length), Six w g (i * 6) l[i]) ∧ (∀ o, w.frozen? ⟨g, o, none⟩ = false) := by
  rcases id h.2 with ⟨rfl, h0⟩ | ⟨g, cap, cur, rfl, hg, hh, hn, hm, hs, ht⟩
  · exact absurd (List.eq_nil_of_length_eq_zero h0) hne
  · obtain ⟨b, off, c, e, h1, h2, hb, hc⟩ := h.xs.parts hne
    simp only [Value.slice.injEq, Option.some.injEq, Addr.mk.injEq, true_and, and_true] at e
    obtain ⟨⟨rfl, rfl⟩, rfl⟩ := e
    refine ⟨g, cap, rfl, hn, hm, hg, hb, fun i hi => ?_, fun o => by simp [World.frozen?, hh]⟩
    have := hc i hi
    rwa [Nat.zero_add] at this
theorem OwnX.setArg {w : World} {base g n c : Nat} {l : List Ins} (h : OwnX w base (.slice (some ⟨g, 0, none⟩) n c) l) (i : Nat) (hi : i < l.length) (y : Int) : OwnX (w.setCell ⟨g, i * 6 + 1, none⟩ (.int .i64 y)) base (.slice (some ⟨g, 0, none⟩) n c) (l.set i (l[i].1, y, l[i].2.2)) := by
  obtain ⟨h1, h2⟩ := h
  refine ⟨by rw [xcL_length]; omega, ?_⟩
  rcases h2 with ⟨e, h0⟩ | ⟨g', cap, cur, e, hg, hh, hn, hm, hs, ht⟩
  · simp at e
  · simp only [Value.slice.injEq, Option.some.injEq, Addr.mk.injEq, true_and, and_true] at e
    obtain ⟨rfl, rfl, rfl⟩ := e
    refine .inr ⟨g, c, cur.setIfInBounds (i * 6 + 1) (.int .i64 y), by simp, hg, ?_, by simpa using hn, hm, by simpa using hs, ?_⟩
    · have := (show At w g cur 45 from hh).set (i * 6 + 1) (.int .i64 y)
      exact this
    · rw [Array.toList_setIfInBounds, List.length_set, List.take_set, ht, xcL_setArg l i hi y]

/-- What resolve leaves. -/
structure ResR (w w' : World) (base : Nat) (lv pf : Value) (l : List Ins) (ps pfs : List Int) (e : Ending) : Prop where
  out : (∃ m, e = .returned (.int .i64 (l.length : Int)) ∧ OwnX w' base lv m ∧ Ress ps l m) ∨ (∃ i, ∃ h : i < l.length, e = .returned (.int .i64 (i : Int)) ∧ ∀ y, ¬ resP ps l[i] y)
  own : OwnI w' base pf pfs
  below : Below base w w'

theorem resolve_none (a : Option Addr) (cap : Nat) (p : Value) (w : World) :
    Calls Tryd.prog 28 #[.slice a 0 cap, p] w fun e w' => e = .returned (.int .i64 0) ∧ w' = w := by
  go_enter Tryd.func28, Tryd.ntmps28
  go_wp2
  refine wp_loop_rounds 1 ?_; rw [rounds_succ]
  go_wp2
  go_ret
  exact ⟨rfl, rfl⟩

set_option maxHeartbeats 4000000 in
set_option maxRecDepth 100000 in
theorem resolve_some {w : World} {base : Nat} {lv pf pv : Value} {l : List Ins} {ps pfs : List Int} (hX : OwnX w base lv l) (hI : OwnI w base pf pfs) (hne : l ≠ []) (hl : l.length ≤ 160) (hps : ps.length ≤ 1000) (hR : Rise ps) (hbase : base ≤ w.heap.size) (hIs : ∀ W, OwnI W base pf pfs → Is W pv ps) :
    Calls Tryd.prog 28 #[lv, pv] w fun e w' => ResR w w' base lv pf l ps pfs e := by
  obtain ⟨g, cap, rfl, h1, h2, h3, h4, _, _⟩ := id (hX.parts hne)
  obtain ⟨pa, pc, rfl, hq1, hq2, _⟩ := id (hIs w hI)
  rw [i64s_length] at hq1
  unfold maxLen at h2 hq2
  have HX : Hid (OwnX w base (.slice (some ⟨g, 0, none⟩) l.length cap) l) := hX
  have HI : Hid (OwnI w base pf pfs) := hI
  have HIs : Hid (∀ W, OwnI W base pf pfs → Is W (.slice pa ps.length pc) ps) := by
    intro W hW
    have := hIs W hW
    rw [i64s_length] at this
    exact this
  have HRi : Hid (Rise ps) := hR
  rw [i64s_length]
  clear hX hI hIs hR hne
  go_enter Tryd.func28, Tryd.ntmps28
  go_wp2
  go_loopw [5, 7, 8, 11] (fun _ _ _ z wr => ∃ (q : Nat) (L : List Ins), q ≤ l.length ∧ z = .int .i64 (q : Int) ∧ L.length = l.length ∧ OwnX wr base (.slice (some ⟨g, 0, none⟩) l.length cap) L ∧ OwnI wr base pf pfs ∧ Below base w wr ∧ (∀ j (h : j < l.length) (h' : j < L.length), j < q → resP ps l[j] L[j]) ∧ (∀ j (h : j < l.length) (h' : j < L.length), q ≤ j → L[j] = l[j])) (fun _ _ _ z _ => l.length - (intOf z).toNat)
  case atStart => exact ⟨0, l, Nat.zero_le _, rfl, rfl, HX.out, HI.out, Below.refl _ _, fun j h h' hj => absurd hj (by omega), fun j h h' hj => rfl⟩
  case round =>
    obtain ⟨q, L, hq, rfl, hLl, hX, hI, hB, hdone, htodo⟩ := hrel
    have HX1 : Hid (OwnX wr base (.slice (some ⟨g, 0, none⟩) l.length cap) L) := hX
    have HI1 : Hid (OwnI wr base pf pfs) := hI
    have HB1 : Hid (Below base w wr) := hB
    have HD : Hid (∀ j (h : j < l.length) (h' : j < L.length), j < q → resP ps l[j] L[j]) := hdone
    have HT : Hid (∀ j (h : j < l.length) (h' : j < L.length), q ≤ j → L[j] = l[j]) := htodo
    have HLl : Hid (L.length = l.length) := hLl
    have hsw := hB.size
    clear hdone htodo HX HI
    by_cases hql : q < l.length
    · have hqL : q < L.length := by omega
      obtain ⟨g', c', e, _, _, _, hglt, hsix, hmelt⟩ := hX.parts (by intro e; subst e; simp at hqL)
      simp only [Value.slice.injEq, Option.some.injEq, Addr.mk.injEq, true_and, and_true] at e
      obtain ⟨rfl, hle, rfl⟩ := e
      clear hle
      have hsx := hsix q hqL
      have HLq : Hid (L[q] = l[q]) := HT.out q hql hqL (Nat.le_refl _)
      rw [HLq.out] at hsx
      obtain ⟨c0, c1, c2, c3, c4, c5⟩ := hsx
      have HNext : Hid (∀ y, resP ps l[q] y → (∀ j (h : j < l.length) (h' : j < (L.set q y).length), j < q + 1 → resP ps l[j] (L.set q y)[j]) ∧ (∀ j (h : j < l.length) (h' : j < (L.set q y).length), q + 1 ≤ j → (L.set q y)[j] = l[j])) := by
        intro y hy
        refine ⟨fun j h h' hj => ?_, fun j h h' hj => ?_⟩
        · by_cases hjq : j = q
          · subst hjq; simpa using hy
          · rw [List.getElem_set_ne (by omega)]
            exact HD.out j h (by omega) (by omega)
        · rw [List.getElem_set_ne (by omega)]
          exact HT.out j h (by omega) (by omega)
      have HSame : Hid (L.set q l[q] = L) := by
        show _ = _
        rw [← HLq.out]
        exact List.set_getElem_self hqL
      have HSet : Hid (∀ W y, OwnX W base (.slice (some ⟨g, 0, none⟩) l.length cap) L → OwnX (W.setCell ⟨g, q * 6 + 1, none⟩ (.int .i64 y)) base (.slice (some ⟨g, 0, none⟩) l.length cap) (L.set q (l[q].1, y, l[q].2.2))) := by
        intro W y hW
        have := hW.setArg q hqL y
        rwa [HLq.out] at this
      have HRes : Hid (∀ y, resP ps l[q] y ↔ if opK l[q].1 = 5 then ∃ k, ∃ _ : k < ps.length, ps[k] = l[q].2.1 ∧ y = (l[q].1, (k : Int), l[q].2.2) else y = l[q]) := fun y => Iff.rfl
      have HStuck : Hid (∀ i, i = q → (∀ y, ¬ resP ps l[q] y) → ∃ h : i < l.length, ∀ y, ¬ resP ps l[i] y) := fun i hi hy => by subst hi; exact ⟨hql, hy⟩
      generalize l[q] = x at *
      obtain ⟨op, n, k, i, d, r⟩ := x
      simp only at c0 c1 c2 c3 c4 c5 HSet HRes
      have hbx : Below wr.heap.size wr (wr.alloc (.cells #[.int .i64 op, .int .i64 n, .int .i64 k, .int .i64 i, .int .i64 d, .bool r] 45)) := (Below.refl _ _).alloc (Nat.le_refl _) _
      have hXb := At.made wr #[.int .i64 op, .int .i64 n, .int .i64 k, .int .i64 i, .int .i64 d, .bool r] 45
      have HqL : Hid (q < L.length) := hqL
      clear hX hI hB hsix hmelt hLl HLq hqL
      go_wp2_with fail
      refine (operandOf_any op n k i d r _).mono ?_
      rintro e w1 ⟨rfl, hb1⟩
      have hX1 := hXb.later hb1
      have hB1 : Below wr.heap.size wr w1 := below_box hb1
      have HX2 : Hid (OwnX w1 base (.slice (some ⟨g, 0, none⟩) l.length cap) L) := HX1.out.later hB1
      have HI2 : Hid (OwnI w1 base pf pfs) := HI1.out.later hB1
      have HB2 : Hid (Below base w w1) := HB1.out.trans (hB1.mono (by omega))
      have xc := hX1.cell
      clear hb1 hbx hXb c0 c1 c2 c3 c4 c5
      by_cases h5 : opK op = 5
      · have h5' : ((opK op : Int) != 5) = false := by rw [bne_eq_false_iff_eq]; omega
        have HS : Hid (Calls Tryd.prog 45 #[.slice pa ps.length pc, .int .i64 n] w1 fun e w' => (∃ (k : Nat) (f : Bool), e = .returned (.tuple #[.int .i64 (k : Int), .bool f]) ∧ (f = true → ∃ h : k < ps.length, ps[k] = n) ∧ (f = false → ∀ i (h : i < ps.length), ps[i] ≠ n)) ∧ w' = w1) := search_any (HIs.out w1 HI2.out) HRi.out hps n
        go_wp2_with fail
        refine Calls.mono HS.out ?_
        rintro e wz ⟨⟨kk, f, rfl, hy, hn⟩, hz⟩
        subst wz
        cases f with
        | false =>
          have HNo : Hid (∀ y, ¬ resP ps (op, n, k, i, d, r) y) := by
            intro y hr
            have := (HRes.out y).1 hr
            rw [if_pos h5] at this
            obtain ⟨k', hk', e1, _⟩ := this
            exact hn rfl k' hk' e1
          clear hy hn h5
          go_wp2_with fail
          go_ret
          obtain ⟨hh, hs⟩ := HStuck.out q rfl HNo.out
          exact ⟨.inr ⟨q, hh, rfl, hs⟩, HI2.out, HB2.out⟩
        | true =>
          obtain ⟨hkk, hkn⟩ := hy rfl
          have HYes : Hid (resP ps (op, n, k, i, d, r) (op, (kk : Int), k, i, d, r)) := by
            show resP _ _ _
            rw [HRes.out, if_pos h5]
            exact ⟨kk, hkk, hkn, rfl⟩
          obtain ⟨g2, c2, e2, _, _, _, hg2, hsix2, hmelt2⟩ := HX2.out.parts (by intro e; have := HqL.out; rw [e] at this; simp at this)
          simp only [Value.slice.injEq, Option.some.injEq, Addr.mk.injEq, true_and, and_true] at e2
          obtain ⟨rfl, hle, rfl⟩ := e2
          clear hle
          obtain ⟨_, t1, _⟩ := hsix2 q HqL.out
          clear hy hn h5 hsix2
          have HX3 : Hid (OwnX (w1.setCell ⟨g, q * 6 + 1, none⟩ (.int .i64 (kk : Int))) base (.slice (some ⟨g, 0, none⟩) l.length cap) (L.set q (op, (kk : Int), k, i, d, r))) := HSet.out w1 _ HX2.out
          have HI3 : Hid (OwnI (w1.setCell ⟨g, q * 6 + 1, none⟩ (.int .i64 (kk : Int))) base pf pfs) := by
            refine HI2.out.of_block (fun j hj _ => Below.heap_setCell _ _ _ _ ?_)
            intro (e : j = g)
            obtain ⟨C, hC⟩ := HX2.out.typed g rfl
            exact HI2.out.ne hC (by decide) (e ▸ hj)
          have HB3 : Hid (Below base w (w1.setCell ⟨g, q * 6 + 1, none⟩ (.int .i64 (kk : Int)))) := HB2.out.setCell h3 _
          obtain ⟨n1, n2⟩ := HNext.out _ HYes.out
          have HN1 : Hid (∀ j (h : j < l.length) (h' : j < (L.set q (op, (kk : Int), k, i, d, r)).length), j < q + 1 → resP ps l[j] (L.set q (op, (kk : Int), k, i, d, r))[j]) := n1
          have HN2 : Hid (∀ j (h : j < l.length) (h' : j < (L.set q (op, (kk : Int), k, i, d, r)).length), q + 1 ≤ j → (L.set q (op, (kk : Int), k, i, d, r))[j] = l[j]) := n2
          have HLn : Hid ((L.set q (op, (kk : Int), k, i, d, r)).length = l.length) := by show _ = _; rw [List.length_set]; exact HLl.out
          clear n1 n2
          go_wp2_with fail
          go_roundw
          case rel => exact ⟨q + 1, _, by omega, by go_num, HLn.out, HX3.out, HI3.out, HB3.out, HN1.out, HN2.out⟩
          case measure => simp [intOf]; omega
      · have h5' : ((opK op : Int) != 5) = true := by rw [bne_iff_ne]; omega
        have HYes : Hid (resP ps (op, n, k, i, d, r) (op, n, k, i, d, r)) := by
          show resP _ _ _
          rw [HRes.out, if_neg h5]
        obtain ⟨n1, n2⟩ := HNext.out _ HYes.out
        rw [HSame.out] at n1 n2
        have HN1 : Hid (∀ j (h : j < l.length) (h' : j < L.length), j < q + 1 → resP ps l[j] L[j]) := n1
        have HN2 : Hid (∀ j (h : j < l.length) (h' : j < L.length), q + 1 ≤ j → L[j] = l[j]) := n2
        clear n1 n2
        go_wp2_with fail
        go_roundw
        case rel => exact ⟨q + 1, L, by omega, by go_num, HLl.out, HX2.out, HI2.out, HB2.out, HN1.out, HN2.out⟩
        case measure => simp [intOf]; omega
    · have hqq : q = l.length := by omega
      subst hqq
      have HRs : Hid (Ress ps l L) := ⟨HLl.out, fun j h h' => HD.out j h h' h⟩
      go_wp2
      go_ret
      exact ⟨.inl ⟨L, rfl, HX1.out, HRs.out⟩, HI1.out, HB1.out⟩

theorem resolve_any {w : World} {base : Nat} {lv pf pv : Value} {l : List Ins} {ps pfs : List Int} (hX : OwnX w base lv l) (hI : OwnI w base pf pfs) (hl : l.length ≤ 160) (hps : ps.length ≤ 1000) (hR : Rise ps) (hbase : base ≤ w.heap.size) (hIs : ∀ W, OwnI W base pf pfs → Is W pv ps) :
    Calls Tryd.prog 28 #[lv, pv] w fun e w' => ResR w w' base lv pf l ps pfs e := by
  by_cases hne : l = []
  · subst hne
    obtain ⟨a, c, rfl, _, _⟩ := id hX.xs.shape
    refine (resolve_none a c pv w).mono ?_
    rintro e w' ⟨rfl, rfl⟩
    exact ⟨.inl ⟨[], rfl, hX, rfl, fun j h => absurd h (by simp)⟩, hI, Below.refl _ _⟩
  · exact resolve_some hX hI hne hl hps hR hbase hIs

end Go.Proofs.YtpgkjfjooogfmaaDoor
