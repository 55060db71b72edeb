
/- linksAt: the regions in which an instruction lies, clause by clause. -/
import Derived.Test.YtbfcdcdeohikpaaSort9
namespace Go.Proofs.Ytbfcdcdeohikpaa
set_option linter.unusedVariables false
set_option linter.unusedSimpArgs false
open Go.RowKit
attribute [local go_sem ↓] Go.wp_at_zero Go.wp_at_succ

theorem Try.infoLink : (Try.prog.info? 65).map (fun i => (i.zero, i.size, i.bytes)) = some (some (.agg #[.int .i64 0, .int .i64 0, .int .i64 0, .int .i64 0]), 4, 32) := by kernel_rfl

/-- A row stands while another one, of other elements, grows. -/
theorem OwnE.grown2 {α β : Type} {E : Enc α} {E2 : Enc β} {w w' : World} {base base2 : Nat} {t t2 : TypeId} {v v2 : Value} {l : List α} {l2 : List β} (ho : OwnE E w base t v l) (ho2 : OwnE E2 w base2 t2 v2 l2) (ht : t ≠ t2) (hg : w.grownBy w' v2.ownBlock) : OwnE E w' base t v l := by
  refine ho.of_block fun k hk hlt => hg.block k hlt fun e => ?_
  obtain ⟨C, hC⟩ := ho.typed k hk
  exact ho2.ne hC ht e.symm

theorem linksAt_none (n : Int) (a : Option Addr) (cap : Nat) (w : World) :
    Calls Try.prog 35 #[.slice a 0 cap, .int .i64 n] w fun e w' => e = .returned (.slice none 0 0) ∧ w' = w := by
  go_enter Try.func35, Try.ntmps35
  go_wp2
  refine wp_loop_rounds 1 ?_; rw [rounds_succ]
  go_wp2
  go_ret
  exact ⟨rfl, rfl⟩

theorem spans_len (c : Cl) : (spansL c).length ≤ 3 := by unfold spansL; split <;> simp
theorem lkS_len (i n : Int) : ∀ (ss : List Sp) (p : Int), (lkS i n p ss).length ≤ ss.length
  | [], _ => by simp [lkS]
  | s :: r, p => by
    have := lkS_len i n r (p + 1)
    simp only [lkS, List.length_append, List.length_cons]
    split <;> simp <;> omega
theorem lkL_len (n : Int) : ∀ (l : List Cl) (i : Int), (lkL n i l).length ≤ 3 * l.length
  | [], _ => by simp [lkL]
  | c :: r, i => by
    have := lkL_len n r (i + 1)
    have h2 := lkS_len i n (spansL c) 1
    have h3 := spans_len c
    simp only [lkL, List.length_append, List.length_cons]
    omega

set_option maxHeartbeats 8000000 in
theorem linksAt_some {b off cap : Nat} {n : Int} {l : List Cl} {w : World} (hb : b < w.heap.size) (hc : ∀ i (hi : i < l.length), El clE9 w b (off + i * 10) l[i]) (hl : l.length ≤ 6) (hcap : l.length ≤ cap) (hm : cap ≤ maxLen) :
    Calls Try.prog 35 #[.slice (some ⟨b, off, none⟩) l.length cap, .int .i64 n] w fun e w' => ∃ v, e = .returned v ∧ OwnE lkE w' w.heap.size 65 v (lkL n 0 l) ∧ Below w.heap.size w w' := by
  unfold maxLen at hm
  have HC : Hid (∀ i (hi : i < l.length), ∀ W, Below w.heap.size w W → Ten W b (off + i * 10) l[i]) := fun i hi W hW => ((hc i hi).below hW hb).ten
  clear hc
  go_enter Try.func35, Try.ntmps35
  go_wp2_with fail
  go_loopw [5, 12] (fun lv z wr => ∃ q : Nat, q ≤ l.length ∧ z = .int .i64 q ∧ OwnE lkE wr w.heap.size 65 lv (lkL n 0 (l.take q)) ∧ Below w.heap.size w wr) (fun _ z _ => l.length - (intOf z).toNat)
  case atStart => exact ⟨0, Nat.zero_le _, rfl, OwnE.nil _ _ _ _, Below.refl _ _⟩
  case round =>
    obtain ⟨q, hq, rfl, ho, hB⟩ := hrel
    have HBL : Hid (Below w.heap.size w wr) := hB
    obtain ⟨la, lc, hlv, _, _⟩ := ho.shape
    obtain ⟨len5, hlen5⟩ : ∃ m, m = (lkL n 0 (l.take q)).length := ⟨_, rfl⟩
    rw [← hlen5] at hlv
    clear hlen5
    subst hlv
    by_cases hql : q < l.length
    · obtain ⟨c0, c1, c2, c3, c4, c5, c6, c7, c8, c9⟩ := HC.out q hql wr hB
      have HQ : Hid (lkL n 0 (l.take (q + 1)) = lkL n 0 (l.take q) ++ lkS (q : Int) n 1 (spansL l[q])) := lkL_take n l q hql
      have HLn : Hid ((lkL n 0 (l.take q)).length ≤ 18) := by
        show _ ≤ _
        have := lkL_len n (l.take q) 0
        rw [List.length_take] at this
        omega
      generalize l[q] = c at *
      generalize lkL n 0 (l.take q) = pre at *
      obtain ⟨wA, hwA⟩ : ∃ W, W = wr.alloc (.cells #[.int .i64 c.k, .int .i64 c.tf, .int .i64 c.tt, .int .i64 c.hf, .int .i64 c.ht, .int .i64 c.fi, .int .i64 c.t0, .int .i64 c.t1, .int .i64 c.t2, .bool c.t3] 44) := ⟨_, rfl⟩
      have HWA : Hid (wA = _) := hwA
      have hbA : Below wr.heap.size wr wA := by rw [hwA]; exact made_below _ _ _
      have hAA : At wA wr.heap.size (clC c).toArray 44 := by rw [hwA]; exact At.made wr (clC c).toArray _
      obtain ⟨a0, a1, a2, a3, a4, a5, a6, a7, a8, a9⟩ := hAA.ten
      have HSp : Hid (Calls Try.prog 27 #[.agg #[.int .i64 c.k, .int .i64 c.tf, .int .i64 c.tt, .int .i64 c.hf, .int .i64 c.ht, .int .i64 c.fi, .int .i64 c.t0, .int .i64 c.t1, .int .i64 c.t2, .bool c.t3]] wA fun e w' => ∃ v, e = .returned v ∧ OwnE spE w' wA.heap.size 63 v (spansL c) ∧ Below wA.heap.size wA w') := spansOf_any c wA
      have HO : Hid (OwnE lkE wA w.heap.size 65 (.slice la len5 lc) pre) := ho.later hbA
      have HBA : Hid (Below w.heap.size w wA) := bstep HBL.out hbA
      clear hB hwA hbA hAA ho
      go_wp2_with (rw [← HWA.out])
      refine Calls.mono HSp.out ?_
      rintro e w1 ⟨v1, rfl, ho1, hb1⟩
      have hne := spans_ne c
      have hsl := spans_len c
      generalize spansL c = ss at *
      obtain ⟨sg, scap, hv1, _, hsm, hgs⟩ : ∃ g cap, v1 = .slice (some ⟨g, 0, none⟩) ss.length cap ∧ ss.length ≤ cap ∧ cap ≤ maxLen ∧ True := by
        rcases ho1.2 with ⟨_, h0⟩ | ⟨g, cp, cur, h, _, _, h1, h2, _⟩
        · exact absurd (List.eq_nil_of_length_eq_zero h0) hne
        · exact ⟨g, cp, h, h1, h2, trivial⟩
      subst hv1
      unfold maxLen at hsm
      have HO1 : Hid (OwnE lkE w1 w.heap.size 65 (.slice la len5 lc) pre) := HO.out.later hb1
      have HS1 : Hid (OwnE spE w1 wA.heap.size 63 (.slice (some ⟨sg, 0, none⟩) ss.length scap) ss) := ho1
      have HB1 : Hid (Below w.heap.size w w1) := bstep HBA.out hb1
      have HTwo : Hid (∀ W, OwnE spE W wA.heap.size 63 (.slice (some ⟨sg, 0, none⟩) ss.length scap) ss → ∀ k (hk : k < ss.length), Two9 W sg (k * 2) ss[k]) := fun W hW k hk => by
        obtain ⟨b', off', cap', e1, _, _, _, hcell⟩ := hW.es.parts hne
        simp only [Value.slice.injEq, Option.some.injEq, Addr.mk.injEq] at e1
        obtain ⟨⟨rfl, rfl, _⟩, _, rfl⟩ := e1
        have := (hcell k hk).two
        have h0 : 0 + k * spE.size = k * 2 := Nat.zero_add _
        rw [h0] at this
        exact this
      clear ho1 hb1 HSp HO a0 a1 a2 a3 a4 a5 a6 a7 a8 a9 c0 c1 c2 c3 c4 c5 c6 c7 c8 c9 hne
      go_wp2_with fail
      obtain ⟨wo, rfl⟩ : ∃ wo, wo = wr := ⟨_, rfl⟩
      go_loopw [5, 20] (fun lv z wr => ∃ k : Nat, k ≤ ss.length ∧ z = .int .i64 k ∧ OwnE lkE wr w.heap.size 65 lv (pre ++ lkS (q : Int) n 1 (ss.take k)) ∧ OwnE spE wr wA.heap.size 63 (.slice (some ⟨sg, 0, none⟩) ss.length scap) ss ∧ Below w.heap.size w wr) (fun _ z _ => ss.length - (intOf z).toNat)
      case atStart => exact ⟨0, Nat.zero_le _, rfl, by simpa [lkS] using HO1.out, HS1.out, HB1.out⟩
      case round =>
        obtain ⟨k, hk, rfl, ho, hs, hB⟩ := hrel
        have HBk : Hid (Below w.heap.size w wr) := hB
        have HSk : Hid (OwnE spE wr wA.heap.size 63 (.slice (some ⟨sg, 0, none⟩) ss.length scap) ss) := hs
        have HLk : Hid ((pre ++ lkS (q : Int) n 1 (ss.take k)).length ≤ 30) := by
          show _ ≤ _
          have h1 := lkS_len (q : Int) n (ss.take k) 1
          have h2 := HLn.out
          rw [List.length_take] at h1
          rw [List.length_append]
          omega
        obtain ⟨la2, lc2, hlv2, _, _⟩ := ho.shape
        obtain ⟨len6, hlen6⟩ : ∃ m, m = (pre ++ lkS (q : Int) n 1 (ss.take k)).length := ⟨_, rfl⟩
        rw [← hlen6] at hlv2
        clear hlen6
        subst hlv2
        have HOk : Hid (OwnE lkE wr w.heap.size 65 (.slice la2 len6 lc2) (pre ++ lkS (q : Int) n 1 (ss.take k))) := ho
        by_cases hkl : k < ss.length
        · obtain ⟨c0, c1⟩ := HTwo.out wr hs k hkl
          have HT : Hid (lkS (q : Int) n 1 (ss.take (k + 1)) = lkS (q : Int) n 1 (ss.take k) ++ (if hasB ss[k] n = true then [((q : Int), 1 + (k : Int), ss[k].1, ss[k].2)] else [])) := lkS_take (q : Int) n ss k hkl
          generalize ss[k] = s at *
          obtain ⟨w2, hw2⟩ : ∃ W, W = wr.alloc (.cells #[.int .i64 s.1, .int .i64 s.2] 63) := ⟨_, rfl⟩
          have HW2 : Hid (w2 = _) := hw2
          have hb2 : Below wr.heap.size wr w2 := by rw [hw2]; exact made_below _ _ _
          have hA2 : At w2 wr.heap.size #[.int .i64 s.1, .int .i64 s.2] 63 := by rw [hw2]; exact At.made wr _ _
          have HB2 : Hid (Below wr.heap.size wr w2) := hb2
          have HA2 : Hid (At w2 wr.heap.size #[.int .i64 s.1, .int .i64 s.2] 63) := hA2
          obtain ⟨d0, d1⟩ := hA2.box2
          have HHa : Hid (Calls Try.prog 46 #[.agg #[.int .i64 s.1, .int .i64 s.2], .int .i64 n] w2 fun e w' => e = .returned (.bool (hasB s n)) ∧ Below w2.heap.size w2 w') := has_any s n w2
          clear hB hs ho hw2 hb2 hA2
          go_wp2_with (rw [← HW2.out])
          refine Calls.mono HHa.out ?_
          rintro e w3 ⟨rfl, hb3⟩
          have HB3 : Hid (Below wr.heap.size wr w3) := bstep HB2.out hb3
          clear c0 c1 d0 d1
          obtain ⟨d0, d1⟩ := (HA2.out.later hb3).box2
          clear hb3
          cases hh : hasB s n with
          | true =>
            have HT2 : Hid (pre ++ lkS (q : Int) n 1 (ss.take (k + 1)) = (pre ++ lkS (q : Int) n 1 (ss.take k)) ++ [((q : Int), 1 + (k : Int), s.1, s.2)]) := by show _ = _; rw [HT.out, if_pos hh, List.append_assoc]
            have HV4 : Hid (∀ W : World, Es lkE (W.alloc (.cells #[.int .i64 (q : Int), .int .i64 (1 + (k : Int)), .int .i64 s.1, .int .i64 s.2] 65)) (.slice (some ⟨W.heap.size, 0, none⟩) 1 1) [((q : Int), 1 + (k : Int), s.1, s.2)]) := fun W => (OwnE.lit lkE W W.heap.size 65 [((q : Int), 1 + (k : Int), s.1, s.2)] _ 1 (Nat.le_refl _) rfl rfl (by simp [maxLen])).es
            have HO4 : Hid (OwnE lkE (w3.alloc (.cells #[.int .i64 (q : Int), .int .i64 (1 + (k : Int)), .int .i64 s.1, .int .i64 s.2] 65)) w.heap.size 65 (.slice la2 len6 lc2) (pre ++ lkS (q : Int) n 1 (ss.take k))) := HOk.out.later (bbox HB3.out _)
            have HS4 : Hid (OwnE spE (w3.alloc (.cells #[.int .i64 (q : Int), .int .i64 (1 + (k : Int)), .int .i64 s.1, .int .i64 s.2] 65)) wA.heap.size 63 (.slice (some ⟨sg, 0, none⟩) ss.length scap) ss) := HSk.out.later (bbox HB3.out _)
            have HB4 : Hid (Below w.heap.size w (w3.alloc (.cells #[.int .i64 (q : Int), .int .i64 (1 + (k : Int)), .int .i64 s.1, .int .i64 s.2] 65))) := bstep HBk.out (bbox HB3.out _)
            have HL1 : Hid ((pre ++ lkS (q : Int) n 1 (ss.take k)).length + [((q : Int), 1 + (k : Int), s.1, s.2)].length ≤ maxLen) := by show _ ≤ _; have := HLk.out; simp only [List.length_cons, List.length_nil]; unfold maxLen; omega
            have HL2 : Hid ((((pre ++ lkS (q : Int) n 1 (ss.take k)).length + [((q : Int), 1 + (k : Int), s.1, s.2)].length) + ((pre ++ lkS (q : Int) n 1 (ss.take k)).length + [((q : Int), 1 + (k : Int), s.1, s.2)].length) / 4 + 192) * 32 ≤ 281474976710656) := by show _ ≤ _; have := HLk.out; simp only [List.length_cons, List.length_nil]; omega
            go_wp2_with (at_builtin; go_must (refine wpList_append_es lkE rfl (.tmp 28) (.tmp 35) 59 rfl w.heap.size 65 _ 32 Try.underlying59 Try.infoLink rfl rfl rfl HO4.out (HV4.out w3) HL1.out HL2.out HB4.out.size ?_; intro v5 w5 ho5 hg5))
            go_roundw
            case rel => exact ⟨k + 1, by omega, by go_num, by rw [HT2.out]; exact ho5, OwnE.grown2 HS4.out HO4.out (by decide) hg5, HB4.out.trans (grown_belowE HO4.out hg5 (Nat.le_refl _) HB4.out.size)⟩
            case measure => simp [intOf]; omega
          | false =>
            have HT2 : Hid (lkS (q : Int) n 1 (ss.take (k + 1)) = lkS (q : Int) n 1 (ss.take k)) := by show _ = _; rw [HT.out, if_neg (by rw [hh]; decide), List.append_nil]
            go_wp2_with fail
            go_roundw
            case rel => exact ⟨k + 1, by omega, by go_num, by rw [HT2.out]; exact HOk.out.later HB3.out, HSk.out.later HB3.out, bstep HBk.out HB3.out⟩
            case measure => simp [intOf]; omega
        · have HE : Hid (pre ++ lkS (q : Int) n 1 (ss.take k) = lkL n 0 (l.take (q + 1))) := by
            show _ = _
            rw [HQ.out, List.take_of_length_le (by omega)]
          go_wp2_with fail
          go_roundw
          case rel => exact ⟨q + 1, by omega, by go_num, by rw [← HE.out]; exact HOk.out, HBk.out⟩
          case measure => simp [intOf]; omega
    · have HE : Hid (lkL n 0 (l.take q) = lkL n 0 l) := by show _ = _; rw [List.take_of_length_le (by omega)]
      have HO : Hid (OwnE lkE wr w.heap.size 65 (.slice la len5 lc) (lkL n 0 (l.take q))) := ho
      clear ho
      go_wp2
      go_ret
      exact ⟨_, rfl, by rw [← HE.out]; exact HO.out, HBL.out⟩

theorem linksAt_any {v : Value} {l : List Cl} {w : World} (n : Int) (h : Es clE9 w v l) (hl : l.length ≤ 6) :
    Calls Try.prog 35 #[v, .int .i64 n] w fun e w' => ∃ v, e = .returned v ∧ OwnE lkE w' w.heap.size 65 v (linkL l n) ∧ Below w.heap.size w w' := by
  by_cases hne : l = []
  · subst hne
    obtain ⟨a, c, rfl, _, _⟩ := h.shape
    refine (linksAt_none n a c w).mono ?_
    rintro e w' ⟨rfl, rfl⟩
    exact ⟨_, rfl, OwnE.nil _ _ _ _, Below.refl _ _⟩
  · obtain ⟨b, off, cap, rfl, h1, h2, hb, hc⟩ := h.parts hne
    exact linksAt_some hb hc hl h1 h2

end Go.Proofs.Ytbfcdcdeohikpaa
