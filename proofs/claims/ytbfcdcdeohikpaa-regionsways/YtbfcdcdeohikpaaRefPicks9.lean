
/- Tries and Finals of the references. -/
import Derived.Test.YtbfcdcdeohikpaaPicks9
namespace Go.Proofs.Ytbfcdcdeohikpaa
set_option linter.unusedVariables false
set_option linter.unusedSimpArgs false
open Go.RowKit
attribute [local go_sem ↓] Go.wp_at_zero Go.wp_at_succ

theorem refTries_none (n : Int) (a : Option Addr) (cap : Nat) (w : World) :
    Calls Try.prog 18 #[.slice a 0 cap, .int .i64 n] w fun e w' => e = .returned (.slice none 0 0) ∧ w' = w := by
  go_enter Try.func18, Try.ntmps18
  go_wp2
  refine wp_loop_rounds 1 ?_; rw [rounds_succ]
  go_wp2
  go_ret
  exact ⟨rfl, rfl⟩

set_option maxHeartbeats 4000000 in
theorem refTries_some {b off cap : Nat} {l : List Cl} {w : World} (n : Int) (hb : b < w.heap.size) (hc : ∀ i (hi : i < l.length), El clE9 w b (off + i * 10) l[i]) (hl : l.length ≤ 1000) :
    Calls Try.prog 18 #[.slice (some ⟨b, off, none⟩) l.length cap, .int .i64 n] w fun e w' => ∃ v, e = .returned v ∧ OwnI w' w.heap.size v (pkL (triB n) 0 l) ∧ Below w.heap.size w w' := by
  obtain ⟨p, hp⟩ : ∃ p, p = triB n := ⟨_, rfl⟩
  rw [← hp]
  have HPd : Hid (∀ c, p c = hasB (triS c) n) := fun c => by rw [hp]; rfl
  clear hp
  have HC : Hid (∀ i (hi : i < l.length), ∀ W, Below w.heap.size w W → Ten W b (off + i * 10) l[i]) := fun i hi W hW => ((hc i hi).below hW hb).ten
  clear hc
  go_enter Try.func18, Try.ntmps18
  go_wp2_with fail
  go_loopw [5, 6] (fun lv z wr => ∃ q : Nat, q ≤ l.length ∧ z = .int .i64 q ∧ OwnI wr w.heap.size lv (pkL p 0 (l.take q)) ∧ Below w.heap.size w wr) (fun _ z _ => l.length - (intOf z).toNat)
  case atStart => exact ⟨0, Nat.zero_le _, rfl, OwnI.nil _ _, Below.refl _ _⟩
  case round =>
    obtain ⟨q, hq, rfl, ho, hB⟩ := hrel
    have HBL : Hid (Below w.heap.size w wr) := hB
    obtain ⟨la, lc, hlv⟩ := ho.shape
    have HLn : Hid ((pkL p 0 (l.take q)).length ≤ 1000) := by
      show _ ≤ _
      have := pkL_len p (l.take q) 0
      rw [List.length_take] at this
      omega
    obtain ⟨len5, hlen5⟩ : ∃ m, m = (pkL p 0 (l.take q)).length := ⟨_, rfl⟩
    rw [← hlen5] at hlv
    clear hlen5
    subst hlv
    have HO : Hid (OwnI wr w.heap.size (.slice la len5 lc) (pkL p 0 (l.take q))) := ho
    by_cases hql : q < l.length
    · have hql' : (q : Int) < (l.length : Int) := by omega
      obtain ⟨c0, c1, c2, c3, c4, c5, c6, c7, c8, c9⟩ := HC.out q hql wr hB
      have HCq : Hid (∀ W, Below w.heap.size w W → Ten W b (off + q * 10) l[q]) := HC.out q hql
      have HT : Hid (pkL p 0 (l.take (q + 1)) = pkL p 0 (l.take q) ++ (if p l[q] = true then [(q : Int)] else [])) := pkL_take p l q hql
      clear hB ho
      generalize l[q] = c at *
      have HIn : Hid (∀ W x, Calls Try.prog 41 #[.agg #[.int .i64 c.k, .int .i64 c.tf, .int .i64 c.tt, .int .i64 c.hf, .int .i64 c.ht, .int .i64 c.fi, .int .i64 c.t0, .int .i64 c.t1, .int .i64 c.t2, .bool c.t3], .int .i64 1, .int .i64 x] W fun e w' => e = .returned (.bool (hasB (triS c) x)) ∧ Below W.heap.size W w') := fun W x => in_any c 1 x W
      have HYes : Hid (∀ w1, p c = true → Below wr.heap.size wr w1 → pkL p 0 (l.take (q + 1)) = pkL p 0 (l.take q) ++ [(q : Int)] ∧ OwnI (w1.alloc (.cells #[.int .i64 (q : Int)] 3)) w.heap.size (.slice la len5 lc) (pkL p 0 (l.take q)) ∧ Below w.heap.size w (w1.alloc (.cells #[.int .i64 (q : Int)] 3))) := fun w1 hp h1 => ⟨by rw [HT.out, if_pos hp], HO.out.later (bbox h1 _), bstep HBL.out (bbox h1 _)⟩
      have HNo : Hid (∀ w1, p c = false → Below wr.heap.size wr w1 → OwnI w1 w.heap.size (.slice la len5 lc) (pkL p 0 (l.take (q + 1))) ∧ Below w.heap.size w w1) := fun w1 hp h1 => ⟨by rw [HT.out, if_neg (by rw [hp]; decide), List.append_nil]; exact HO.out.later h1, bstep HBL.out h1⟩
      go_wp2_with fail
      refine (HIn.out _ _).mono ?_
      rintro e w1 ⟨rfl, hb1⟩
      have HB1 : Hid (Below wr.heap.size wr w1) := hb1
      clear hb1 c0 c1 c2 c3 c4 c5 c6 c7 c8 c9
      cases hh : hasB (triS c) n with
      | true =>
        obtain ⟨y1, y2, y3⟩ := HYes.out w1 (by rw [HPd.out]; simp [*]) HB1.out
        have HY1 : Hid (pkL p 0 (l.take (q + 1)) = pkL p 0 (l.take q) ++ [(q : Int)]) := y1
        have HO4 : Hid (OwnI (w1.alloc (.cells #[.int .i64 (q : Int)] 3)) w.heap.size (.slice la len5 lc) (pkL p 0 (l.take q))) := y2
        have HB4 : Hid (Below w.heap.size w (w1.alloc (.cells #[.int .i64 (q : Int)] 3))) := y3
        have HV4 : Hid (Src Try.prog 1 38 (.slice (some ⟨w1.heap.size, 0, none⟩) 1 1) 1 [.int .i64 (q : Int)] (w1.alloc (.cells #[.int .i64 (q : Int)] 3))) := one_int w1 _ _ rfl
        clear y1 y2 y3
        go_wp2_with (at_builtin; go_must (refine wpList_append_int rfl (.tmp 19) (.tmp 21) rfl w.heap.size rfl rfl HO4.out HV4.out (by have := HLn.out; omega) HB4.out.size ?_; intro v5 w5 ho5 hg5))
        go_roundw
        case rel => exact ⟨q + 1, by omega, by go_num, by rw [HY1.out]; exact ho5, HB4.out.trans (grown_belowI HO4.out hg5 (Nat.le_refl _) HB4.out.size)⟩
        case measure => simp [intOf]; omega
      | false =>
        have HN : Hid (OwnI w1 w.heap.size (.slice la len5 lc) (pkL p 0 (l.take (q + 1))) ∧ Below w.heap.size w w1) := HNo.out w1 (by rw [HPd.out]; simp [*]) HB1.out
        go_wp2_with fail
        go_roundw
        case rel => exact ⟨q + 1, by omega, by go_num, HN.out.1, HN.out.2⟩
        case measure => simp [intOf]; omega
    · have hql' : ¬ (q : Int) < (l.length : Int) := by omega
      have HE : Hid (pkL p 0 (l.take q) = pkL p 0 l) := by show _ = _; rw [List.take_of_length_le (by omega)]
      clear ho hB
      go_wp2
      go_ret
      exact ⟨_, rfl, by rw [← HE.out]; exact HO.out, HBL.out⟩

theorem refTries_any {v : Value} {l : List Cl} {w : World} (h : Es clE9 w v l) (hl : l.length ≤ 1000) (n : Int) :
    Calls Try.prog 18 #[v, .int .i64 n] w fun e w' => ∃ v, e = .returned v ∧ OwnI w' w.heap.size v (pkL (triB n) 0 l) ∧ Below w.heap.size w w' := by
  by_cases hne : l = []
  · subst hne
    obtain ⟨a, c, rfl, _, _⟩ := h.shape
    refine (refTries_none n a c w).mono ?_
    rintro e w' ⟨rfl, rfl⟩
    exact ⟨_, rfl, OwnI.nil _ _, Below.refl _ _⟩
  · obtain ⟨b, off, cap, rfl, h1, h2, hb, hc⟩ := h.parts hne
    exact refTries_some n hb hc hl

theorem refFinals_none (n k : Int) (a : Option Addr) (cap : Nat) (w : World) :
    Calls Try.prog 25 #[.slice a 0 cap, .int .i64 n, .int .i64 k] w fun e w' => e = .returned (.slice none 0 0) ∧ w' = w := by
  go_enter Try.func25, Try.ntmps25
  go_wp2
  refine wp_loop_rounds 1 ?_; rw [rounds_succ]
  go_wp2
  go_ret
  exact ⟨rfl, rfl⟩

set_option maxHeartbeats 4000000 in
theorem refFinals_some {b off cap : Nat} {l : List Cl} {w : World} (n k : Int) (hb : b < w.heap.size) (hc : ∀ i (hi : i < l.length), El clE9 w b (off + i * 10) l[i]) (hl : l.length ≤ 1000) :
    Calls Try.prog 25 #[.slice (some ⟨b, off, none⟩) l.length cap, .int .i64 n, .int .i64 k] w fun e w' => ∃ v, e = .returned v ∧ OwnI w' w.heap.size v (pkL (finB n k) 0 l) ∧ Below w.heap.size w w' := by
  obtain ⟨p, hp⟩ : ∃ p, p = finB n k := ⟨_, rfl⟩
  rw [← hp]
  have HPd : Hid (∀ c, p c = (decide (c.k = 3) && hasB (triS c) n && !hasB (triS c) k)) := fun c => by rw [hp]; rfl
  clear hp
  have HC : Hid (∀ i (hi : i < l.length), ∀ W, Below w.heap.size w W → Ten W b (off + i * 10) l[i]) := fun i hi W hW => ((hc i hi).below hW hb).ten
  clear hc
  go_enter Try.func25, Try.ntmps25
  go_wp2_with fail
  go_loopw [7, 8] (fun lv z wr => ∃ q : Nat, q ≤ l.length ∧ z = .int .i64 q ∧ OwnI wr w.heap.size lv (pkL p 0 (l.take q)) ∧ Below w.heap.size w wr) (fun _ z _ => l.length - (intOf z).toNat)
  case atStart => exact ⟨0, Nat.zero_le _, rfl, OwnI.nil _ _, Below.refl _ _⟩
  case round =>
    obtain ⟨q, hq, rfl, ho, hB⟩ := hrel
    have HBL : Hid (Below w.heap.size w wr) := hB
    obtain ⟨la, lc, hlv⟩ := ho.shape
    have HLn : Hid ((pkL p 0 (l.take q)).length ≤ 1000) := by
      show _ ≤ _
      have := pkL_len p (l.take q) 0
      rw [List.length_take] at this
      omega
    obtain ⟨len5, hlen5⟩ : ∃ m, m = (pkL p 0 (l.take q)).length := ⟨_, rfl⟩
    rw [← hlen5] at hlv
    clear hlen5
    subst hlv
    have HO : Hid (OwnI wr w.heap.size (.slice la len5 lc) (pkL p 0 (l.take q))) := ho
    by_cases hql : q < l.length
    · have hql' : (q : Int) < (l.length : Int) := by omega
      obtain ⟨c0, c1, c2, c3, c4, c5, c6, c7, c8, c9⟩ := HC.out q hql wr hB
      have HCq : Hid (∀ W, Below w.heap.size w W → Ten W b (off + q * 10) l[q]) := HC.out q hql
      have HT : Hid (pkL p 0 (l.take (q + 1)) = pkL p 0 (l.take q) ++ (if p l[q] = true then [(q : Int)] else [])) := pkL_take p l q hql
      clear hB ho
      generalize l[q] = c at *
      have HIn : Hid (∀ W x, Calls Try.prog 41 #[.agg #[.int .i64 c.k, .int .i64 c.tf, .int .i64 c.tt, .int .i64 c.hf, .int .i64 c.ht, .int .i64 c.fi, .int .i64 c.t0, .int .i64 c.t1, .int .i64 c.t2, .bool c.t3], .int .i64 1, .int .i64 x] W fun e w' => e = .returned (.bool (hasB (triS c) x)) ∧ Below W.heap.size W w') := fun W x => in_any c 1 x W
      have HYes : Hid (∀ w1, p c = true → Below wr.heap.size wr w1 → pkL p 0 (l.take (q + 1)) = pkL p 0 (l.take q) ++ [(q : Int)] ∧ OwnI (w1.alloc (.cells #[.int .i64 (q : Int)] 3)) w.heap.size (.slice la len5 lc) (pkL p 0 (l.take q)) ∧ Below w.heap.size w (w1.alloc (.cells #[.int .i64 (q : Int)] 3))) := fun w1 hp h1 => ⟨by rw [HT.out, if_pos hp], HO.out.later (bbox h1 _), bstep HBL.out (bbox h1 _)⟩
      have HNo : Hid (∀ w1, p c = false → Below wr.heap.size wr w1 → OwnI w1 w.heap.size (.slice la len5 lc) (pkL p 0 (l.take (q + 1))) ∧ Below w.heap.size w w1) := fun w1 hp h1 => ⟨by rw [HT.out, if_neg (by rw [hp]; decide), List.append_nil]; exact HO.out.later h1, bstep HBL.out h1⟩
      by_cases hk : c.k = 3
      · have hk' : (c.k == 3) = true := by rw [hk]; rfl
        obtain ⟨ck, hck⟩ : ∃ z, z = c.k := ⟨_, rfl⟩
        obtain ⟨k0, tf, tt, hf, ht, fi, t0, t1, t2, t3⟩ := c
        simp only at *
        subst hk
        go_wp2_with fail
        refine (HIn.out _ _).mono ?_
        rintro e w1 ⟨rfl, hb1⟩
        have HB1 : Hid (Below wr.heap.size wr w1) := hb1
        clear c0 c1 c2 c3 c4 c5 c6 c7 c8 c9
        obtain ⟨c0, c1, c2, c3, c4, c5, c6, c7, c8, c9⟩ := HCq.out w1 (bstep HBL.out hb1)
        simp only at c0 c1 c2 c3 c4 c5 c6 c7 c8 c9
        clear hb1
        cases hh : hasB (triS ⟨3, tf, tt, hf, ht, fi, t0, t1, t2, t3⟩) n with
        | true =>
          go_wp2_with fail
          refine (HIn.out _ _).mono ?_
          rintro e w2 ⟨rfl, hb2⟩
          have HB2 : Hid (Below wr.heap.size wr w2) := bstep HB1.out hb2
          clear hb2 c0 c1 c2 c3 c4 c5 c6 c7 c8 c9
          cases h2 : hasB (triS ⟨3, tf, tt, hf, ht, fi, t0, t1, t2, t3⟩) k with
          | false =>
            obtain ⟨y1, y2, y3⟩ := HYes.out w2 (by rw [HPd.out]; simp [*]) HB2.out
            have HY1 : Hid (pkL p 0 (l.take (q + 1)) = pkL p 0 (l.take q) ++ [(q : Int)]) := y1
            have HO4 : Hid (OwnI (w2.alloc (.cells #[.int .i64 (q : Int)] 3)) w.heap.size (.slice la len5 lc) (pkL p 0 (l.take q))) := y2
            have HB4 : Hid (Below w.heap.size w (w2.alloc (.cells #[.int .i64 (q : Int)] 3))) := y3
            have HV4 : Hid (Src Try.prog 1 38 (.slice (some ⟨w2.heap.size, 0, none⟩) 1 1) 1 [.int .i64 (q : Int)] (w2.alloc (.cells #[.int .i64 (q : Int)] 3))) := one_int w2 _ _ rfl
            clear y1 y2 y3
            go_wp2_with (at_builtin; go_must (refine wpList_append_int rfl (.tmp 38) (.tmp 40) rfl w.heap.size rfl rfl HO4.out HV4.out (by have := HLn.out; omega) HB4.out.size ?_; intro v5 w5 ho5 hg5))
            go_roundw
            case rel => exact ⟨q + 1, by omega, by go_num, by rw [HY1.out]; exact ho5, HB4.out.trans (grown_belowI HO4.out hg5 (Nat.le_refl _) HB4.out.size)⟩
            case measure => simp [intOf]; omega
          | true =>
            have HN : Hid (OwnI w2 w.heap.size (.slice la len5 lc) (pkL p 0 (l.take (q + 1))) ∧ Below w.heap.size w w2) := HNo.out w2 (by rw [HPd.out]; simp [*]) HB2.out
            go_wp2_with fail
            go_roundw
            case rel => exact ⟨q + 1, by omega, by go_num, HN.out.1, HN.out.2⟩
            case measure => simp [intOf]; omega
        | false =>
          have HN : Hid (OwnI w1 w.heap.size (.slice la len5 lc) (pkL p 0 (l.take (q + 1))) ∧ Below w.heap.size w w1) := HNo.out w1 (by rw [HPd.out]; simp [*]) HB1.out
          go_wp2_with fail
          go_roundw
          case rel => exact ⟨q + 1, by omega, by go_num, HN.out.1, HN.out.2⟩
          case measure => simp [intOf]; omega
      · have hk' : (c.k == 3) = false := by rw [beq_eq_false_iff_ne]; exact hk
        have HN : Hid (OwnI wr w.heap.size (.slice la len5 lc) (pkL p 0 (l.take (q + 1))) ∧ Below w.heap.size w wr) := HNo.out wr (by rw [HPd.out]; simp [*]) (Below.refl _ _)
        go_wp2_with fail
        go_roundw
        case rel => exact ⟨q + 1, by omega, by go_num, HN.out.1, HN.out.2⟩
        case measure => simp [intOf]; omega
    · have hql' : ¬ (q : Int) < (l.length : Int) := by omega
      have HE : Hid (pkL p 0 (l.take q) = pkL p 0 l) := by show _ = _; rw [List.take_of_length_le (by omega)]
      clear ho hB
      go_wp2
      go_ret
      exact ⟨_, rfl, by rw [← HE.out]; exact HO.out, HBL.out⟩

theorem refFinals_any {v : Value} {l : List Cl} {w : World} (h : Es clE9 w v l) (hl : l.length ≤ 1000) (n k : Int) :
    Calls Try.prog 25 #[v, .int .i64 n, .int .i64 k] w fun e w' => ∃ v, e = .returned v ∧ OwnI w' w.heap.size v (pkL (finB n k) 0 l) ∧ Below w.heap.size w w' := by
  by_cases hne : l = []
  · subst hne
    obtain ⟨a, c, rfl, _, _⟩ := h.shape
    refine (refFinals_none n k a c w).mono ?_
    rintro e w' ⟨rfl, rfl⟩
    exact ⟨_, rfl, OwnI.nil _ _, Below.refl _ _⟩
  · obtain ⟨b, off, cap, rfl, h1, h2, hb, hc⟩ := h.parts hne
    exact refFinals_some n k hb hc hl

end Go.Proofs.Ytbfcdcdeohikpaa
