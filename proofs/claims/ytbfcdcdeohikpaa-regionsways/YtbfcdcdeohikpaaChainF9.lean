
/- Chain. -/
import Derived.Test.YtbfcdcdeohikpaaCompact9
namespace Go.Proofs.Ytbfcdcdeohikpaa
set_option linter.unusedVariables false
set_option linter.unusedSimpArgs false
open Go.RowKit
attribute [local go_sem ↓] Go.wp_at_zero Go.wp_at_succ

theorem Try.infoRegion : (Try.prog.info? 46).map (fun i => (i.zero, i.size, i.bytes)) = some (some (.agg #[.int .i64 0, .int .i64 0]), 2, 16) := by kernel_rfl

theorem compact_small (a : Option Addr) (n cap : Nat) (hn : n < 2) (f : Value) (w : World) :
    Calls Try.prog 38 #[.slice a n cap, f] w fun e w' => e = .returned (.slice a n cap) ∧ w' = w := by
  have h : (n : Int) < 2 := by omega
  go_enter Try.func38, Try.ntmps38
  go_wp2
  go_ret
  exact ⟨rfl, rfl⟩
theorem dd_small {L : List Lk} (h : L.length < 2) : dd L = L := by
  match L, h with
  | [], _ => rfl
  | [x], _ => rfl
theorem compact_any {v : Value} {L : List Lk} {w : World} {base : Nat} (h : OwnE lkE w base 65 v L) (hl : L.length ≤ 19) :
    Calls Try.prog 38 #[v, .func (.func 39) #[] #[]] w fun e w' => ∃ v', e = .returned v' ∧ Es lkE w' v' (dd L) ∧ Below base w w' := by
  by_cases h2 : L.length < 2
  · obtain ⟨a, c, rfl, _, _⟩ := h.shape
    refine (compact_small a L.length c h2 _ w).mono ?_
    rintro e w' ⟨rfl, rfl⟩
    exact ⟨_, rfl, by rw [dd_small h2]; exact h.es, Below.refl _ _⟩
  · have hv : ∃ g cap, v = .slice (some ⟨g, 0, none⟩) L.length cap := by
      rcases h.2 with ⟨_, h0⟩ | ⟨g, cap, cur, hv, _⟩
      · omega
      · exact ⟨g, cap, hv⟩
    obtain ⟨g, cap, rfl⟩ := hv
    exact compact_some h (by omega) hl

/-- Links of right clauses have small numbers, and lie in order. -/
theorem link_small {m : Int} {l : List Cl} (hr : RightL m l) (hm : m ≤ 100000) (n : Int) : ∀ x ∈ linkL l n, SmL x := by
  intro x hx
  obtain ⟨k, hk, j, hj, rfl, hh⟩ := lkL_mem hx
  have h0 := hr.2 k hk
  rw [clAt_eq m l k hk] at h0
  obtain ⟨hg, _, _⟩ := cl_ok h0
  rw [rng_iff] at hg
  rw [has_iff] at hh
  have hb : 0 ≤ (spansL l[k])[j].1 ∧ (spansL l[k])[j].2 ≤ 1000000 := by
    rw [spans_bnd]
    unfold bnd
    split
    · show 0 ≤ l[k].tf ∧ l[k].tt ≤ 1000000; omega
    · split
      · show 0 ≤ l[k].hf ∧ l[k].ht ≤ 1000000; omega
      · split
        · rename_i h2
          have := hg.2.2.2.2.2.2.2.2.1 h2
          show 0 ≤ l[k].fi ∧ l[k].hf ≤ 1000000; omega
        · show (0 : Int) ≤ 0 ∧ (0 : Int) ≤ 1000000; omega
  unfold SmL
  exact ⟨hb.1, by simp only; omega, hb.2⟩
theorem link_ord {m : Int} {l : List Cl} (hr : RightL m l) (hm : m ≤ 100000) (n : Int) : InOrd (linkL l n) := by
  refine ⟨link_small hr hm n, fun q h => bysI_nest ?_⟩
  exact List.pairwise_iff_getElem.1 (hr.nested n) q (q + 1) (by omega) h (by omega)

set_option maxHeartbeats 4000000 in
theorem chain_any {v : Value} {l : List Cl} {w : World} {m : Int} (h : Es clE9 w v l) (hr : RightL m l) (hm : m ≤ 100000) (n : Int) :
    Calls Try.prog 13 #[v, .int .i64 n] w fun e w' => ∃ v', e = .returned v' ∧ OwnE spE w' w.heap.size 46 v' (chR l n) ∧ Below w.heap.size w w' := by
  have HLi : Hid (Calls Try.prog 35 #[v, .int .i64 n] w fun e w' => ∃ v, e = .returned v ∧ OwnE lkE w' w.heap.size 65 v (linkL l n) ∧ Below w.heap.size w w') := linksAt_any n h hr.1
  have hlen : (linkL l n).length ≤ 18 := by have := lkL_len n l 0; have := hr.1; unfold linkL; omega
  have HOr : Hid (InOrd (linkL l n)) := link_ord hr hm n
  have HDd : Hid (dd (linkL l n) = chL l n) := hr.dd n
  have HDl : Hid ((chL l n).length ≤ 18) := by
    show _ ≤ _
    rw [← hr.dd n]
    by_cases h0 : 1 ≤ (linkL l n).length
    · have := dd_length_lt (linkL l n) _ h0 (Nat.le_refl _)
      rw [List.take_length] at this
      omega
    · have : linkL l n = [] := List.eq_nil_of_length_eq_zero (by omega)
      rw [this]; simp [dd]
  have HLe : Hid ((linkL l n).length ≤ 18) := hlen
  clear h hr hlen
  go_enter Try.func13, Try.ntmps13
  go_wp2_with fail
  refine Calls.mono HLi.out ?_
  rintro e w1 ⟨v1, rfl, ho1, hb1⟩
  have HO1 : Hid (OwnE lkE w1 w.heap.size 65 v1 (linkL l n)) := ho1
  have HB1 : Hid (Below w.heap.size w w1) := hb1
  have HSo : Hid (Calls Try.prog 36 #[v1, .func (.func 37) #[] #[]] w1 fun e w' => e = .returned (.tuple #[]) ∧ Below w1.heap.size w1 w') := sort_any ho1.es (by have := HLe.out; omega) HOr.out
  clear ho1 hb1 HLi
  go_wp2_with fail
  refine Calls.mono HSo.out ?_
  rintro e w2 ⟨rfl, hb2⟩
  have HCp : Hid (Calls Try.prog 38 #[v1, .func (.func 39) #[] #[]] w2 fun e w' => ∃ v', e = .returned v' ∧ Es lkE w' v' (dd (linkL l n)) ∧ Below w.heap.size w2 w') := compact_any (HO1.out.later hb2) (by have := HLe.out; omega)
  have HB2 : Hid (Below w.heap.size w w2) := bstep HB1.out hb2
  clear hb2 HSo
  go_wp2_with fail
  refine Calls.mono HCp.out ?_
  rintro e w3 ⟨v3, rfl, he3, hb3⟩
  rw [HDd.out] at he3
  have HB3 : Hid (Below w.heap.size w w3) := HB2.out.trans hb3
  have HR : Hid (chR l n = (chL l n).map lkRg) := rfl
  generalize chL l n = D at *
  clear hb3 HCp
  by_cases hD : D = []
  · subst hD
    obtain ⟨a, c, rfl, _, _⟩ := he3.shape
    go_wp2_with fail
    refine wp_loop_rounds 1 ?_; rw [rounds_succ]
    go_wp2_with fail
    go_ret
    exact ⟨_, rfl, by rw [HR.out]; exact OwnE.nil _ _ _ _, HB3.out⟩
  · obtain ⟨b, off, cap, rfl, h1, h2, hb, hc⟩ := he3.parts hD
    unfold maxLen at h2
    have HC : Hid (∀ i (hi : i < D.length), ∀ W, Below w3.heap.size w3 W → Four9 W b (off + i * 4) D[i]) := fun i hi W hW => ((hc i hi).below hW hb).four
    clear hc he3
    go_wp2_with fail
    go_loopw [6, 18] (fun cv z wr => ∃ q : Nat, q ≤ D.length ∧ z = .int .i64 q ∧ OwnE spE wr w3.heap.size 46 cv ((D.take q).map lkRg) ∧ Below w3.heap.size w3 wr) (fun _ z _ => D.length - (intOf z).toNat)
    case atStart => exact ⟨0, Nat.zero_le _, rfl, OwnE.nil _ _ _ _, Below.refl _ _⟩
    case round =>
      obtain ⟨q, hq, rfl, ho, hB⟩ := hrel
      have HBL : Hid (Below w3.heap.size w3 wr) := hB
      have HOq : Hid (OwnE spE wr w3.heap.size 46 _ ((D.take q).map lkRg)) := ho
      by_cases hql : q < D.length
      · obtain ⟨c0, c1, c2, c3⟩ := HC.out q hql wr hB
        have HT : Hid ((D.take (q + 1)).map lkRg = (D.take q).map lkRg ++ [lkRg D[q]]) := by show _ = _; rw [List.take_succ_eq_append_getElem hql, List.map_append]; rfl
        generalize D[q] = x at *
        obtain ⟨w4, hw4⟩ : ∃ W, W = (wr.alloc (.cells #[.int .i64 x.1, .int .i64 x.2.1, .int .i64 x.2.2.1, .int .i64 x.2.2.2] 65)).alloc (.cells #[.int .i64 x.1, .int .i64 x.2.1] 46) := ⟨_, rfl⟩
        have HW4 : Hid (w4 = _) := hw4
        have hb4 : Below wr.heap.size wr w4 := by rw [hw4]; exact bbox (made_below _ _ _) _
        have HO4 : Hid (OwnE spE w4 w3.heap.size 46 _ ((D.take q).map lkRg)) := ho.later hb4
        have HB4 : Hid (Below w3.heap.size w3 w4) := bstep hB hb4
        have HV4 : Hid (Es spE w4 (.slice (some ⟨wr.heap.size + 1, 0, none⟩) 1 1) [lkRg x]) := by
          show Es _ _ _ _
          rw [hw4]
          have := (OwnE.lit spE (wr.alloc (.cells #[.int .i64 x.1, .int .i64 x.2.1, .int .i64 x.2.2.1, .int .i64 x.2.2.2] 65)) 0 46 [lkRg x] #[.int .i64 x.1, .int .i64 x.2.1] 1 (Nat.zero_le _) rfl rfl (by simp [maxLen])).es
          simpa using this
        have HL1 : Hid (((D.take q).map lkRg).length + [lkRg x].length ≤ maxLen) := by show _ ≤ _; have := HDl.out; simp only [List.length_map, List.length_take, List.length_cons, List.length_nil]; unfold maxLen; omega
        have HL2 : Hid (((((D.take q).map lkRg).length + [lkRg x].length) + (((D.take q).map lkRg).length + [lkRg x].length) / 4 + 192) * 16 ≤ 281474976710656) := by show _ ≤ _; have := HDl.out; simp only [List.length_map, List.length_take, List.length_cons, List.length_nil]; omega
        clear hw4 hb4 hB ho
        go_wp2_with (at_builtin; go_must (rw [← HW4.out]; refine wpList_append_es spE rfl (.tmp 22) (.tmp 25) 34 rfl w3.heap.size 46 _ 16 Try.underlying34 Try.infoRegion rfl rfl rfl HO4.out HV4.out HL1.out HL2.out HB4.out.size ?_; intro v5 w5 ho5 hg5))
        go_roundw
        case rel => exact ⟨q + 1, by omega, by go_num, by rw [HT.out]; exact ho5, HB4.out.trans (grown_belowE HO4.out hg5 (Nat.le_refl _) HB4.out.size)⟩
        case measure => simp [intOf]; omega
      · have HE : Hid ((D.take q).map lkRg = chR l n) := by show _ = _; rw [List.take_of_length_le (by omega), HR.out]
        clear ho hB
        go_wp2_with fail
        go_ret
        exact ⟨_, rfl, by rw [← HE.out]; exact HOq.out.mono HB3.out.size, HB3.out.trans (HBL.out.mono HB3.out.size)⟩

end Go.Proofs.Ytbfcdcdeohikpaa
