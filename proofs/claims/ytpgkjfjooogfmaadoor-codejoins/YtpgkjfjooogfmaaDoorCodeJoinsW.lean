
/- CodeJoins: the walk. -/
import Derived.Test.YtpgkjfjooogfmaaDoorCodeOne7
import Derived.Test.YtpgkjfjooogfmaaDoorWakes7
import Derived.Test.YtpgkjfjooogfmaaDoorOpen7
import Derived.Test.YtpgkjfjooogfmaaDoorSame
namespace Go.Proofs.YtpgkjfjooogfmaaDoor
set_option linter.unusedVariables false
set_option linter.unusedSimpArgs false
open Go.RowKit

/-- An instruction with a place, as the statement asks for it. -/
def plB (op : Int) : Bool := (decide (34 ≤ op) && decide (op ≤ 42)) || op == 71
theorem plB_op (op : Int) : plB op = decide (opK op = 5) := by
  rw [Bool.eq_iff_iff, decide_eq_true_iff, opK_place]
  unfold plB
  simp
theorem no_place {L : List Ins} (h : L.any (fun x => plB x.1) = false) : ∀ x ∈ L, opK x.1 ≠ 5 := by
  intro x hx h5
  have := List.any_eq_false.1 h x hx
  rw [plB_op, decide_eq_true h5] at this
  exact this rfl
theorem pl_succ {L : List Ins} {q : Nat} (hq : q < L.length) (h : (L.take q).any (fun x => plB x.1) = false) (hx : plB L[q].1 = false) : (L.take (q + 1)).any (fun x => plB x.1) = false := by
  rw [List.take_succ_eq_append_getElem hq, List.any_append, h]
  simpa using hx

set_option maxHeartbeats 4000000 in
set_option maxRecDepth 100000 in
theorem codeJoins_walk (v : Value) (l : List Ins) (v2 : Value) (m : List Ins) (w : World) (hW : Wd w) (hv : Xs w v l) (hv2 : Xs w v2 m) :
    Calls Tryd.prog 6 #[v, v2] w fun e w' => e = .returned (.bool true) ∧ Below w.heap.size w w' := by
  have HV : Hid (∀ W, Below w.heap.size w W → Xs W v l) := fun W hW => hv.later hW
  have HV2 : Hid (∀ W, Below w.heap.size w W → Xs W v2 m) := fun W hW => hv2.later hW
  have HW : Hid (∀ W, Below w.heap.size w W → Wd W) := fun W h => hW.later h
  have HK : Hid (Wd w) := hW
  obtain ⟨a, c, rfl, hc1, hc2⟩ := hv.shape
  obtain ⟨a2, c2, rfl, hd1, hd2⟩ := hv2.shape
  unfold maxLen at hc2 hd2
  clear hv hv2 hW
  by_cases hl : 80 < l.length
  · go_enter Tryd.func6, Tryd.ntmps6
    go_wp2_with fail
    refine (wakes7_any w HK.out).mono ?_
    rintro e w1 ⟨rfl, hb1⟩
    go_wp2_with fail
    go_ret
    exact ⟨rfl, hb1⟩
  · by_cases hm : 80 < m.length
    · go_enter Tryd.func6, Tryd.ntmps6
      go_wp2_with fail
      refine (wakes7_any w HK.out).mono ?_
      rintro e w1 ⟨rfl, hb1⟩
      go_wp2_with fail
      go_ret
      exact ⟨rfl, hb1⟩
    · go_enter Tryd.func6, Tryd.ntmps6
      go_wp2_with fail
      refine (wakes7_any w HK.out).mono ?_
      rintro e w1 ⟨rfl, hb1⟩
      have hs1 := hb1.size
      have hb2 : Below w1.heap.size w1 (w1.alloc (Obj.cells #[] 45)) := (Below.refl _ _).alloc (Nat.le_refl _) _
      have HS2 : Hid (Xs (w1.alloc (Obj.cells #[] 45)) (.slice a l.length c) l) := HV.out _ (hb1.trans (hb2.mono hs1))
      have HO2 : Hid (OwnX (w1.alloc (Obj.cells #[] 45)) w1.heap.size (.slice (some ⟨w1.heap.size, 0, none⟩) 0 0) []) := OwnX.empty w1 w1.heap.size (Nat.le_refl _)
      have HB1 : Hid (Below w.heap.size w w1) := hb1
      clear hb1 hb2
      go_wp2_with (at_builtin; go_must (refine wpList_append_xs rfl _ _ rfl w1.heap.size rfl rfl HO2.out HS2.out (by simp; omega) (by simp) ?_))
      intro v3 w3 ho3 hg3
      have hb3 : Below w1.heap.size w1 w3 := ((Below.refl _ _).alloc (Nat.le_refl _) _).grown hg3 (by simp) (fun k hk => (HO2.out.block k hk).1)
      have hB3 := HB1.out.trans (hb3.mono hs1)
      have HO3 : Hid (OwnX w3 w1.heap.size v3 l) := ho3
      have HS3 : Hid (Xs w3 (.slice a2 m.length c2) m) := HV2.out _ hB3
      have HB3 : Hid (Below w1.heap.size w1 w3) := hb3
      have hs3 := hb3.size
      clear hb3 hB3 ho3 hg3 HO2 HS2
      go_wp2_with (at_builtin; go_must (refine wpList_append_xs rfl _ _ rfl w1.heap.size rfl rfl HO3.out HS3.out (by omega) (by omega) ?_))
      intro v4 w4 ho4 hg4
      have hb4 : Below w1.heap.size w1 w4 := HB3.out.trans ⟨hg4.os, hg4.tape, hg4.output, hg4.size, fun k hk => hg4.block k (by omega) (fun e => by have := (HO3.out.block k e.symm).1; omega)⟩
      have HB4 : Hid (Below w.heap.size w w4) := HB1.out.trans (hb4.mono hs1)
      have hX4 := ho4.xs
      have HX4 : Hid (Xs w4 v4 (l ++ m)) := hX4
      obtain ⟨va, vc, rfl, hv1, hv2⟩ := hX4.shape
      unfold maxLen at hv2
      have HEnd : Hid ((l ++ m).any (fun x => plB x.1) = false → ∀ x ∈ l ++ m, opK x.1 ≠ 5) := no_place
      have HLl : Hid ((l ++ m).length ≤ 160) := by show _ ≤ _; simp; omega
      have HJoin : Hid ((∀ x ∈ l ++ m, opK x.1 ≠ 5) → (encE (l ++ m) = 0 ↔ encE l = 0 ∧ encE m = 0) ∧ encTo (l ++ m) (l ++ m).length = encTo l l.length ++ encTo m m.length) := fun h => ⟨encE_join l m h (by omega) (by omega), encTo_join l m h⟩
      clear hb4 ho4 hg4 HO3 HS3 HB3 HB1 hs3 hs1 hX4
      generalize hLL : l ++ m = L at *
      clear hLL
      have hL := HLl.out
      go_wp2_with fail
      go_loopw [6, 30] (fun _ z wr => ∃ q : Nat, q ≤ L.length ∧ z = .int .i64 (q : Int) ∧ wr = w4 ∧ (L.take q).any (fun x => plB x.1) = false) (fun _ z _ => L.length - (intOf z).toNat)
      case atStart => exact ⟨0, Nat.zero_le _, rfl, rfl, by simp⟩
      case round =>
        obtain ⟨q, hq, rfl, rfl, hany⟩ := hrel
        have HAn : Hid ((L.take q).any (fun x => plB x.1) = false) := hany
        clear hany
        by_cases hql : q < L.length
        · obtain ⟨b, off, cap, e, _, _, hb, hsix⟩ := HX4.out.parts (by intro e; subst e; simp at hql)
          simp only [Value.slice.injEq, true_and] at e
          obtain ⟨rfl, rfl⟩ := e
          obtain ⟨c0, -⟩ := hsix q hql
          have HNext : Hid (plB L[q].1 = false → (L.take (q + 1)).any (fun x => plB x.1) = false) := pl_succ hql HAn.out
          generalize L[q].1 = op at *
          have HP : Hid (plB op = ((decide (34 ≤ op) && decide (op ≤ 42)) || op == 71)) := rfl
          clear hsix
          cases hp : plB op with
          | false =>
            have HN : Hid ((L.take (q + 1)).any (fun x => plB x.1) = false) := HNext.out hp
            rw [HP.out] at hp
            simp only [Bool.or_eq_false_iff, Bool.and_eq_false_iff, decide_eq_false_iff_not] at hp
            obtain ⟨hp1, hp2⟩ := hp
            by_cases h34 : 34 ≤ op
            · have h42 : ¬ op ≤ 42 := by rcases hp1 with h | h; exact absurd h34 h; exact h
              clear hp1
              go_wp2_with fail
              go_roundw
              case rel => exact ⟨q + 1, by omega, by go_num, by trivial, HN.out⟩
              case measure => simp [intOf]; omega
            · clear hp1
              go_wp2_with fail
              go_roundw
              case rel => exact ⟨q + 1, by omega, by go_num, by trivial, HN.out⟩
              case measure => simp [intOf]; omega
          | true =>
            rw [HP.out] at hp
            by_cases h71 : op = 71
            · subst h71
              go_wp2_with fail
              go_ret
              exact ⟨rfl, HB4.out⟩
            · have h71' : (op == 71) = false := by rw [beq_eq_false_iff_ne]; exact h71
              rw [h71'] at hp
              simp only [Bool.or_false, Bool.and_eq_true, decide_eq_true_eq] at hp
              obtain ⟨h34, h42⟩ := hp
              go_wp2_with fail
              go_ret
              exact ⟨rfl, HB4.out⟩
        · have HAll : Hid ((L.any (fun x => plB x.1)) = false) := by
            show _ = _
            have := HAn.out
            rwa [List.take_of_length_le (by omega)] at this
          have HJ : Hid ((encE L = 0 ↔ encE l = 0 ∧ encE m = 0) ∧ encTo L L.length = encTo l l.length ++ encTo m m.length) := HJoin.out (HEnd.out HAll.out)
          have HQ1 := encode_any (HV.out _ HB4.out) (HW.out _ HB4.out)
          clear HEnd HJoin HAn HAll
          go_wp2_with fail
          refine Calls.mono HQ1 ?_
          rintro e w5 hE1
          have hb5 := hE1.below
          obtain ⟨b1, rfl, hb1⟩ := hE1.uni
          have HB5 : Hid (Below w.heap.size w w5) := HB4.out.trans (hb5.mono HB4.out.size)
          have HX5 : Hid (Xs w5 (.slice va L.length vc) L) := HX4.out.later hb5
          have HA5 : Hid (Bs w5 b1 (encL l)) := hb1
          have HQ2 := encode_any (HV2.out _ HB5.out) (HW.out _ HB5.out)
          clear HQ1 hE1 hb5 hb1 HX4
          go_wp2_with fail
          refine Calls.mono HQ2 ?_
          rintro e w6 hE2
          have hb6 := hE2.below
          obtain ⟨b2, rfl, hb2⟩ := hE2.uni
          have HB6 : Hid (Below w.heap.size w w6) := HB5.out.trans (hb6.mono HB5.out.size)
          have HX6 : Hid (Xs w6 (.slice va L.length vc) L) := HX5.out.later hb6
          have HA6 : Hid (Bs w6 b1 (encL l)) := HA5.out.later hb6
          have HM6 : Hid (Bs w6 b2 (encL m)) := hb2
          have HQ3 := encode_any HX6.out (HW.out _ HB6.out)
          clear HQ2 hE2 hb6 hb2 HX5 HA5
          go_wp2_with fail
          refine Calls.mono HQ3 ?_
          rintro e w7 hE3
          have hb7 := hE3.below
          obtain ⟨b3, rfl, hb3⟩ := hE3.uni
          have HB7 : Hid (Below w.heap.size w w7) := HB6.out.trans (hb7.mono HB6.out.size)
          have HA7 : Hid (Bs w7 b1 (encL l)) := HA6.out.later hb7
          have HM7 : Hid (Bs w7 b2 (encL m)) := HM6.out.later hb7
          have HC7 : Hid (Bs w7 b3 (encL L)) := hb3
          have HC7b : Hid (∀ W, Below w7.heap.size w7 W → Bs W b3 (encL L)) := fun W hW => HC7.out.later hW
          clear HQ3 hE3 hb7 hb3 HX6 HA6 HM6
          by_cases hz : encE l = 0 ∧ encE m = 0
          · obtain ⟨hz1, hz2⟩ := hz
            have hz3 : encE L = 0 := HJ.out.1.2 ⟨hz1, hz2⟩
            have HCL : Hid (encL L = encL l ++ encL m) := by
              show _ = _
              unfold encL
              rw [if_pos hz1, if_pos hz2, if_pos hz3]
              exact HJ.out.2
            have hl1 := encL_len l
            have hl2 := encL_len m
            rw [hz1, hz2, hz3]
            have hb8 : Below w7.heap.size w7 (w7.alloc (Obj.cells #[] 5)) := (Below.refl _ _).alloc (Nat.le_refl _) _
            have HO8 : Hid (Own (w7.alloc (Obj.cells #[] 5)) w7.heap.size 5 (.slice (some ⟨w7.heap.size, 0, none⟩) 0 0) []) := Own.lit w7 w7.heap.size 5 [] #[] 0 (Nat.le_refl _) rfl rfl (by simp [maxLen])
            have HA8 : Hid (Bs (w7.alloc (Obj.cells #[] 5)) b1 (encL l)) := HA7.out.later hb8
            clear hz1 hz2 hz3 HJ
            go_wp2_with (at_builtin; go_must (refine wpList_append_bs rfl _ _ _ rfl w7.heap.size 5 Tryd.underlying30 Tryd.infoU8 rfl rfl HO8.out HA8.out (by simp; omega) (by simp) ?_))
            intro v9 w9 ho9 hg9
            obtain ⟨_, hb9, _, hs9⟩ := copied ho9 hg9
            have HO9 : Hid (Own w9 w7.heap.size 5 v9 (encL l)) := ho9
            have HM9 : Hid (Bs w9 b2 (encL m)) := HM7.out.later hb9
            have HC9 : Hid (Bs w9 b3 (encL L)) := HC7.out.later hb9
            have HB9 : Hid (Below w7.heap.size w7 w9) := hb9
            clear ho9 hg9 hb9 HO8 HA8 hb8 HA7 HM7 HC7
            go_wp2_with (at_builtin; go_must (refine wpList_append_bs rfl _ _ _ rfl w7.heap.size 5 Tryd.underlying30 Tryd.infoU8 rfl rfl HO9.out HM9.out (by omega) (by omega) ?_))
            intro v10 w10 ho10 hg10
            have hb10 : Below w7.heap.size w9 w10 := ⟨hg10.os, hg10.tape, hg10.output, hg10.size, fun k hk => hg10.block k (by omega) (fun e => by have := (HO9.out.block k e.symm).1; omega)⟩
            have hC10 : Bs w10 b3 (encL L) := HC7b.out _ (HB9.out.trans hb10)
            have HB10 : Hid (Below w.heap.size w w10) := HB7.out.trans ((HB9.out.trans hb10).mono HB7.out.size)
            have H1 : Hid (Calls Tryd.prog 13 #[b3, v10] w10 fun e w' => e = .returned (.bool true) ∧ ∃ n, w' = w10.drewN n) := by
              have h10 := ho10.bs
              rw [← HCL.out] at h10
              have := same_any hC10 h10
              rwa [decide_eq_true rfl] at this
            clear ho10 hg10 hb10 hC10
            go_wp2_with fail
            refine Calls.mono H1.out ?_
            rintro e w11 ⟨rfl, n1, rfl⟩
            go_wp2_with fail
            go_ret
            exact ⟨rfl, Below.drewN HB10.out _⟩
          · have hz3 : encE L ≠ 0 := fun h => hz (HJ.out.1.1 h)
            have hn3 : (encE L != 0) = true := by rw [bne_iff_ne]; exact hz3
            have hb3n : encL L = [] := by unfold encL; rw [if_neg hz3]
            have hbs := HC7.out
            rw [hb3n] at hbs
            obtain ⟨a3, c3, rfl, _⟩ := hbs
            have hor : (encE l != 0) = true ∨ ((encE l != 0) = false ∧ (encE m != 0) = true) := by
              by_cases h1 : encE l = 0
              · right
                exact ⟨by rw [bne_eq_false_iff_eq]; exact h1, by rw [bne_iff_ne]; intro h2; exact hz ⟨h1, h2⟩⟩
              · left; rw [bne_iff_ne]; exact h1
            clear hz hz3 hb3n HC7 HJ
            rcases hor with h1 | ⟨h1, h2⟩
            · go_wp2_with fail
              go_ret
              exact ⟨rfl, HB7.out⟩
            · go_wp2_with fail
              go_ret
              exact ⟨rfl, HB7.out⟩

end Go.Proofs.YtpgkjfjooogfmaaDoor
