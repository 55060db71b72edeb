
/- slices.CompactFunc over links. -/
import Derived.Test.YtbfcdcdeohikpaaRows9
namespace Go.Proofs.Ytbfcdcdeohikpaa
set_option linter.unusedVariables false
set_option linter.unusedSimpArgs false
open Go.RowKit
attribute [local go_sem ↓] Go.wp_at_zero Go.wp_at_succ

theorem ecL_take_eq {α : Type} (E : Enc α) (l : List α) (k : Nat) (hk : k ≤ l.length) : (ecL E l).take (k * E.size) = ecL E (l.take k) := by
  have h : ecL E l = ecL E (l.take k) ++ ecL E (l.drop k) := by rw [← ecL_append, List.take_append_drop]
  have hl : (ecL E (l.take k)).length = k * E.size := by rw [ecL_length, List.length_take, Nat.min_eq_left hk]
  rw [h, ← hl, List.take_left']
  rfl
theorem below_row {base : Nat} (w : World) (g : Nat) (C : Array Value) (hg : base ≤ g) : Below base w (w.setRow g C) :=
  ⟨rfl, rfl, rfl, by simp, fun k hk => setRow_other w g k _ (by omega)⟩

theorem LRow.cleared {w : World} {base g cap : Nat} {A : List Lk} (h : LRow w base g cap A) (kk m c : Nat) (hk : kk + m = A.length) (hm : 0 < m) :
    ∃ w', (∀ ty, (Builtin.clear_ #[59] ty #[.slice (some ⟨g, kk * 4, none⟩) m c]).run Try.prog w = .ok (.tuple #[]) w') ∧ LRow w' base g cap (A.take kk) ∧ Below base w w' := by
  obtain ⟨cur, hA, hs, hn, hmm, hb, ht⟩ := h.at
  obtain ⟨i0, hi0, hz0, hz1, hz2⟩ := info_parts Try.infoLink
  obtain ⟨zs, hzs⟩ : ∃ zs, (Builtin.zeroCells (Value.agg #[.int .i64 0, .int .i64 0, .int .i64 0, .int .i64 0]).cells m).toList = zs := ⟨_, rfl⟩
  have hzl : zs.length = m * 4 := by
    rw [← hzs, Array.length_toList, size_zeroCells]
    rfl
  have hz1' : ∀ v ∈ zs, v.oneCell' = true := by rw [← hzs]; exact zero_link m
  have hcs : cur.toList.length = cap * 4 := by rw [Array.length_toList]; exact hs
  refine ⟨_, fun ty => run_clear_some w 59 ty 65 i0 _ m zs Try.underlying59 hi0 hz0 hzs hz1' hm g (kk * 4) c cur hA (by rw [hzl, hs]; omega), ?_, below_row w g _ hb⟩
  have hlt : (A.take kk).length = kk := by rw [List.length_take]; omega
  refine LRow.of_at (cur := (cur.toList.take (kk * 4) ++ zs ++ cur.toList.drop (kk * 4 + zs.length)).toArray) (setRow_heap w g cur _ _ _ hA) ?_ (by omega) hmm hb ?_
  · simp only [List.size_toArray, List.length_append, List.length_take, List.length_drop, hcs, hzl]; omega
  · rw [hlt, List.append_assoc, List.take_append_of_le_length (by simp only [List.length_take, hcs]; omega), List.take_take, Nat.min_self]
    have h1 := ecL_take_eq lkE A kk (by omega)
    have h4 : lkE.size = 4 := rfl
    rw [h4, ← ht, List.take_take, Nat.min_eq_left (by omega)] at h1
    exact h1

set_option maxHeartbeats 8000000 in
theorem compact_some {base g cap : Nat} {L : List Lk} {w : World} (h : LRow w base g cap L) (h2 : 2 ≤ L.length) (hl : L.length ≤ 19) :
    Calls Try.prog 38 #[.slice (some ⟨g, 0, none⟩) L.length cap, .func (.func 39) #[] #[]] w fun e w' => ∃ v', e = .returned v' ∧ Es lkE w' v' (dd L) ∧ Below base w w' := by
  obtain ⟨cur0, _, _, hcap, hmc, hbg, _⟩ := h.at
  have hgs : g < w.heap.size := (OwnE.block h g rfl).2
  have hbs : base ≤ w.heap.size := by omega
  unfold maxLen at hmc
  have HR : Hid (LRow w base g cap L) := h
  have HEs : Hid (Es lkE w (.slice (some ⟨g, 0, none⟩) L.length cap) L) := OwnE.es h
  have HEq : Hid (∀ (x y : Lk) W, Calls Try.prog 39 #[.agg #[.int .i64 x.1, .int .i64 x.2.1, .int .i64 x.2.2.1, .int .i64 x.2.2.2], .agg #[.int .i64 y.1, .int .i64 y.2.1, .int .i64 y.2.2.1, .int .i64 y.2.2.2]] W fun e w' => e = .returned (.bool (decide (lkSp x = lkSp y))) ∧ Below W.heap.size W w') := fun x y W => chain1_any x y W
  have hl2 : ¬ (L.length : Int) < 2 := by omega
  clear h
  go_enter Try.func38, Try.ntmps38
  go_wp2_with fail
  go_loopw [5] (fun z wr => ∃ q : Nat, q + 1 ≤ L.length ∧ z = .int .i64 ((q : Int) + 1) ∧ Below w.heap.size w wr ∧ Hid (∀ j, (h : j + 1 < L.length) → j + 1 < q + 1 → lkSp L[j + 1] ≠ lkSp L[j])) (fun z _ => L.length - (intOf z).toNat)
  case atStart => exact ⟨0, by omega, rfl, Below.refl _ _, fun j hj h1 => by omega⟩
  case round =>
    obtain ⟨q, hq, rfl, hB, HZ⟩ := hrel
    have HBL : Hid (Below w.heap.size w wr) := hB
    by_cases hql : q + 1 < L.length
    · have hqi : (q : Int) + 1 < (L.length : Int) := by omega
      have HNx : Hid (lkSp L[q + 1] ≠ lkSp L[q] → ∀ j, (h : j + 1 < L.length) → j + 1 < q + 1 + 1 → lkSp L[j + 1] ≠ lkSp L[j]) := fun hne j hj h1 => by
        rcases Nat.lt_or_ge j q with g | g
        · exact HZ.out j hj (by omega)
        · obtain rfl : j = q := by omega
          exact hne
      have HDd : Hid (lkSp L[q + 1] = lkSp L[q] → dd (L.take (q + 1 + 0 + 1)) = L.take (q + 1)) := fun he => by
        show dd (L.take (q + 2)) = _
        rw [dd_take L q hql, if_pos he, List.append_nil, dd_plain L (q + 1) (by omega) (by omega) HZ.out]
      have HS : Hid (∀ W, Below w.heap.size w W → Four9 W g ((q + 1) * 4) L[q + 1] ∧ Four9 W g (q * 4) L[q]) := fun W hW => ⟨(HR.out.later hW).four (q + 1) hql, (HR.out.later hW).four q (by omega)⟩
      generalize L[q + 1] = x at *
      generalize L[q] = y at *
      obtain ⟨⟨c0, c1, c2, c3⟩, d0, d1, d2, d3⟩ := HS.out wr hB
      have e1 : IntKind.i64.wrap (q : Int) = (q : Int) := by simp [IntKind.wrap, IntKind.bits, IntKind.signed]; omega
      have n0 : (0 : Int) ≤ (q : Int) + 1 := by omega
      have n1 : (0 : Int) ≤ (q : Int) := by omega
      have n2 : (q : Int) < (L.length : Int) := by omega
      have n3 : ((q : Int) + 1).toNat = q + 1 := by omega
      clear hB
      go_wp2_with fail
      go_region_held3 (fun w' => (w'.cell? ⟨g, (q + 1) * 4, none⟩ = some (.int .i64 x.1) ∧ w'.cell? ⟨g, (q + 1) * 4 + 1, none⟩ = some (.int .i64 x.2.1) ∧ w'.cell? ⟨g, (q + 1) * 4 + 2, none⟩ = some (.int .i64 x.2.2.1) ∧ w'.cell? ⟨g, (q + 1) * 4 + 3, none⟩ = some (.int .i64 x.2.2.2)) ∧ (w'.cell? ⟨g, q * 4, none⟩ = some (.int .i64 y.1) ∧ w'.cell? ⟨g, q * 4 + 1, none⟩ = some (.int .i64 y.2.1) ∧ w'.cell? ⟨g, q * 4 + 2, none⟩ = some (.int .i64 y.2.2.1) ∧ w'.cell? ⟨g, q * 4 + 3, none⟩ = some (.int .i64 y.2.2.2)))
        (first | (exact HS.out _ (bstep HBL.out (bdrew _))) | (exact HS.out _ (bstep HBL.out (bstep (bdrew _) hb1))))
        (first | (go_at_call 39; refine (HEq.out _ _ _).mono ?_; rintro e w1 ⟨rfl, hb1⟩))
      rename_i hheld
      clear hheld
      have HB1 : Hid (Below w.heap.size w w1) := bstep HBL.out (bstep (bdrew _) hb1)
      clear hb1 c0 c1 c2 c3 d0 d1 d2 d3
      by_cases hxy : lkSp x = lkSp y
      · have HD0 : Hid (dd (L.take (q + 1 + 0 + 1)) = L.take (q + 1)) := HDd.out hxy
        rw [decide_eq_true hxy]
        obtain ⟨a', ca', hs2', _, _, ha'⟩ := slice_fromE (P := Try.prog) HEs.out (q + 1) (by omega) 59 65 Try.underlying59 Try.sizeLink
        obtain rfl := ha' g 0 rfl hql
        obtain ⟨so, hso⟩ : ∃ so, so = 0 + (q + 1) * lkE.size := ⟨_, rfl⟩
        have HSo : Hid (so = (q + 1) * 4) := by rw [hso]; exact Nat.zero_add _
        obtain ⟨N2, hN2⟩ : ∃ N2, N2 = L.length - (q + 1) := ⟨_, rfl⟩
        have HN2 : Hid (N2 = L.length - (q + 1)) := hN2
        rw [← hso, ← hN2] at hs2'
        have hs2 : ∀ (W : World) (k : IntKind), (Instr.slice 59 (.slice (some ⟨g, 0, none⟩) L.length cap) (some (.int k ((q : Int) + 1))) none none).run Try.prog W = .ok (.slice (some ⟨g, so, none⟩) N2 ca') W := fun W k => by
          have := hs2' W k
          simpa using this
        clear hs2' hso hN2 ha' hxy
        go_wp2_with fail
        obtain ⟨wo, rfl⟩ : ∃ wo, wo = wr := ⟨_, rfl⟩
        have hN19 : N2 ≤ 19 := by rw [HN2.out]; omega
        go_loopw [5, 7] (fun z5 z7 wr => ∃ (j kk : Nat) (A : List Lk), j + 1 ≤ N2 ∧ z7 = .int .i64 ((j : Int) + 1) ∧ z5 = .int .i64 (kk : Int) ∧ LRow wr base g cap A ∧ Below base w wr ∧ Hid (A.length = L.length ∧ A.take kk = dd (L.take (q + 1 + j + 1)) ∧ kk = (dd (L.take (q + 1 + j + 1))).length ∧ A.drop (q + 1 + j) = L.drop (q + 1 + j) ∧ kk ≤ q + 1 + j)) (fun _ z _ => N2 - (intOf z).toNat)
        case atStart => exact ⟨0, q + 1, L, by have := HN2.out; omega, rfl, rfl, HR.out.later HB1.out, HB1.out.mono hbs, rfl, HD0.out.symm, by rw [HD0.out, List.length_take]; omega, rfl, by omega⟩
        case round =>
          obtain ⟨j, kk, A, hj, rfl, rfl, hrow, hB, HI⟩ := hrel
          obtain ⟨i1, i2, i3, i4, i5⟩ := HI.out
          have HRw : Hid (LRow wr base g cap A) := hrow
          have HBk : Hid (Below base w wr) := hB
          have hN := HN2.out
          by_cases hjl : j + 1 < N2
          · have hml : q + 1 + j + 1 < L.length := by omega
            have hjn : (j : Int) + 1 < (N2 : Int) := by omega
            have hmA : q + 1 + j + 1 < A.length := by omega
            have gx : A[q + 1 + j + 1] = L[q + 1 + j + 1] := by
              have := congrArg (fun t => t[1]?) i4
              simp only [List.getElem?_drop] at this
              rw [List.getElem?_eq_getElem (by omega), List.getElem?_eq_getElem (by omega)] at this
              exact Option.some.inj this
            have gy : A[q + 1 + j] = L[q + 1 + j] := by
              have := congrArg (fun t => t[0]?) i4
              simp only [List.getElem?_drop, Nat.add_zero] at this
              rw [List.getElem?_eq_getElem (by omega), List.getElem?_eq_getElem (by omega)] at this
              exact Option.some.inj this
            have HDt : Hid (dd (L.take (q + 1 + (j + 1) + 1)) = dd (L.take (q + 1 + j + 1)) ++ (if lkSp L[q + 1 + j + 1] = lkSp L[q + 1 + j] then [] else [L[q + 1 + j + 1]])) := dd_take L (q + 1 + j) hml
            have HS2 : Hid (∀ W, Below wr.heap.size wr W → Four9 W g (so + (j + 1) * 4) L[q + 1 + j + 1] ∧ Four9 W g (so + j * 4) L[q + 1 + j]) := fun W hW => by
              have h1 := (HRw.out.later hW).four (q + 1 + j + 1) hmA
              have h2 := (HRw.out.later hW).four (q + 1 + j) (by omega)
              rw [gx, show (q + 1 + j + 1) * 4 = so + (j + 1) * 4 by rw [HSo.out]; omega] at h1
              rw [gy, show (q + 1 + j) * 4 = so + j * 4 by rw [HSo.out]; omega] at h2
              exact ⟨h1, h2⟩
            have HDr : Hid (A.drop (q + 1 + (j + 1)) = L.drop (q + 1 + (j + 1))) := by
              show _ = _
              have := congrArg (fun t => t.drop 1) i4
              simp only [List.drop_drop] at this
              exact this
            have hkA : kk < A.length := by omega
            obtain ⟨old, HSet⟩ : ∃ old, Hid (∀ W, Below wr.heap.size wr W → Four9 W g (kk * 4) old) := ⟨A[kk], fun W hW => (HRw.out.later hW).four kk hkA⟩
            have HI1 : Hid (A.length = L.length) := i1
            have HI2 : Hid (A.take kk = dd (L.take (q + 1 + j + 1))) := i2
            have HI3 : Hid (kk = (dd (L.take (q + 1 + j + 1))).length) := i3
            have hkL : (kk : Int) < (L.length : Int) := by omega
            have HKq : Hid (kk ≤ q + 1 + j) := i5
            clear gx gy
            generalize L[q + 1 + j + 1] = x at *
            generalize L[q + 1 + j] = y at *
            clear hmA i1 i2 i3 i4 i5 hN hrow hkA HI
            obtain ⟨⟨c0, c1, c2, c3⟩, d0, d1, d2, d3⟩ := HS2.out wr (Below.refl _ _)
            have e1 : IntKind.i64.wrap (j : Int) = (j : Int) := by simp [IntKind.wrap, IntKind.bits, IntKind.signed]; omega
            have n0 : (0 : Int) ≤ (j : Int) + 1 := by omega
            have n1 : (0 : Int) ≤ (j : Int) := by omega
            have n2 : (j : Int) < (N2 : Int) := by omega
            have n3 : ((j : Int) + 1).toNat = j + 1 := by omega
            clear hB
            go_wp2_with fail
            go_region_held3 (fun w' => (w'.cell? ⟨g, so + (j + 1) * 4, none⟩ = some (.int .i64 x.1) ∧ w'.cell? ⟨g, so + (j + 1) * 4 + 1, none⟩ = some (.int .i64 x.2.1) ∧ w'.cell? ⟨g, so + (j + 1) * 4 + 2, none⟩ = some (.int .i64 x.2.2.1) ∧ w'.cell? ⟨g, so + (j + 1) * 4 + 3, none⟩ = some (.int .i64 x.2.2.2)) ∧ (w'.cell? ⟨g, so + j * 4, none⟩ = some (.int .i64 y.1) ∧ w'.cell? ⟨g, so + j * 4 + 1, none⟩ = some (.int .i64 y.2.1) ∧ w'.cell? ⟨g, so + j * 4 + 2, none⟩ = some (.int .i64 y.2.2.1) ∧ w'.cell? ⟨g, so + j * 4 + 3, none⟩ = some (.int .i64 y.2.2.2)))
              (first | (exact HS2.out _ (bdrew _)) | (exact HS2.out _ (bstep (bdrew _) hb2)))
              (first | (go_at_call 39; refine (HEq.out _ _ _).mono ?_; rintro e w2 ⟨rfl, hb2⟩))
            rename_i hheld
            clear hheld
            have hb2' := bstep (bdrew _) hb2
            have HB2 : Hid (Below wr.heap.size wr w2) := hb2'
            clear hb2 c0 c1 c2 c3 d0 d1 d2 d3
            have HB3 : Hid (Below base w w2) := HBk.out.trans (hb2'.mono (Nat.le_trans hbs (by have := HBk.out.size; exact this)))
            have HR2 : Hid (LRow w2 base g cap A) := HRw.out.later hb2'
            by_cases hxy : lkSp x = lkSp y
            · rw [decide_eq_true hxy]
              have HDe : Hid (dd (L.take (q + 1 + (j + 1) + 1)) = dd (L.take (q + 1 + j + 1))) := by show _ = _; rw [HDt.out, if_pos hxy, List.append_nil]
              go_wp2_with fail
              go_roundw
              case rel => exact ⟨j + 1, kk, A, by omega, by go_num, rfl, HR2.out, HB3.out, HI1.out, by rw [HDe.out]; exact HI2.out, by rw [HDe.out]; exact HI3.out, HDr.out, by have := HKq.out; omega⟩
              case measure => simp [intOf]; omega
            · rw [decide_eq_false hxy]
              have HDe : Hid (dd (L.take (q + 1 + (j + 1) + 1)) = dd (L.take (q + 1 + j + 1)) ++ [x]) := by show _ = _; rw [HDt.out, if_neg hxy]
              obtain ⟨⟨c0, c1, c2, c3⟩, _⟩ := HS2.out w2 hb2'
              obtain ⟨s0, s1, s2, s3⟩ := HSet.out w2 hb2'
              have hmelt := HR2.out.melt
              have HI2' := HI2.out
              have HI3' := HI3.out
              have hkA : kk < A.length := by rw [HI1.out]; omega
              have HR3 : Hid (LRow ((((w2.setCell ⟨g, kk * 4, none⟩ (.int .i64 x.1)).setCell ⟨g, kk * 4 + 1, none⟩ (.int .i64 x.2.1)).setCell ⟨g, kk * 4 + 2, none⟩ (.int .i64 x.2.2.1)).setCell ⟨g, kk * 4 + 3, none⟩ (.int .i64 x.2.2.2)) base g cap (A.set kk x)) := HR2.out.set kk hkA x
              have HB4 : Hid (Below base w ((((w2.setCell ⟨g, kk * 4, none⟩ (.int .i64 x.1)).setCell ⟨g, kk * 4 + 1, none⟩ (.int .i64 x.2.1)).setCell ⟨g, kk * 4 + 2, none⟩ (.int .i64 x.2.2.1)).setCell ⟨g, kk * 4 + 3, none⟩ (.int .i64 x.2.2.2))) := below_set4g HB3.out hbg kk x
              have HF1 : Hid ((A.set kk x).length = L.length) := by show _ = _; rw [List.length_set]; exact HI1.out
              have HF2 : Hid ((A.set kk x).take (kk + 1) = dd (L.take (q + 1 + (j + 1) + 1))) := by
                show _ = _
                rw [HDe.out, ← HI2', List.take_succ_eq_append_getElem (by rw [List.length_set]; exact hkA), List.take_set_of_le (Nat.le_refl _)]
                simp
              have HF3 : Hid (kk + 1 = (dd (L.take (q + 1 + (j + 1) + 1))).length) := by show _ = _; rw [HDe.out, List.length_append, ← HI3']; rfl
              have HF4 : Hid ((A.set kk x).drop (q + 1 + (j + 1)) = L.drop (q + 1 + (j + 1))) := by
                show _ = _
                rw [List.drop_set_of_lt (by have := HKq.out; omega)]
                exact HDr.out
              clear HI2' HI3' hkA hxy
              go_wp2_with fail
              go_roundw
              case rel => exact ⟨j + 1, kk + 1, A.set kk x, by omega, by go_num, by go_num, HR3.out, HB4.out, HF1.out, HF2.out, HF3.out, HF4.out, by have := HKq.out; omega⟩
              case measure => simp [intOf]; omega
          · have hjn : ¬ (j : Int) + 1 < (N2 : Int) := by omega
            have hfull : q + 1 + j + 1 = L.length := by omega
            have hkk : kk < L.length := by omega
            have hdl : A.take kk = dd L := by rw [i2, hfull, List.take_length]
            have hkl : kk = (A.take kk).length := by rw [List.length_take]; omega
            obtain ⟨wc, hcl, hrc, hbc⟩ := HRw.out.cleared kk (L.length - kk) (cap - kk) (by omega) (by omega)
            have HF1 : Hid (Es lkE wc (.slice (some ⟨g, 0, none⟩) kk cap) (dd L)) := by
              have := OwnE.es hrc
              rw [← hkl, hdl] at this
              exact this
            have HF2 : Hid (Below base w wc) := HBk.out.trans hbc
            obtain ⟨a3, ca3, hs3', _, _, ha3⟩ := slice_fromE (P := Try.prog) HEs.out kk (by omega) 59 65 Try.underlying59 Try.sizeLink
            obtain rfl := ha3 g 0 rfl hkk
            have hs3 : ∀ (W : World) (k : IntKind), (Instr.slice 59 (.slice (some ⟨g, 0, none⟩) L.length cap) (some (.int k (kk : Int))) none none).run Try.prog W = .ok (.slice (some ⟨g, kk * 4, none⟩) (L.length - kk) ca3) W := fun W k => by
              rw [hs3' W k]
              have h0 : 0 + kk * lkE.size = kk * 4 := Nat.zero_add _
              rw [h0]
            obtain ⟨wc2, hcl2, hrc2, hbc2⟩ := HRw.out.cleared kk (L.length - kk) ca3 (by omega) (by omega)
            have HG1 : Hid (Es lkE wc2 (.slice (some ⟨g, 0, none⟩) kk cap) (dd L)) := by
              have := OwnE.es hrc2
              rw [← hkl, hdl] at this
              exact this
            have HG2 : Hid (Below base w wc2) := HBk.out.trans hbc2
            have hs4 := (slice_toE (P := Try.prog) HEs.out kk (by omega) 59 65 Try.underlying59 Try.sizeLink).1
            clear hcl hrc hbc HF1 HF2 hrc2 hbc2 hs3' ha3 hdl hkl hfull i1 i2 i3 i4 i5 hrow hB HI
            go_wp2_with fail
            go_ret
            exact ⟨_, rfl, HG1.out, HG2.out⟩
      · have HNe : Hid (lkSp x ≠ lkSp y) := hxy
        rw [decide_eq_false hxy]
        clear hxy
        go_wp2_with fail
        go_roundw
        case rel => exact ⟨q + 1, by omega, by go_num, HB1.out, HNx.out HNe.out⟩
        case measure => simp [intOf]; omega
    · have hqi : ¬ (q : Int) + 1 < (L.length : Int) := by omega
      have HF1 : Hid (Es lkE wr (.slice (some ⟨g, 0, none⟩) L.length cap) (dd L)) := by
        show Es _ _ _ _
        have := dd_plain L (q + 1) (by omega) (by omega) HZ.out
        rw [show q + 1 = L.length by omega, List.take_length] at this
        rw [this]
        exact HEs.out.later hB
      have HF2 : Hid (Below base w wr) := hB.mono hbs
      clear hB
      go_wp2_with fail
      go_ret
      exact ⟨_, rfl, HF1.out, HF2.out⟩

end Go.Proofs.Ytbfcdcdeohikpaa
