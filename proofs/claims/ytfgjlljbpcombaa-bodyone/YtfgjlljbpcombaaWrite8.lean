
/- put, putZeros, putClauses, Write. -/
import Derived.Test.YtfgjlljbpcombaaSmall8
import Derived.Test.YtfgjlljbpcombaaWakes
namespace Go.Proofs.Ytfgjlljbpcombaa
set_option linter.unusedVariables false
set_option linter.unusedSimpArgs false
open Go.RowKit
attribute [local go_sem ↓] Go.wp_at_zero Go.wp_at_succ

theorem leL_zero1 : leL 0 1 = [0] := by decide

set_option maxHeartbeats 1000000 in
theorem put8_any {w : World} {base : Nat} {v : Value} {xs : List UInt8} (hv : Own w base 5 v xs) (hbase : base ≤ w.heap.size) (hx : xs.length ≤ 1000000) (x n : Nat) (hxx : x < 4294967296) (hn : n = 1 ∨ n = 2 ∨ n = 4) :
    Calls Try.prog 19 #[v, .int .i64 (x : Int), .int .i64 (n : Int)] w fun e w' => ∃ v', e = .returned v' ∧ Own w' base 5 v' (xs ++ leL x n) ∧ Below base w w' := by
  have hw : wideB (n : Int) = true := by rcases hn with rfl | rfl | rfl <;> rfl
  have hP : Calls Try.prog 33 #[.slice none 0 0, .int .u64 (x : Int), .int .i64 (n : Int)] w fun e w' => e = .returned (.tuple #[.slice (some ⟨w.heap.size, 0, none⟩) n n, .int .i64 0]) ∧ w' = w.alloc (.cells (u8s (leL x n)).toArray 5) := by
    have := put_yes (Bs.nil w) (by simp) x n (by omega) hw (by omega) (by omega)
    simpa using this
  have HP : Hid (Calls Try.prog 33 #[.slice none 0 0, .int .u64 (x : Int), .int .i64 (n : Int)] w fun e w' => e = .returned (.tuple #[.slice (some ⟨w.heap.size, 0, none⟩) n n, .int .i64 0]) ∧ w' = w.alloc (.cells (u8s (leL x n)).toArray 5)) := hP
  clear hP
  have HO : Hid (Own w base 5 v xs) := hv
  have HL : Hid ((leL x n).length = n) := leL_length x n
  clear hv hw
  go_enter Try.func19, Try.ntmps19
  go_wp2_with fail
  refine Calls.mono HP.out ?_
  rintro e wz ⟨rfl, hz⟩
  subst wz
  clear HP
  go_wp2_with (at_builtin; go_must (refine wpList_append_bs rfl _ _ _ rfl base 5 Try.underlying22 Try.infoU8 rfl rfl (HO.out.later ((Below.refl _ _).alloc (Nat.le_refl _) _)) (bs_lit w (leL x n) _ _ _ rfl HL.out.symm (by rw [HL.out]; unfold maxLen; omega)) (by rw [HL.out]; omega) (by simp; omega) ?_; intro v2 w2 ho2 hg2))
  have hb2 : Below base w w2 := ((Below.refl _ _).alloc (by omega) _).grown hg2 (by simp; omega) (fun k hk => (HO.out.block k hk).1)
  go_ret
  exact ⟨_, rfl, ho2, hb2⟩

set_option maxHeartbeats 1000000 in
theorem putZeros_any {w : World} {base : Nat} {v : Value} {xs : List UInt8} (hv : Own w base 5 v xs) (hbase : base ≤ w.heap.size) (hx : xs.length ≤ 900000) (n : Nat) (hn : n ≤ 4) :
    Calls Try.prog 20 #[v, .int .i64 (n : Int)] w fun e w' => ∃ v', e = .returned v' ∧ Own w' base 5 v' (xs ++ List.replicate n 0) ∧ Below base w w' := by
  go_enter Try.func20, Try.ntmps20
  go_wp2
  go_loopw [0, 6] (fun u z wr => ∃ q : Nat, q ≤ n ∧ z = .int .i64 (q : Int) ∧ Own wr base 5 u (xs ++ List.replicate q 0) ∧ Below base w wr) (fun _ z _ => n - (intOf z).toNat)
  case atStart => exact ⟨0, Nat.zero_le _, rfl, by simpa using hv, Below.refl _ _⟩
  case round =>
    obtain ⟨q, hq, rfl, ho, hB⟩ := hrel
    have hsw := hB.size
    have HB : Hid (Below base w wr) := hB
    clear hv hB
    by_cases hql : q < n
    · have HP : Hid (Calls Try.prog 19 #[u0, .int .i64 0, .int .i64 1] wr fun e w' => ∃ v', e = .returned v' ∧ Own w' base 5 v' (xs ++ List.replicate (q + 1) 0) ∧ Below base w w') := by
        refine (put8_any ho (by omega) (by simp; omega) 0 1 (by omega) (by omega)).mono ?_
        rintro e w' ⟨v', rfl, h1, h2⟩
        refine ⟨v', rfl, ?_, HB.out.trans h2⟩
        rw [leL_zero1, List.append_assoc, ← List.replicate_succ'] at h1
        exact h1
      clear ho
      go_wp2_with fail
      refine Calls.mono HP.out ?_
      rintro e w2 ⟨v2, rfl, ho2, hb2⟩
      clear HP
      have HO2 : Hid (Own w2 base 5 v2 (xs ++ List.replicate (q + 1) 0)) := ho2
      clear ho2
      go_wp2
      go_roundw
      case rel => exact ⟨q + 1, by omega, by go_num, HO2.out, hb2⟩
      case measure => simp [intOf]; omega
    · have hqn : q = n := by omega
      subst hqn
      have HO : Hid (Own wr base 5 u0 (xs ++ List.replicate q 0)) := ho
      clear ho
      go_wp2
      go_ret
      exact ⟨_, rfl, HO.out, HB.out⟩

theorem Own.shape {w : World} {base : Nat} {e : TypeId} {v : Value} {xs : List UInt8} (h : Own w base e v xs) : ∃ a c, v = .slice a xs.length c ∧ xs.length ≤ c ∧ c ≤ maxLen := by
  obtain ⟨a, c, h1, h2, h3, _⟩ := h.bs
  exact ⟨a, c, h1, h2, h3⟩

theorem putClauses_none {w : World} (v : Value) (ya : Option Addr) (cy : Nat) :
    Calls Try.prog 21 #[v, .slice ya 0 cy] w fun e w' => e = .returned v ∧ w' = w := by
  go_enter Try.func21, Try.ntmps21
  go_wp2
  go_ret
  exact ⟨rfl, rfl⟩

/-- The bytes of the first numbers of a clause. -/
def clTo (r : Rw) (k : Nat) : List UInt8 := ((numsR r).take k).flatMap fun x => leL x.toNat 2
theorem clTo_all (r : Rw) : clTo r 6 = clB r := rfl
theorem clTo_succ (r : Rw) (k : Nat) (x : Int) (hx : (numsR r)[k]? = some x) : clTo r (k + 1) = clTo r k ++ leL x.toNat 2 := by
  have hk := (List.getElem?_eq_some_iff.1 hx).1
  unfold clTo
  rw [List.take_succ_eq_append_getElem hk, List.flatMap_append, (List.getElem?_eq_some_iff.1 hx).2]; simp
theorem clTo_length (r : Rw) (k : Nat) (hk : k ≤ 6) : (clTo r k).length ≤ 12 := by
  rcases (show k = 0 ∨ k = 1 ∨ k = 2 ∨ k = 3 ∨ k = 4 ∨ k = 5 ∨ k = 6 by omega) with rfl | rfl | rfl | rfl | rfl | rfl | rfl <;> simp [clTo, numsR, leL_length]

set_option maxHeartbeats 2000000 in
set_option maxRecDepth 100000 in
theorem putClauses_some {w : World} {base b off cap : Nat} {v : Value} {xs : List UInt8} {l : List Rw} (hv : Own w base 5 v xs) (hbase : base ≤ w.heap.size) (hx : xs.length ≤ 100000) (hl0 : 0 < l.length) (hl6 : l.length ≤ 6) (hb : b < base) (hall : l.all fitR = true)
    (hcell : ∀ i (h : i < l.length), Six8 w b (off + i * 6) l[i]) :
    Calls Try.prog 21 #[v, .slice (some ⟨b, off, none⟩) l.length cap] w fun e w' => ∃ v', e = .returned v' ∧ Own w' base 5 v' (xs ++ tabW xs.length l) ∧ Below base w w' := by
  have HC : Hid (∀ i (h : i < l.length), Six8 w b (off + i * 6) l[i]) := hcell
  have HA : Hid (l.all fitR = true) := hall
  have HT : Hid (xs ++ tabW xs.length l = xs ++ List.replicate (fillN xs.length) 0 ++ leL 1 1 ++ leL l.length 1 ++ List.replicate 2 0 ++ clsB l) := by
    show _ = _
    unfold tabW
    rw [if_neg (by omega)]
    simp only [List.append_assoc]
  clear hcell hall
  obtain ⟨a, c, rfl, hxc, hcm⟩ := hv.shape
  have hf4 : fillN xs.length ≤ 4 := by unfold fillN; omega
  have HZ : Hid (Calls Try.prog 20 #[.slice a xs.length c, .int .i64 (fillN xs.length : Int)] w fun e w' => ∃ v', e = .returned v' ∧ Own w' base 5 v' (xs ++ List.replicate (fillN xs.length) 0) ∧ Below base w w') := putZeros_any hv hbase (by omega) _ hf4
  have HF : Hid (∀ W, Calls Try.prog 34 #[.int .i64 (xs.length : Int)] W fun e w' => e = .returned (.int .i64 (fillN xs.length : Int)) ∧ w' = W) := fun W => fill_any _ (by omega) W
  have hP1 : (xs ++ List.replicate (fillN xs.length) 0).length ≤ 100004 := by simp; omega
  obtain ⟨P1, hP1e⟩ : ∃ P, P = xs ++ List.replicate (fillN xs.length) (0 : UInt8) := ⟨_, rfl⟩
  rw [← hP1e] at HZ HT hP1
  clear hP1e hv
  go_enter Try.func21, Try.ntmps21
  go_wp2_with fail
  refine Calls.mono (HF.out _) ?_
  rintro e wz ⟨rfl, hz⟩
  subst wz
  clear HF
  go_wp2_with fail
  refine Calls.mono HZ.out ?_
  rintro e w1 ⟨v1, rfl, ho1, hb1⟩
  have hs1 := hb1.size
  have H2 : Hid (Calls Try.prog 19 #[v1, .int .i64 1, .int .i64 1] w1 fun e w' => ∃ v', e = .returned v' ∧ Own w' base 5 v' (P1 ++ leL 1 1) ∧ Below base w w') := by
    refine (put8_any ho1 (by omega) (by omega) 1 1 (by omega) (by omega)).mono ?_
    rintro e w' ⟨v', rfl, h1, h2⟩
    exact ⟨v', rfl, h1, hb1.trans h2⟩
  clear HZ ho1 hb1
  have hP2 : (P1 ++ leL 1 1).length ≤ 100005 := by simp [leL_length]; omega
  obtain ⟨P2, hP2e⟩ : ∃ P, P = P1 ++ leL 1 1 := ⟨_, rfl⟩
  rw [← hP2e] at H2 HT hP2
  clear hP2e
  go_wp2_with fail
  refine Calls.mono H2.out ?_
  rintro e w2 ⟨v2, rfl, ho2, hb2⟩
  have hs2 := hb2.size
  have H3 : Hid (Calls Try.prog 19 #[v2, .int .i64 (l.length : Int), .int .i64 1] w2 fun e w' => ∃ v', e = .returned v' ∧ Own w' base 5 v' (P2 ++ leL l.length 1) ∧ Below base w w') := by
    refine (put8_any ho2 (by omega) (by omega) l.length 1 (by omega) (by omega)).mono ?_
    rintro e w' ⟨v', rfl, h1, h2⟩
    exact ⟨v', rfl, h1, hb2.trans h2⟩
  clear H2 ho2 hb2
  have hP3 : (P2 ++ leL l.length 1).length ≤ 100006 := by simp [leL_length]; omega
  obtain ⟨P3, hP3e⟩ : ∃ P, P = P2 ++ leL l.length 1 := ⟨_, rfl⟩
  rw [← hP3e] at H3 HT hP3
  clear hP3e
  go_wp2_with fail
  refine Calls.mono H3.out ?_
  rintro e w3 ⟨v3, rfl, ho3, hb3⟩
  have hs3 := hb3.size
  have H4 : Hid (Calls Try.prog 20 #[v3, .int .i64 2] w3 fun e w' => ∃ v', e = .returned v' ∧ Own w' base 5 v' (P3 ++ List.replicate 2 0) ∧ Below base w w') := by
    refine (putZeros_any ho3 (by omega) (by omega) 2 (by omega)).mono ?_
    rintro e w' ⟨v', rfl, h1, h2⟩
    exact ⟨v', rfl, h1, hb3.trans h2⟩
  clear H3 ho3 hb3
  have hP4 : (P3 ++ List.replicate 2 0).length ≤ 100008 := by simp; omega
  obtain ⟨P4, hP4e⟩ : ∃ P, P = P3 ++ List.replicate 2 (0 : UInt8) := ⟨_, rfl⟩
  rw [← hP4e] at H4 HT hP4
  clear hP4e
  go_wp2_with fail
  refine Calls.mono H4.out ?_
  rintro e w4 ⟨v4, rfl, ho4, hb4⟩
  have HO4 : Hid (Own w4 base 5 v4 P4) := ho4
  have HB4 : Hid (Below base w w4) := hb4
  clear H4 ho4 hb4 hs1 hs2 hs3 hP1 hP2 hP3
  go_wp2
  go_loopw [0, 27] (fun u z wr => ∃ q : Nat, q ≤ l.length ∧ z = .int .i64 (q : Int) ∧ Own wr base 5 u (P4 ++ clsB (l.take q)) ∧ Below base w wr) (fun _ z _ => l.length - (intOf z).toNat)
  case atStart => exact ⟨0, Nat.zero_le _, rfl, by simpa [clsB] using HO4.out, HB4.out⟩
  case round =>
    obtain ⟨q, hq, rfl, ho, hB⟩ := hrel
    have hsw := hB.size
    have HB : Hid (Below base w wr) := hB
    by_cases hql : q < l.length
    · obtain ⟨c0, c1, c2, c3, c4, c5⟩ := (HC.out q hql).below hB hb
      have hfr : fitR l[q] = true := List.all_eq_true.1 HA.out _ (List.getElem_mem hql)
      have HTK : Hid (clsB (l.take (q + 1)) = clsB (l.take q) ++ clB l[q]) := by show _ = _; rw [List.take_succ_eq_append_getElem hql, clsB_snoc]
      have hQ : (P4 ++ clsB (l.take q)).length ≤ 100080 := by simp [clsB_length]; omega
      obtain ⟨Q, hQe⟩ : ∃ P, P = P4 ++ clsB (l.take q) := ⟨_, rfl⟩
      have HQ : Hid (P4 ++ clsB (l.take (q + 1)) = Q ++ clB l[q]) := by show _ = _; rw [HTK.out, hQe, List.append_assoc]
      rw [← hQe] at ho hQ
      clear HTK hQe
      generalize l[q] = t at *
      obtain ⟨x0, x1, x2, x3, x4, x5⟩ := t
      simp only at c0 c1 c2 c3 c4 c5
      have HFR : Hid (fitR (x0, x1, x2, x3, x4, x5) = true) := hfr
      have hbx : Below wr.heap.size wr (wr.alloc (.cells #[.int .i64 x0, .int .i64 x1, .int .i64 x2, .int .i64 x3, .int .i64 x4, .int .i64 x5] 52)) := (Below.refl _ _).alloc (Nat.le_refl _) _
      have HN : Hid (Calls Try.prog 35 #[.agg #[.int .i64 x0, .int .i64 x1, .int .i64 x2, .int .i64 x3, .int .i64 x4, .int .i64 x5]] (wr.alloc (.cells #[.int .i64 x0, .int .i64 x1, .int .i64 x2, .int .i64 x3, .int .i64 x4, .int .i64 x5] 52)) fun e w' => e = .returned (.agg #[.int .i64 x0, .int .i64 x1, .int .i64 x2, .int .i64 x3, .int .i64 x4, .int .i64 x5]) ∧ Below wr.heap.size wr w') := by
        refine (numbersOf_any x0 x1 x2 x3 x4 x5 _).mono ?_
        rintro e w' ⟨rfl, h⟩
        exact ⟨rfl, hbx.trans (h.mono (by simp))⟩
      have HO : Hid (Own wr base 5 u0 Q) := ho
      clear hbx ho hB hfr
      go_wp2_with fail
      refine Calls.mono HN.out ?_
      rintro e w5 ⟨rfl, h5⟩
      have HO5 : Hid (Own w5 base 5 u0 Q) := HO.out.later h5
      have HB5 : Hid (Below base w w5) := HB.out.trans (h5.mono (by omega))
      clear HN HO HB h5 c0 c1 c2 c3 c4 c5
      go_wp2
      go_loopw [0, 33] (fun u z wr => ∃ k : Nat, k ≤ 6 ∧ z = .int .i64 (k : Int) ∧ Own wr base 5 u (Q ++ clTo (x0, x1, x2, x3, x4, x5) k) ∧ Below base w wr) (fun _ z _ => 6 - (intOf z).toNat)
      case atStart => exact ⟨0, Nat.zero_le _, rfl, by simpa [clTo] using HO5.out, HB5.out⟩
      case round =>
        obtain ⟨k, hk, rfl, ho, hB⟩ := hrel
        have hsw2 := hB.size
        by_cases hk6 : k < 6
        · obtain ⟨x, -, hx⟩ := six_get x0 x1 x2 x3 x4 x5 k hk6
          have hix := run_index6 x0 x1 x2 x3 x4 x5 x k hk6 hx
          have hfx := (fitN_iff x).1 (List.all_eq_true.1 HFR.out x (List.mem_of_getElem? hx))
          obtain ⟨m, rfl⟩ := Int.eq_ofNat_of_zero_le hfx.1
          have HP : Hid (Calls Try.prog 19 #[u0, .int .i64 (m : Int), .int .i64 2] wr fun e w' => ∃ v', e = .returned v' ∧ Own w' base 5 v' (Q ++ clTo (x0, x1, x2, x3, x4, x5) (k + 1)) ∧ Below base w w') := by
            have hcl := clTo_length (x0, x1, x2, x3, x4, x5) k (by omega)
            refine (put8_any ho (by omega) (by simp; omega) m 2 (by omega) (by omega)).mono ?_
            rintro e w' ⟨v', rfl, h1, h2⟩
            refine ⟨v', rfl, ?_, hB.trans h2⟩
            rw [clTo_succ _ _ _ hx, ← List.append_assoc]
            exact h1
          clear ho hB hx
          go_wp2_with fail
          refine Calls.mono HP.out ?_
          rintro e w6 ⟨v6, rfl, ho6, hb6⟩
          have HO6 : Hid (Own w6 base 5 v6 (Q ++ clTo (x0, x1, x2, x3, x4, x5) (k + 1))) := ho6
          clear ho6 HP
          go_wp2
          go_roundw
          case rel => exact ⟨k + 1, by omega, by go_num, HO6.out, hb6⟩
          case measure => simp [intOf]; omega
        · have hk6' : k = 6 := by omega
          subst hk6'
          have HO6 : Hid (Own wr base 5 u0 (P4 ++ clsB (l.take (q + 1)))) := by
            show Own _ _ _ _ _
            rw [HQ.out, ← clTo_all]; exact ho
          have HB6 : Hid (Below base w wr) := hB
          clear ho hB
          go_wp2
          go_roundw
          case rel => exact ⟨q + 1, by omega, by go_num, HO6.out, HB6.out⟩
          case measure => simp [intOf]; omega
    · have hqn : q = l.length := by omega
      subst hqn
      rw [List.take_length] at ho
      have HO : Hid (Own wr base 5 u0 (P4 ++ clsB l)) := ho
      clear ho hB
      go_wp2
      go_ret
      exact ⟨_, rfl, by rw [HT.out]; exact HO.out, HB.out⟩

end Go.Proofs.Ytfgjlljbpcombaa
