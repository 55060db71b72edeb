
/- Put and PutField; Put of the references. -/
import Derived.Test.YtcjoidhbhffcgaaPut5
import Derived.Test.YtcjoidhbhffcgaaRefPack
namespace Go.Proofs.Ytcjoidhbhffcgaa
set_option linter.unusedVariables false
set_option linter.unusedSimpArgs false
open Go.RowKit

theorem bs_lit2 (w : World) (g : Nat) (hg : g = w.heap.size) (bs : List UInt8) (C : Array Value) (e : TypeId) (n : Nat) (hC : C = (u8s bs).toArray) (hn : n = bs.length) (hm : bs.length ≤ maxLen) : Bs (w.alloc (.cells C e)) (.slice (some ⟨g, 0, none⟩) n n) bs := by
  subst hg; exact bs_lit w bs C e n hC hn hm

theorem put_yes (k i d : Int) (r : Bool) (w : World) (hp : plainB k i d r = true) :
    Calls Try.prog 11 #[.agg #[.int .i64 k, .int .i64 i, .int .i64 d, .bool r]] w fun e w' => ∃ v, e = .returned (.tuple #[v, .int .i64 0]) ∧ Own w' w.heap.size 5 v (encB k i d r) ∧ Below w.heap.size w w' := by
  have HC : Hid (∀ W : World, w.heap.size ≤ W.heap.size → Calls Try.prog 31 #[.slice none 0 0, .agg #[.int .i64 k, .int .i64 i, .int .i64 d, .bool r], .func (.func 30) #[] #[]] W fun e w' => ∃ v', e = .returned (.tuple #[v', .int .i64 0]) ∧ Own w' w.heap.size 5 v' (encB k i d r) ∧ Below w.heap.size W w') :=
    fun W hW => (putType_yes rule_plain (Own.nil W w.heap.size 5) hW (by simp) k i d r hp).mono fun e w' ⟨v', h1, h2, h3, _⟩ => ⟨v', h1, h2, h3⟩
  go_enter Try.func11, Try.ntmps11
  go_wp2_with fail
  refine Calls.mono (HC.out _ (by simp)) ?_
  rintro e w1 ⟨v1, rfl, h1, h2⟩
  go_wp2
  go_ret2
  exact ⟨_, rfl, h1, ((Below.refl _ _).alloc (Nat.le_refl _) _).trans h2⟩

theorem put_no (k i d : Int) (r : Bool) (w : World) (hp : plainB k i d r = false) :
    Calls Try.prog 11 #[.agg #[.int .i64 k, .int .i64 i, .int .i64 d, .bool r]] w fun e w' => e = .returned (.tuple #[.slice none 0 0, .int .i64 17]) ∧ Below w.heap.size w w' := by
  have HC : Hid (∀ W : World, Calls Try.prog 31 #[.slice none 0 0, .agg #[.int .i64 k, .int .i64 i, .int .i64 d, .bool r], .func (.func 30) #[] #[]] W fun e w' => e = .returned (.tuple #[.slice none 0 0, .int .i64 17]) ∧ Below W.heap.size W w') :=
    fun W => putType_no rule_plain W _ k i d r hp
  go_enter Try.func11, Try.ntmps11
  go_wp2_with fail
  refine Calls.mono (HC.out _) ?_
  rintro e w1 ⟨rfl, h2⟩
  go_wp2
  go_ret2
  exact ⟨rfl, below_box h2⟩

theorem putField_yes (k i d : Int) (r : Bool) (w : World) (hp : mayB 1 k i d r = true) :
    Calls Try.prog 12 #[.agg #[.int .i64 k, .int .i64 i, .int .i64 d, .bool r]] w fun e w' => ∃ v, e = .returned (.tuple #[v, .int .i64 0]) ∧ Own w' w.heap.size 5 v (6 :: encB k i d r) ∧ Below w.heap.size w w' := by
  have HC : Hid (∀ (W : World) (g : Nat), g = W.heap.size → w.heap.size ≤ W.heap.size → Calls Try.prog 31 #[.slice (some ⟨g, 0, none⟩) 1 1, .agg #[.int .i64 k, .int .i64 i, .int .i64 d, .bool r], .func (.func 32) #[] #[]] (W.alloc (.cells #[.int .u8 6] 5)) fun e w' => ∃ v', e = .returned (.tuple #[v', .int .i64 0]) ∧ Own w' w.heap.size 5 v' (6 :: encB k i d r) ∧ Below w.heap.size (W.alloc (.cells #[.int .u8 6] 5)) w') :=
    fun W g hg hW => by subst hg; exact (putType_yes rule_field (Own.lit W w.heap.size 5 [6] _ 1 hW (by simp [u8s]) rfl (by simp [maxLen])) (by simp; omega) (by simp) k i d r hp).mono fun e w' ⟨v', h1, h2, h3, _⟩ => ⟨v', h1, h2, h3⟩
  go_enter Try.func12, Try.ntmps12
  go_wp2_with fail
  refine Calls.mono (HC.out _ _ (by simp) (by simp)) ?_
  rintro e w1 ⟨v1, rfl, h1, h2⟩
  go_wp2
  go_ret2
  exact ⟨_, rfl, h1, (((Below.refl _ _).alloc (Nat.le_refl _) _).alloc (by simp) _).trans h2⟩

theorem putField_no (k i d : Int) (r : Bool) (w : World) (hp : mayB 1 k i d r = false) :
    Calls Try.prog 12 #[.agg #[.int .i64 k, .int .i64 i, .int .i64 d, .bool r]] w fun e w' => e = .returned (.tuple #[.slice none 0 0, .int .i64 17]) ∧ Below w.heap.size w w' := by
  have HC : Hid (∀ (W : World) (v : Value), Calls Try.prog 31 #[v, .agg #[.int .i64 k, .int .i64 i, .int .i64 d, .bool r], .func (.func 32) #[] #[]] W fun e w' => e = .returned (.tuple #[.slice none 0 0, .int .i64 17]) ∧ Below W.heap.size W w') :=
    fun W v => putType_no rule_field W v k i d r hp
  go_enter Try.func12, Try.ntmps12
  go_wp2_with fail
  refine Calls.mono (HC.out _ _) ?_
  rintro e w1 ⟨rfl, h2⟩
  go_wp2
  go_ret2
  exact ⟨rfl, below_box (below_box h2)⟩

set_option maxHeartbeats 4000000 in
set_option maxRecDepth 100000 in
theorem refPut5_any (k i d : Int) (r : Bool) (w : World) (hp : plainB k i d r = true) :
    Calls Try.prog 14 #[.agg #[.int .i64 k, .int .i64 i, .int .i64 d, .bool r]] w fun e w' => ∃ v, e = .returned v ∧ Own w' w.heap.size 5 v (encB k i d r) ∧ Below w.heap.size w w' := by
  obtain ⟨p1, p2, p3, p4⟩ := plain_facts hp
  obtain ⟨m, rfl⟩ := Int.eq_ofNat_of_zero_le p1
  obtain ⟨n, rfl⟩ := Int.eq_ofNat_of_zero_le p3
  have HP4 : Hid (k = 1 ∧ (m : Int) = 0 ∧ r = false ∧ (n : Int) = 0 ∨ (k = 2 ∨ k = 3 ∨ k = 4) ∧ (n : Int) = 0 ∨ (k = 5 ∨ k = 6) ∧ (n : Int) < 32 ∨ k = 7 ∧ (n : Int) ≤ 7) := p4
  have HEnc : Hid (encB k (n : Int) (m : Int) r = headL r ++ (List.replicate m 29 ++ (markU k :: numL k (n : Int)))) := by show _ = _; unfold encB; rw [Int.toNat_natCast]
  clear hp p4
  obtain ⟨zs, hzs⟩ : ∃ zs, zs = headL r := ⟨_, rfl⟩
  have HZ : Hid (zs = headL r) := hzs
  clear hzs
  have HZL : Hid (zs.length ≤ 1) := by show _ ≤ _; rw [HZ.out]; unfold headL; split <;> simp
  have hT1 := At.made w #[.int .i64 k, .int .i64 (n : Int), .int .i64 (m : Int), .bool r] 23
  have hB1 : Below w.heap.size w (w.alloc (.cells #[.int .i64 k, .int .i64 (n : Int), .int .i64 (m : Int), .bool r] 23)) := (Below.refl _ _).alloc (Nat.le_refl _) _
  go_enter Try.func14, Try.ntmps14
  cases r with
  | true =>
    go_wp2_with (at_builtin; go_must (refine wpList_append_bs rfl _ _ _ rfl w.heap.size 5 Try.underlying26 Try.infoU8 rfl rfl (Own.nil _ _ _) (bs_lit2 (w.alloc (.cells #[.int .i64 k, .int .i64 (n : Int), .int .i64 (m : Int), .bool true] 23)) _ (by simp) [16] _ _ _ (by simp [u8s]) rfl (by simp [maxLen])) (by simp) (by simp; try omega) ?_))
    intro v0 w0 ho0 hg0
    have hb0 : Below w.heap.size w w0 := (hB1.alloc hB1.size _).grown hg0 (by simp; omega) (fun k hk => by simp [Value.ownBlock] at hk)
    have hT0 := (hT1.next (.cells #[.int .u8 16] 5)).grown (Own.nil _ w.heap.size 5) (by decide) hg0
    have hO0 : Own w0 w.heap.size 5 v0 zs := by rw [HZ.out]; simpa [headL] using ho0
    clear ho0 hg0 hT1 hB1
    have tc := hT0.cell
    go_wp2
    go_loopw [3, 4] (fun u z wr => ∃ q : Nat, q ≤ m ∧ z = .int .i64 (q : Int) ∧ Own wr w.heap.size 5 u (zs ++ List.replicate q 29) ∧ At wr w.heap.size #[.int .i64 k, .int .i64 (n : Int), .int .i64 (m : Int), .bool true] 23 ∧ Below w.heap.size w wr) (fun _ z _ => m - (intOf z).toNat)
    case atStart => exact ⟨0, Nat.zero_le _, rfl, by simpa using hO0, hT0, hb0⟩
    case round =>
      obtain ⟨q, hq, rfl, ho, hT, hB⟩ := hrel
      clear hO0 hT0 hb0
      have hsw := hB.size
      have tc := hT.cell
      have HO : Hid (Own wr w.heap.size 5 u3 (zs ++ List.replicate q 29)) := ho
      clear ho
      by_cases hqm : q < m
      · go_wp2_with (at_builtin; go_must (refine wpList_append_bs rfl _ _ _ rfl w.heap.size 5 Try.underlying26 Try.infoU8 rfl rfl (HO.out.later ((Below.refl _ _).alloc (Nat.le_refl _) _)) (bs_lit wr [29] _ _ _ (by simp [u8s]) rfl (by simp [maxLen])) (by have := HZL.out; simp; omega) (by simp; omega) ?_))
        intro v2 w2 ho2 hg2
        have hb2 : Below w.heap.size wr w2 := ((Below.refl _ _).alloc (by omega) _).grown hg2 (by simp; omega) (fun k hk => (HO.out.block k hk).1)
        have hT2 := (hT.next (.cells #[.int .u8 29] 5)).grown (HO.out.later ((Below.refl _ _).alloc (Nat.le_refl _) _)) (by decide) hg2
        go_wp2
        go_roundw
        case rel => exact ⟨q + 1, by omega, by go_num, by rw [List.replicate_succ']; first | exact ho2 | (rw [← List.append_assoc]; exact ho2), hT2, hB.trans hb2⟩
        case measure => simp [intOf]; omega
      · have hqq : q = m := by omega
        subst hqq
        clear hqm
        rcases HP4.out with ⟨rfl, g1, g2, g3⟩ | ⟨g1, g2⟩ | ⟨g1, g2⟩ | ⟨rfl, g2⟩
        · clear HP4 g1 g2 g3
          go_wp2_with (at_builtin; go_must (refine wpList_append_bs rfl _ _ _ rfl w.heap.size 5 Try.underlying26 Try.infoU8 rfl rfl (HO.out.later ((Below.refl _ _).alloc (Nat.le_refl _) _)) (bs_lit wr [1] _ _ _ (by simp [u8s]) rfl (by simp [maxLen])) (by have := HZL.out; simp; omega) (by simp; omega) ?_))
          intro v2 w2 ho2 hg2
          have hb2 : Below w.heap.size wr w2 := ((Below.refl _ _).alloc (by omega) _).grown hg2 (by simp; omega) (fun k hk => (HO.out.block k hk).1)
          go_wp2
          go_ret
          exact ⟨_, rfl, by rw [HEnc.out]; simpa [markU, numL, HZ.out] using ho2, hB.trans hb2⟩
        · clear HP4 g2
          rcases g1 with rfl | rfl | rfl
          · go_wp2_with (at_builtin; go_must (refine wpList_append_bs rfl _ _ _ rfl w.heap.size 5 Try.underlying26 Try.infoU8 rfl rfl (HO.out.later ((Below.refl _ _).alloc (Nat.le_refl _) _)) (bs_lit wr [8] _ _ _ (by simp [u8s]) rfl (by simp [maxLen])) (by have := HZL.out; simp; omega) (by simp; omega) ?_))
            intro v2 w2 ho2 hg2
            have hb2 : Below w.heap.size wr w2 := ((Below.refl _ _).alloc (by omega) _).grown hg2 (by simp; omega) (fun k hk => (HO.out.block k hk).1)
            go_wp2
            go_ret
            exact ⟨_, rfl, by rw [HEnc.out]; simpa [markU, numL, HZ.out] using ho2, hB.trans hb2⟩
          · go_wp2_with (at_builtin; go_must (refine wpList_append_bs rfl _ _ _ rfl w.heap.size 5 Try.underlying26 Try.infoU8 rfl rfl (HO.out.later ((Below.refl _ _).alloc (Nat.le_refl _) _)) (bs_lit wr [10] _ _ _ (by simp [u8s]) rfl (by simp [maxLen])) (by have := HZL.out; simp; omega) (by simp; omega) ?_))
            intro v2 w2 ho2 hg2
            have hb2 : Below w.heap.size wr w2 := ((Below.refl _ _).alloc (by omega) _).grown hg2 (by simp; omega) (fun k hk => (HO.out.block k hk).1)
            go_wp2
            go_ret
            exact ⟨_, rfl, by rw [HEnc.out]; simpa [markU, numL, HZ.out] using ho2, hB.trans hb2⟩
          · go_wp2_with (at_builtin; go_must (refine wpList_append_bs rfl _ _ _ rfl w.heap.size 5 Try.underlying26 Try.infoU8 rfl rfl (HO.out.later ((Below.refl _ _).alloc (Nat.le_refl _) _)) (bs_lit wr [28] _ _ _ (by simp [u8s]) rfl (by simp [maxLen])) (by have := HZL.out; simp; omega) (by simp; omega) ?_))
            intro v2 w2 ho2 hg2
            have hb2 : Below w.heap.size wr w2 := ((Below.refl _ _).alloc (by omega) _).grown hg2 (by simp; omega) (fun k hk => (HO.out.block k hk).1)
            go_wp2
            go_ret
            exact ⟨_, rfl, by rw [HEnc.out]; simpa [markU, numL, HZ.out] using ho2, hB.trans hb2⟩
        · clear HP4
          rcases g1 with rfl | rfl
          · go_wp2_with (at_builtin; go_must (refine wpList_append_bs rfl _ _ _ rfl w.heap.size 5 Try.underlying26 Try.infoU8 rfl rfl (HO.out.later ((Below.refl _ _).alloc (Nat.le_refl _) _)) (bs_lit wr [18] _ _ _ (by simp [u8s]) rfl (by simp [maxLen])) (by have := HZL.out; simp; omega) (by simp; omega) ?_))
            intro v2 w2 ho2 hg2
            have hb2 : Below w.heap.size wr w2 := ((Below.refl _ _).alloc (by omega) _).grown hg2 (by simp; omega) (fun k hk => (HO.out.block k hk).1)
            have hT2 := (hT.next (.cells #[.int .u8 18] 5)).grown (HO.out.later ((Below.refl _ _).alloc (Nat.le_refl _) _)) (by decide) hg2
            have hs2 : w.heap.size ≤ w2.heap.size := by have := hb2.size; omega
            have HO2 : Hid (Own w2 w.heap.size 5 v2 (zs ++ List.replicate q 29 ++ [18])) := by show Own _ _ _ _ _; rw [List.append_assoc]; exact ho2
            have HPk : Hid (Calls Try.prog 33 #[.int .i64 (4 * ((n : Int) + 1))] w2 fun e w' => ∃ v, e = .returned v ∧ Own w' w2.heap.size 5 v (pkL (4 * (n + 1))) ∧ Below w2.heap.size w2 w') := by
              have := refPack_any (4 * (n + 1)) (by omega) w2
              show Calls _ _ _ _ _
              simpa using this
            have hpl : Hid ((pkL (4 * (n + 1))).length ≤ 4) := by
              have := pkL_length (4 * (n + 1)) (by omega)
              unfold sizeI at this
              show _ ≤ _
              repeat' split at this
              all_goals omega
            have tc2 := hT2.cell
            clear ho2 hg2 hT2 tc
            go_wp2_with fail
            refine Calls.mono HPk.out ?_
            rintro e w3 ⟨v3, rfl, ho3, hb3⟩
            have HO3 : Hid (Own w3 w.heap.size 5 v2 (zs ++ List.replicate q 29 ++ [18])) := HO2.out.later hb3
            have HY : Hid (Bs w3 v3 (pkL (4 * (n + 1)))) := ho3.bs
            have hs3 : w.heap.size ≤ w3.heap.size := by have := hb3.size; omega
            go_wp2_with (at_builtin; go_must (refine wpList_append_bs rfl _ _ _ rfl w.heap.size 5 Try.underlying26 Try.infoU8 rfl rfl HO3.out HY.out (by have := HZL.out; have := hpl.out; simp; omega) hs3 ?_))
            intro v4 w4 ho4 hg4
            have hb4 : Below w.heap.size w3 w4 := (Below.refl _ _).grown hg4 hs3 (fun k hk => (HO3.out.block k hk).1)
            go_wp2
            go_ret
            exact ⟨_, rfl, by rw [HEnc.out]; simpa [markU, numL, HZ.out] using ho4, ((hB.trans hb2).trans (hb3.mono hs2)).trans hb4⟩
          · go_wp2_with (at_builtin; go_must (refine wpList_append_bs rfl _ _ _ rfl w.heap.size 5 Try.underlying26 Try.infoU8 rfl rfl (HO.out.later ((Below.refl _ _).alloc (Nat.le_refl _) _)) (bs_lit wr [17] _ _ _ (by simp [u8s]) rfl (by simp [maxLen])) (by have := HZL.out; simp; omega) (by simp; omega) ?_))
            intro v2 w2 ho2 hg2
            have hb2 : Below w.heap.size wr w2 := ((Below.refl _ _).alloc (by omega) _).grown hg2 (by simp; omega) (fun k hk => (HO.out.block k hk).1)
            have hT2 := (hT.next (.cells #[.int .u8 17] 5)).grown (HO.out.later ((Below.refl _ _).alloc (Nat.le_refl _) _)) (by decide) hg2
            have hs2 : w.heap.size ≤ w2.heap.size := by have := hb2.size; omega
            have HO2 : Hid (Own w2 w.heap.size 5 v2 (zs ++ List.replicate q 29 ++ [17])) := by show Own _ _ _ _ _; rw [List.append_assoc]; exact ho2
            have HPk : Hid (Calls Try.prog 33 #[.int .i64 (4 * ((n : Int) + 1))] w2 fun e w' => ∃ v, e = .returned v ∧ Own w' w2.heap.size 5 v (pkL (4 * (n + 1))) ∧ Below w2.heap.size w2 w') := by
              have := refPack_any (4 * (n + 1)) (by omega) w2
              show Calls _ _ _ _ _
              simpa using this
            have hpl : Hid ((pkL (4 * (n + 1))).length ≤ 4) := by
              have := pkL_length (4 * (n + 1)) (by omega)
              unfold sizeI at this
              show _ ≤ _
              repeat' split at this
              all_goals omega
            have tc2 := hT2.cell
            clear ho2 hg2 hT2 tc
            go_wp2_with fail
            refine Calls.mono HPk.out ?_
            rintro e w3 ⟨v3, rfl, ho3, hb3⟩
            have HO3 : Hid (Own w3 w.heap.size 5 v2 (zs ++ List.replicate q 29 ++ [17])) := HO2.out.later hb3
            have HY : Hid (Bs w3 v3 (pkL (4 * (n + 1)))) := ho3.bs
            have hs3 : w.heap.size ≤ w3.heap.size := by have := hb3.size; omega
            go_wp2_with (at_builtin; go_must (refine wpList_append_bs rfl _ _ _ rfl w.heap.size 5 Try.underlying26 Try.infoU8 rfl rfl HO3.out HY.out (by have := HZL.out; have := hpl.out; simp; omega) hs3 ?_))
            intro v4 w4 ho4 hg4
            have hb4 : Below w.heap.size w3 w4 := (Below.refl _ _).grown hg4 hs3 (fun k hk => (HO3.out.block k hk).1)
            go_wp2
            go_ret
            exact ⟨_, rfl, by rw [HEnc.out]; simpa [markU, numL, HZ.out] using ho4, ((hB.trans hb2).trans (hb3.mono hs2)).trans hb4⟩
        · clear HP4
          go_wp2_with (at_builtin; go_must (refine wpList_append_bs rfl _ _ _ rfl w.heap.size 5 Try.underlying26 Try.infoU8 rfl rfl (HO.out.later ((Below.refl _ _).alloc (Nat.le_refl _) _)) (bs_lit wr [19] _ _ _ (by simp [u8s]) rfl (by simp [maxLen])) (by have := HZL.out; simp; omega) (by simp; omega) ?_))
          intro v2 w2 ho2 hg2
          have hb2 : Below w.heap.size wr w2 := ((Below.refl _ _).alloc (by omega) _).grown hg2 (by simp; omega) (fun k hk => (HO.out.block k hk).1)
          have hT2 := (hT.next (.cells #[.int .u8 19] 5)).grown (HO.out.later ((Below.refl _ _).alloc (Nat.le_refl _) _)) (by decide) hg2
          have hs2 : w.heap.size ≤ w2.heap.size := by have := hb2.size; omega
          have HO2 : Hid (Own w2 w.heap.size 5 v2 (zs ++ List.replicate q 29 ++ [19])) := by show Own _ _ _ _ _; rw [List.append_assoc]; exact ho2
          have HPk : Hid (Calls Try.prog 33 #[.int .i64 (n : Int)] w2 fun e w' => ∃ v, e = .returned v ∧ Own w' w2.heap.size 5 v (pkL (n)) ∧ Below w2.heap.size w2 w') := by
            have := refPack_any (n) (by omega) w2
            show Calls _ _ _ _ _
            simpa using this
          have hpl : Hid ((pkL (n)).length ≤ 4) := by
            have := pkL_length (n) (by omega)
            unfold sizeI at this
            show _ ≤ _
            repeat' split at this
            all_goals omega
          have tc2 := hT2.cell
          clear ho2 hg2 hT2 tc
          go_wp2_with fail
          refine Calls.mono HPk.out ?_
          rintro e w3 ⟨v3, rfl, ho3, hb3⟩
          have HO3 : Hid (Own w3 w.heap.size 5 v2 (zs ++ List.replicate q 29 ++ [19])) := HO2.out.later hb3
          have HY : Hid (Bs w3 v3 (pkL (n))) := ho3.bs
          have hs3 : w.heap.size ≤ w3.heap.size := by have := hb3.size; omega
          go_wp2_with (at_builtin; go_must (refine wpList_append_bs rfl _ _ _ rfl w.heap.size 5 Try.underlying26 Try.infoU8 rfl rfl HO3.out HY.out (by have := HZL.out; have := hpl.out; simp; omega) hs3 ?_))
          intro v4 w4 ho4 hg4
          have hb4 : Below w.heap.size w3 w4 := (Below.refl _ _).grown hg4 hs3 (fun k hk => (HO3.out.block k hk).1)
          go_wp2
          go_ret
          exact ⟨_, rfl, by rw [HEnc.out]; simpa [markU, numL, HZ.out] using ho4, ((hB.trans hb2).trans (hb3.mono hs2)).trans hb4⟩
  | false =>
    have hO1 : Own (w.alloc (.cells #[.int .i64 k, .int .i64 (n : Int), .int .i64 (m : Int), .bool false] 23)) w.heap.size 5 (.slice none 0 0) zs := by rw [HZ.out]; exact Own.nil _ _ _
    go_wp2
    go_loopw [3, 4] (fun u z wr => ∃ q : Nat, q ≤ m ∧ z = .int .i64 (q : Int) ∧ Own wr w.heap.size 5 u (zs ++ List.replicate q 29) ∧ At wr w.heap.size #[.int .i64 k, .int .i64 (n : Int), .int .i64 (m : Int), .bool false] 23 ∧ Below w.heap.size w wr) (fun _ z _ => m - (intOf z).toNat)
    case atStart => exact ⟨0, Nat.zero_le _, rfl, by simpa using hO1, hT1, hB1⟩
    case round =>
      obtain ⟨q, hq, rfl, ho, hT, hB⟩ := hrel
      clear hO1 hT1 hB1
      have hsw := hB.size
      have tc := hT.cell
      have HO : Hid (Own wr w.heap.size 5 u3 (zs ++ List.replicate q 29)) := ho
      clear ho
      by_cases hqm : q < m
      · go_wp2_with (at_builtin; go_must (refine wpList_append_bs rfl _ _ _ rfl w.heap.size 5 Try.underlying26 Try.infoU8 rfl rfl (HO.out.later ((Below.refl _ _).alloc (Nat.le_refl _) _)) (bs_lit wr [29] _ _ _ (by simp [u8s]) rfl (by simp [maxLen])) (by have := HZL.out; simp; omega) (by simp; omega) ?_))
        intro v2 w2 ho2 hg2
        have hb2 : Below w.heap.size wr w2 := ((Below.refl _ _).alloc (by omega) _).grown hg2 (by simp; omega) (fun k hk => (HO.out.block k hk).1)
        have hT2 := (hT.next (.cells #[.int .u8 29] 5)).grown (HO.out.later ((Below.refl _ _).alloc (Nat.le_refl _) _)) (by decide) hg2
        go_wp2
        go_roundw
        case rel => exact ⟨q + 1, by omega, by go_num, by rw [List.replicate_succ']; first | exact ho2 | (rw [← List.append_assoc]; exact ho2), hT2, hB.trans hb2⟩
        case measure => simp [intOf]; omega
      · have hqq : q = m := by omega
        subst hqq
        clear hqm
        rcases HP4.out with ⟨rfl, g1, g2, g3⟩ | ⟨g1, g2⟩ | ⟨g1, g2⟩ | ⟨rfl, g2⟩
        · clear HP4 g1 g2 g3
          go_wp2_with (at_builtin; go_must (refine wpList_append_bs rfl _ _ _ rfl w.heap.size 5 Try.underlying26 Try.infoU8 rfl rfl (HO.out.later ((Below.refl _ _).alloc (Nat.le_refl _) _)) (bs_lit wr [1] _ _ _ (by simp [u8s]) rfl (by simp [maxLen])) (by have := HZL.out; simp; omega) (by simp; omega) ?_))
          intro v2 w2 ho2 hg2
          have hb2 : Below w.heap.size wr w2 := ((Below.refl _ _).alloc (by omega) _).grown hg2 (by simp; omega) (fun k hk => (HO.out.block k hk).1)
          go_wp2
          go_ret
          exact ⟨_, rfl, by rw [HEnc.out]; simpa [markU, numL, HZ.out] using ho2, hB.trans hb2⟩
        · clear HP4 g2
          rcases g1 with rfl | rfl | rfl
          · go_wp2_with (at_builtin; go_must (refine wpList_append_bs rfl _ _ _ rfl w.heap.size 5 Try.underlying26 Try.infoU8 rfl rfl (HO.out.later ((Below.refl _ _).alloc (Nat.le_refl _) _)) (bs_lit wr [8] _ _ _ (by simp [u8s]) rfl (by simp [maxLen])) (by have := HZL.out; simp; omega) (by simp; omega) ?_))
            intro v2 w2 ho2 hg2
            have hb2 : Below w.heap.size wr w2 := ((Below.refl _ _).alloc (by omega) _).grown hg2 (by simp; omega) (fun k hk => (HO.out.block k hk).1)
            go_wp2
            go_ret
            exact ⟨_, rfl, by rw [HEnc.out]; simpa [markU, numL, HZ.out] using ho2, hB.trans hb2⟩
          · go_wp2_with (at_builtin; go_must (refine wpList_append_bs rfl _ _ _ rfl w.heap.size 5 Try.underlying26 Try.infoU8 rfl rfl (HO.out.later ((Below.refl _ _).alloc (Nat.le_refl _) _)) (bs_lit wr [10] _ _ _ (by simp [u8s]) rfl (by simp [maxLen])) (by have := HZL.out; simp; omega) (by simp; omega) ?_))
            intro v2 w2 ho2 hg2
            have hb2 : Below w.heap.size wr w2 := ((Below.refl _ _).alloc (by omega) _).grown hg2 (by simp; omega) (fun k hk => (HO.out.block k hk).1)
            go_wp2
            go_ret
            exact ⟨_, rfl, by rw [HEnc.out]; simpa [markU, numL, HZ.out] using ho2, hB.trans hb2⟩
          · go_wp2_with (at_builtin; go_must (refine wpList_append_bs rfl _ _ _ rfl w.heap.size 5 Try.underlying26 Try.infoU8 rfl rfl (HO.out.later ((Below.refl _ _).alloc (Nat.le_refl _) _)) (bs_lit wr [28] _ _ _ (by simp [u8s]) rfl (by simp [maxLen])) (by have := HZL.out; simp; omega) (by simp; omega) ?_))
            intro v2 w2 ho2 hg2
            have hb2 : Below w.heap.size wr w2 := ((Below.refl _ _).alloc (by omega) _).grown hg2 (by simp; omega) (fun k hk => (HO.out.block k hk).1)
            go_wp2
            go_ret
            exact ⟨_, rfl, by rw [HEnc.out]; simpa [markU, numL, HZ.out] using ho2, hB.trans hb2⟩
        · clear HP4
          rcases g1 with rfl | rfl
          · go_wp2_with (at_builtin; go_must (refine wpList_append_bs rfl _ _ _ rfl w.heap.size 5 Try.underlying26 Try.infoU8 rfl rfl (HO.out.later ((Below.refl _ _).alloc (Nat.le_refl _) _)) (bs_lit wr [18] _ _ _ (by simp [u8s]) rfl (by simp [maxLen])) (by have := HZL.out; simp; omega) (by simp; omega) ?_))
            intro v2 w2 ho2 hg2
            have hb2 : Below w.heap.size wr w2 := ((Below.refl _ _).alloc (by omega) _).grown hg2 (by simp; omega) (fun k hk => (HO.out.block k hk).1)
            have hT2 := (hT.next (.cells #[.int .u8 18] 5)).grown (HO.out.later ((Below.refl _ _).alloc (Nat.le_refl _) _)) (by decide) hg2
            have hs2 : w.heap.size ≤ w2.heap.size := by have := hb2.size; omega
            have HO2 : Hid (Own w2 w.heap.size 5 v2 (zs ++ List.replicate q 29 ++ [18])) := by show Own _ _ _ _ _; rw [List.append_assoc]; exact ho2
            have HPk : Hid (Calls Try.prog 33 #[.int .i64 (4 * ((n : Int) + 1))] w2 fun e w' => ∃ v, e = .returned v ∧ Own w' w2.heap.size 5 v (pkL (4 * (n + 1))) ∧ Below w2.heap.size w2 w') := by
              have := refPack_any (4 * (n + 1)) (by omega) w2
              show Calls _ _ _ _ _
              simpa using this
            have hpl : Hid ((pkL (4 * (n + 1))).length ≤ 4) := by
              have := pkL_length (4 * (n + 1)) (by omega)
              unfold sizeI at this
              show _ ≤ _
              repeat' split at this
              all_goals omega
            have tc2 := hT2.cell
            clear ho2 hg2 hT2 tc
            go_wp2_with fail
            refine Calls.mono HPk.out ?_
            rintro e w3 ⟨v3, rfl, ho3, hb3⟩
            have HO3 : Hid (Own w3 w.heap.size 5 v2 (zs ++ List.replicate q 29 ++ [18])) := HO2.out.later hb3
            have HY : Hid (Bs w3 v3 (pkL (4 * (n + 1)))) := ho3.bs
            have hs3 : w.heap.size ≤ w3.heap.size := by have := hb3.size; omega
            go_wp2_with (at_builtin; go_must (refine wpList_append_bs rfl _ _ _ rfl w.heap.size 5 Try.underlying26 Try.infoU8 rfl rfl HO3.out HY.out (by have := HZL.out; have := hpl.out; simp; omega) hs3 ?_))
            intro v4 w4 ho4 hg4
            have hb4 : Below w.heap.size w3 w4 := (Below.refl _ _).grown hg4 hs3 (fun k hk => (HO3.out.block k hk).1)
            go_wp2
            go_ret
            exact ⟨_, rfl, by rw [HEnc.out]; simpa [markU, numL, HZ.out] using ho4, ((hB.trans hb2).trans (hb3.mono hs2)).trans hb4⟩
          · go_wp2_with (at_builtin; go_must (refine wpList_append_bs rfl _ _ _ rfl w.heap.size 5 Try.underlying26 Try.infoU8 rfl rfl (HO.out.later ((Below.refl _ _).alloc (Nat.le_refl _) _)) (bs_lit wr [17] _ _ _ (by simp [u8s]) rfl (by simp [maxLen])) (by have := HZL.out; simp; omega) (by simp; omega) ?_))
            intro v2 w2 ho2 hg2
            have hb2 : Below w.heap.size wr w2 := ((Below.refl _ _).alloc (by omega) _).grown hg2 (by simp; omega) (fun k hk => (HO.out.block k hk).1)
            have hT2 := (hT.next (.cells #[.int .u8 17] 5)).grown (HO.out.later ((Below.refl _ _).alloc (Nat.le_refl _) _)) (by decide) hg2
            have hs2 : w.heap.size ≤ w2.heap.size := by have := hb2.size; omega
            have HO2 : Hid (Own w2 w.heap.size 5 v2 (zs ++ List.replicate q 29 ++ [17])) := by show Own _ _ _ _ _; rw [List.append_assoc]; exact ho2
            have HPk : Hid (Calls Try.prog 33 #[.int .i64 (4 * ((n : Int) + 1))] w2 fun e w' => ∃ v, e = .returned v ∧ Own w' w2.heap.size 5 v (pkL (4 * (n + 1))) ∧ Below w2.heap.size w2 w') := by
              have := refPack_any (4 * (n + 1)) (by omega) w2
              show Calls _ _ _ _ _
              simpa using this
            have hpl : Hid ((pkL (4 * (n + 1))).length ≤ 4) := by
              have := pkL_length (4 * (n + 1)) (by omega)
              unfold sizeI at this
              show _ ≤ _
              repeat' split at this
              all_goals omega
            have tc2 := hT2.cell
            clear ho2 hg2 hT2 tc
            go_wp2_with fail
            refine Calls.mono HPk.out ?_
            rintro e w3 ⟨v3, rfl, ho3, hb3⟩
            have HO3 : Hid (Own w3 w.heap.size 5 v2 (zs ++ List.replicate q 29 ++ [17])) := HO2.out.later hb3
            have HY : Hid (Bs w3 v3 (pkL (4 * (n + 1)))) := ho3.bs
            have hs3 : w.heap.size ≤ w3.heap.size := by have := hb3.size; omega
            go_wp2_with (at_builtin; go_must (refine wpList_append_bs rfl _ _ _ rfl w.heap.size 5 Try.underlying26 Try.infoU8 rfl rfl HO3.out HY.out (by have := HZL.out; have := hpl.out; simp; omega) hs3 ?_))
            intro v4 w4 ho4 hg4
            have hb4 : Below w.heap.size w3 w4 := (Below.refl _ _).grown hg4 hs3 (fun k hk => (HO3.out.block k hk).1)
            go_wp2
            go_ret
            exact ⟨_, rfl, by rw [HEnc.out]; simpa [markU, numL, HZ.out] using ho4, ((hB.trans hb2).trans (hb3.mono hs2)).trans hb4⟩
        · clear HP4
          go_wp2_with (at_builtin; go_must (refine wpList_append_bs rfl _ _ _ rfl w.heap.size 5 Try.underlying26 Try.infoU8 rfl rfl (HO.out.later ((Below.refl _ _).alloc (Nat.le_refl _) _)) (bs_lit wr [19] _ _ _ (by simp [u8s]) rfl (by simp [maxLen])) (by have := HZL.out; simp; omega) (by simp; omega) ?_))
          intro v2 w2 ho2 hg2
          have hb2 : Below w.heap.size wr w2 := ((Below.refl _ _).alloc (by omega) _).grown hg2 (by simp; omega) (fun k hk => (HO.out.block k hk).1)
          have hT2 := (hT.next (.cells #[.int .u8 19] 5)).grown (HO.out.later ((Below.refl _ _).alloc (Nat.le_refl _) _)) (by decide) hg2
          have hs2 : w.heap.size ≤ w2.heap.size := by have := hb2.size; omega
          have HO2 : Hid (Own w2 w.heap.size 5 v2 (zs ++ List.replicate q 29 ++ [19])) := by show Own _ _ _ _ _; rw [List.append_assoc]; exact ho2
          have HPk : Hid (Calls Try.prog 33 #[.int .i64 (n : Int)] w2 fun e w' => ∃ v, e = .returned v ∧ Own w' w2.heap.size 5 v (pkL (n)) ∧ Below w2.heap.size w2 w') := by
            have := refPack_any (n) (by omega) w2
            show Calls _ _ _ _ _
            simpa using this
          have hpl : Hid ((pkL (n)).length ≤ 4) := by
            have := pkL_length (n) (by omega)
            unfold sizeI at this
            show _ ≤ _
            repeat' split at this
            all_goals omega
          have tc2 := hT2.cell
          clear ho2 hg2 hT2 tc
          go_wp2_with fail
          refine Calls.mono HPk.out ?_
          rintro e w3 ⟨v3, rfl, ho3, hb3⟩
          have HO3 : Hid (Own w3 w.heap.size 5 v2 (zs ++ List.replicate q 29 ++ [19])) := HO2.out.later hb3
          have HY : Hid (Bs w3 v3 (pkL (n))) := ho3.bs
          have hs3 : w.heap.size ≤ w3.heap.size := by have := hb3.size; omega
          go_wp2_with (at_builtin; go_must (refine wpList_append_bs rfl _ _ _ rfl w.heap.size 5 Try.underlying26 Try.infoU8 rfl rfl HO3.out HY.out (by have := HZL.out; have := hpl.out; simp; omega) hs3 ?_))
          intro v4 w4 ho4 hg4
          have hb4 : Below w.heap.size w3 w4 := (Below.refl _ _).grown hg4 hs3 (fun k hk => (HO3.out.block k hk).1)
          go_wp2
          go_ret
          exact ⟨_, rfl, by rw [HEnc.out]; simpa [markU, numL, HZ.out] using ho4, ((hB.trans hb2).trans (hb3.mono hs2)).trans hb4⟩

end Go.Proofs.Ytcjoidhbhffcgaa
