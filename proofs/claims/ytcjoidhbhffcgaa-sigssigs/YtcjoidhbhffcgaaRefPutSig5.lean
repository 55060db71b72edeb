
/- PutSig of the references. -/
import Derived.Test.YtcjoidhbhffcgaaRefPuts5
namespace Go.Proofs.Ytcjoidhbhffcgaa
set_option linter.unusedVariables false
set_option linter.unusedSimpArgs false
open Go.RowKit

set_option maxHeartbeats 8000000 in
set_option maxRecDepth 100000 in
theorem refPutSig_some {w : World} {b off pc : Nat} {ts : List Ty} (hcell : TsC w b off ts) (hb : b < w.heap.size) (hlen : ts.length ≤ 6) (this : Bool) (k0 i0 d0 : Int) (r0 : Bool) :
    Calls Try.prog 27 #[.agg #[.bool this, .slice (some ⟨b, off, none⟩) ts.length pc, .int .i64 k0, .int .i64 i0, .int .i64 d0, .bool r0]] w fun e w' => PutR w w' (sigL this ts (k0, i0, d0, r0)) (sigE ts (k0, i0, d0, r0)) e := by
  have HC : Hid (TsC w b off ts) := hcell
  clear hcell
  have hb0 : Below w.heap.size w (w.alloc (.cells #[.bool this, .slice (some ⟨b, off, none⟩) ts.length pc, .int .i64 k0, .int .i64 i0, .int .i64 d0, .bool r0] 39)) := (Below.refl _ _).alloc (Nat.le_refl _) _
  have hS0 := At.made w #[.bool this, .slice (some ⟨b, off, none⟩) ts.length pc, .int .i64 k0, .int .i64 i0, .int .i64 d0, .bool r0] 39
  cases this with
  | true =>
    obtain ⟨Z, hZ⟩ : ∃ Z : List UInt8, Z = [32, UInt8.ofNat ts.length] ++ encB k0 i0 d0 r0 := ⟨_, rfl⟩
    have HZ : Hid (Z = [32, UInt8.ofNat ts.length] ++ encB k0 i0 d0 r0) := hZ
    have HZL : Hid (mayB 3 k0 i0 d0 r0 = true → Z.length ≤ 12) := fun h => by
      have h9 : (encB k0 i0 d0 r0).length ≤ 10 := enc_len (k0, i0, d0, r0) (rule_answer.plainT _ h)
      rw [hZ]; simp; omega
    clear hZ
    go_enter Try.func27, Try.ntmps27
    go_wp2_with (at_builtin; go_must (refine wpList_append_bs rfl _ _ _ rfl w.heap.size 5 Try.underlying26 Try.infoU8 rfl rfl (Own.nil _ _ _) (bs_lit2 (w.alloc (.cells #[.bool true, .slice (some ⟨b, off, none⟩) ts.length pc, .int .i64 k0, .int .i64 i0, .int .i64 d0, .bool r0] 39)) _ (by simp) [32] _ _ _ (by simp [u8s]) rfl (by simp [maxLen])) (by simp) (by simp; try omega) ?_))
    intro v1 w1 ho1 hg1
    have hB1 : Below w.heap.size w w1 := (hb0.alloc hb0.size _).grown hg1 (by simp; try omega) (fun k hk => by simp [Value.ownBlock] at hk)
    have hA1 := (hS0.next (.cells #[.int .u8 32] 5)).grown (Own.nil _ w.heap.size 5) (by decide) hg1
    have HO1 : Hid (Own w1 w.heap.size 5 v1 [32]) := by have h9 := ho1; show Own _ _ _ _ _; simpa using h9
    clear ho1 hg1 hb0 hS0
    have sc1 := hA1.cell
    have hs1 := hB1.size
    go_wp2_with (at_builtin; go_must (refine wpList_append_bs rfl _ _ _ rfl w.heap.size 5 Try.underlying26 Try.infoU8 rfl rfl (HO1.out.later ((Below.refl _ _).alloc (Nat.le_refl _) _)) (bs_lit w1 [UInt8.ofNat ts.length] _ _ _ (by simp [u8s]; omega) rfl (by simp [maxLen])) (by simp) (by simp; omega) ?_))
    intro v2 w2 ho2 hg2
    have hB2 : Below w.heap.size w w2 := hB1.trans (((Below.refl _ _).alloc (by omega) _).grown hg2 (by simp; omega) (fun k hk => (HO1.out.block k hk).1))
    have hA2 := (hA1.next (.cells #[.int .u8 (ts.length : Int)] 5)).grown (HO1.out.later ((Below.refl _ _).alloc (Nat.le_refl _) _)) (by decide) hg2
    have HO2 : Hid (Own w2 w.heap.size 5 v2 [32, UInt8.ofNat ts.length]) := by have h9 := ho2; show Own _ _ _ _ _; simpa using h9
    clear ho2 hg2 hA1 hB1 HO1 sc1 hs1
    have sc2 := hA2.cell
    by_cases hm3 : mayB 3 k0 i0 d0 r0 = true
    · have HPt3 : Hid (∀ W, Calls Try.prog 14 #[.agg #[.int .i64 k0, .int .i64 i0, .int .i64 d0, .bool r0]] W fun e w' => ∃ v, e = .returned v ∧ Own w' W.heap.size 5 v (encB k0 i0 d0 r0) ∧ Below W.heap.size W w') := fun W => refPut5_any k0 i0 d0 r0 W (rule_answer.plain k0 i0 d0 r0 hm3)
      have HEl3 : Hid ((encB k0 i0 d0 r0).length ≤ 10) := enc_len (k0, i0, d0, r0) (rule_answer.plainT _ hm3)
      have HM3 : Hid (mayT 3 (k0, i0, d0, r0) = true) := hm3
      go_wp2_with fail
      refine (where3_any k0 i0 d0 r0 _).mono ?_
      rintro e w3 ⟨rfl, hb3⟩
      have hA3 := hA2.later hb3
      have hB3 := hB2.trans (hb3.mono hB2.size)
      have HO3 : Hid (Own w3 w.heap.size 5 v2 [32, UInt8.ofNat ts.length]) := HO2.out.later hb3
      clear hb3 hA2 hB2 HO2 sc2
      have sc3 := hA3.cell
      go_wp2_with fail
      refine (HPt3.out _).mono ?_
      rintro e w4 ⟨v4, rfl, ho4, hb4⟩
      have hA4 := hA3.later hb4
      have hB4 := hB3.trans (hb4.mono hB3.size)
      have HO4 : Hid (Own w4 w.heap.size 5 v2 [32, UInt8.ofNat ts.length]) := HO3.out.later hb4
      have HY4 : Hid (Bs w4 v4 (encB k0 i0 d0 r0)) := ho4.bs
      have hs4 := hB4.size
      clear hb4 ho4 hA3 hB3 HO3 sc3 HPt3
      go_wp2_with (at_builtin; go_must (refine wpList_append_bs rfl _ _ _ rfl w.heap.size 5 Try.underlying26 Try.infoU8 rfl rfl (HO4.out) (HY4.out) (by have := HEl3.out; simp; omega) (hs4) ?_))
      intro v5 w5 ho5 hg5
      have hb5 : Below w.heap.size w4 w5 := (Below.refl _ _).grown hg5 hs4 (fun k hk => (HO4.out.block k hk).1)
      have hA5 := hA4.grown HO4.out (by decide) hg5
      have hB5 := hB4.trans hb5
      have hZ5 : Own w5 w.heap.size 5 v5 Z := by rw [HZ.out]; have h9 := ho5; simpa using h9
      clear ho5 hg5 hb5 hA4 hB4 HO4 HY4 hs4
      have sc5 := hA5.cell
      go_wp2
      go_loopw [4, 5] (fun u z wr => ∃ q : Nat, q ≤ ts.length ∧ z = .int .i64 (q : Int) ∧ Own wr w.heap.size 5 u (Z ++ encs (ts.take q)) ∧ At wr w.heap.size #[.bool true, .slice (some ⟨b, off, none⟩) ts.length pc, .int .i64 k0, .int .i64 i0, .int .i64 d0, .bool r0] 39 ∧ Below w.heap.size w wr ∧ (ts.take q).all (mayT 2) = true) (fun _ z _ => ts.length - (intOf z).toNat)
      case atStart => exact ⟨0, Nat.zero_le _, rfl, by simpa [encs] using hZ5, hA5, hB5, by simp⟩
      case round =>
        obtain ⟨q, hq, rfl, ho, hA, hB, hall⟩ := hrel
        clear hZ5 hA5 hB5 sc5
        have hsw := hB.size
        have sc := hA.cell
        have HO : Hid (Own wr w.heap.size 5 u4 (Z ++ encs (ts.take q))) := ho
        have hle := encs_len (ts.take q) 2 (fun t h => rule_var.plainT t h) hall
        have HLE : Hid ((Z ++ encs (ts.take q)).length ≤ 1000) := by show _ ≤ _; have := HZL.out HM3.out; simp at hle ⊢; omega
        have HAl : Hid ((ts.take q).all (mayT 2) = true) := hall
        clear ho hle hall
        by_cases hql : q < ts.length
        · obtain ⟨c0, c1, c2, c3⟩ := HC.out q hql
          have e : ∀ o, wr.cell? ⟨b, o, none⟩ = w.cell? ⟨b, o, none⟩ := fun o => hB.cell (p := ⟨b, o, none⟩) hb
          rw [← e] at c0 c1 c2 c3
          clear e
          have HT : Hid (ts.take (q + 1) = ts.take q ++ [ts[q]]) := by show _ = _; rw [List.take_succ_eq_append_getElem hql]
          have HS : Hid (ts.all (mayT 2) = true → mayT 2 ts[q] = true) := fun h => List.all_eq_true.1 h _ (List.getElem_mem hql)
          generalize ts[q] = t at *
          obtain ⟨k, i, d, r⟩ := t
          simp only at c0 c1 c2 c3
          by_cases hm : mayB 2 k i d r = true
          · have HM : Hid (mayT 2 (k, i, d, r) = true) := hm
            have HPt : Hid (∀ W, Calls Try.prog 14 #[.agg #[.int .i64 k, .int .i64 i, .int .i64 d, .bool r]] W fun e w' => ∃ v, e = .returned v ∧ Own w' W.heap.size 5 v (encB k i d r) ∧ Below W.heap.size W w') := fun W => refPut5_any k i d r W (rule_var.plain k i d r hm)
            have HEl : Hid ((encB k i d r).length ≤ 10) := enc_len (k, i, d, r) (rule_var.plainT _ hm)
            go_wp2_with fail
            refine (where2_any k i d r _).mono ?_
            rintro e w2 ⟨rfl, hb2⟩
            have hcc := (bcell hb2).1
            have HBl : Hid (b < wr.heap.size) := by show _ < _; omega
            rw [← hcc b _ HBl.out] at c0 c1 c2 c3
            clear hcc
            have HO2 : Hid (Own w2 w.heap.size 5 u4 (Z ++ encs (ts.take q))) := HO.out.later hb2
            have hB2 := hB.trans (hb2.mono hsw)
            have hA2 := hA.later hb2
            clear hb2 hB HO hA sc
            have sc2 := hA2.cell
            go_wp2_with fail
            refine (HPt.out _).mono ?_
            rintro e w3 ⟨v3, rfl, ho3, hb3⟩
            have HO3 : Hid (Own w3 w.heap.size 5 u4 (Z ++ encs (ts.take q))) := HO2.out.later hb3
            have HY : Hid (Bs w3 v3 (encB k i d r)) := ho3.bs
            have hB3 := hB2.trans (hb3.mono hB2.size)
            have hA3 := hA2.later hb3
            have hs3 := hB3.size
            clear ho3 hb3 hB2 HO2 hA2 sc2 c0 c1 c2 c3
            go_wp2_with (at_builtin; go_must (refine wpList_append_bs rfl _ _ _ rfl w.heap.size 5 Try.underlying26 Try.infoU8 rfl rfl (HO3.out) (HY.out) (by have := HLE.out; have := HEl.out; omega) (hs3) ?_))
            intro v4 w4 ho4 hg4
            have hb4 : Below w.heap.size w3 w4 := (Below.refl _ _).grown hg4 hs3 (fun k hk => (HO3.out.block k hk).1)
            have hA4 := hA3.grown HO3.out (by decide) hg4
            have hB4 := hB3.trans hb4
            have HO4 : Hid (Own w4 w.heap.size 5 v4 (Z ++ encs (ts.take (q + 1)))) := by
              show Own _ _ _ _ _
              rw [HT.out, encs_snoc, ← List.append_assoc]; first | exact ho4 | (rw [List.append_assoc]; exact ho4)
            clear ho4 hg4 hb4 hB3 hA3
            go_wp2
            go_roundw
            case rel => exact ⟨q + 1, by omega, by go_num, HO4.out, hA4, hB4, by rw [HT.out, List.all_append, HAl.out]; simpa using HM.out⟩
            case measure => simp [intOf]; omega
          · have hm' : mayB 2 k i d r = false := by simpa using hm
            have HNA : Hid (ts.all (mayT 2) = false) := by
              show _ = _
              rcases hz : ts.all (mayT 2) with _ | _
              · rfl
              · exact absurd (HS.out hz) (by simp [mayT, hm'])
            have HF : Hid (sigE ts (k0, i0, d0, r0) = 17) := by show _ = _; unfold sigE; rw [if_neg (by omega), if_neg (by rw [HNA.out]; simp)]
            clear hm
            go_wp2_with fail
            refine (where2_any k i d r _).mono ?_
            rintro e w2 ⟨rfl, hb2⟩
            have hB2 := hB.trans (hb2.mono hsw)
            clear hb2 hB
            go_wp2
            go_ret2
            exact ⟨fun h => absurd h (by rw [HF.out]; decide), fun _ => by rw [HF.out]; rfl, hB2⟩
        · have hqq : q = ts.length := by omega
          subst hqq
          rw [List.take_length] at HO HAl
          have HF : Hid (sigE ts (k0, i0, d0, r0) = 0) := by show _ = _; unfold sigE; rw [if_neg (by omega), if_pos ⟨HM3.out, HAl.out⟩]
          go_wp2
          go_ret2
          exact ⟨fun _ => ⟨_, rfl, by have h9 := HO.out; rw [HZ.out] at h9; simpa [sigL, encT, hdN] using h9⟩, fun h => absurd HF.out h, hB⟩
    · have hm3' : mayB 3 k0 i0 d0 r0 = false := by simpa using hm3
      have HF : Hid (sigE ts (k0, i0, d0, r0) = 17) := by show _ = _; unfold sigE; rw [if_neg (by omega), if_neg (by simp [mayT, hm3'])]
      clear hm3
      go_wp2_with fail
      refine (where3_any k0 i0 d0 r0 _).mono ?_
      rintro e w3 ⟨rfl, hb3⟩
      have hB3 := hB2.trans (hb3.mono hB2.size)
      clear hb3 hB2
      go_wp2
      go_ret2
      exact ⟨fun h => absurd h (by rw [HF.out]; decide), fun _ => by rw [HF.out]; rfl, hB3⟩
  | false =>
    obtain ⟨Z, hZ⟩ : ∃ Z : List UInt8, Z = [0, UInt8.ofNat ts.length] ++ encB k0 i0 d0 r0 := ⟨_, rfl⟩
    have HZ : Hid (Z = [0, UInt8.ofNat ts.length] ++ encB k0 i0 d0 r0) := hZ
    have HZL : Hid (mayB 3 k0 i0 d0 r0 = true → Z.length ≤ 12) := fun h => by
      have h9 : (encB k0 i0 d0 r0).length ≤ 10 := enc_len (k0, i0, d0, r0) (rule_answer.plainT _ h)
      rw [hZ]; simp; omega
    clear hZ
    go_enter Try.func27, Try.ntmps27
    go_wp2_with (at_builtin; go_must (refine wpList_append_bs rfl _ _ _ rfl w.heap.size 5 Try.underlying26 Try.infoU8 rfl rfl (Own.nil _ _ _) (bs_lit2 (w.alloc (.cells #[.bool false, .slice (some ⟨b, off, none⟩) ts.length pc, .int .i64 k0, .int .i64 i0, .int .i64 d0, .bool r0] 39)) _ (by simp) [0] _ _ _ (by simp [u8s]) rfl (by simp [maxLen])) (by simp) (by simp; try omega) ?_))
    intro v1 w1 ho1 hg1
    have hB1 : Below w.heap.size w w1 := (hb0.alloc hb0.size _).grown hg1 (by simp; try omega) (fun k hk => by simp [Value.ownBlock] at hk)
    have hA1 := (hS0.next (.cells #[.int .u8 0] 5)).grown (Own.nil _ w.heap.size 5) (by decide) hg1
    have HO1 : Hid (Own w1 w.heap.size 5 v1 [0]) := by have h9 := ho1; show Own _ _ _ _ _; simpa using h9
    clear ho1 hg1 hb0 hS0
    have sc1 := hA1.cell
    have hs1 := hB1.size
    go_wp2_with (at_builtin; go_must (refine wpList_append_bs rfl _ _ _ rfl w.heap.size 5 Try.underlying26 Try.infoU8 rfl rfl (HO1.out.later ((Below.refl _ _).alloc (Nat.le_refl _) _)) (bs_lit w1 [UInt8.ofNat ts.length] _ _ _ (by simp [u8s]; omega) rfl (by simp [maxLen])) (by simp) (by simp; omega) ?_))
    intro v2 w2 ho2 hg2
    have hB2 : Below w.heap.size w w2 := hB1.trans (((Below.refl _ _).alloc (by omega) _).grown hg2 (by simp; omega) (fun k hk => (HO1.out.block k hk).1))
    have hA2 := (hA1.next (.cells #[.int .u8 (ts.length : Int)] 5)).grown (HO1.out.later ((Below.refl _ _).alloc (Nat.le_refl _) _)) (by decide) hg2
    have HO2 : Hid (Own w2 w.heap.size 5 v2 [0, UInt8.ofNat ts.length]) := by have h9 := ho2; show Own _ _ _ _ _; simpa using h9
    clear ho2 hg2 hA1 hB1 HO1 sc1 hs1
    have sc2 := hA2.cell
    by_cases hm3 : mayB 3 k0 i0 d0 r0 = true
    · have HPt3 : Hid (∀ W, Calls Try.prog 14 #[.agg #[.int .i64 k0, .int .i64 i0, .int .i64 d0, .bool r0]] W fun e w' => ∃ v, e = .returned v ∧ Own w' W.heap.size 5 v (encB k0 i0 d0 r0) ∧ Below W.heap.size W w') := fun W => refPut5_any k0 i0 d0 r0 W (rule_answer.plain k0 i0 d0 r0 hm3)
      have HEl3 : Hid ((encB k0 i0 d0 r0).length ≤ 10) := enc_len (k0, i0, d0, r0) (rule_answer.plainT _ hm3)
      have HM3 : Hid (mayT 3 (k0, i0, d0, r0) = true) := hm3
      go_wp2_with fail
      refine (where3_any k0 i0 d0 r0 _).mono ?_
      rintro e w3 ⟨rfl, hb3⟩
      have hA3 := hA2.later hb3
      have hB3 := hB2.trans (hb3.mono hB2.size)
      have HO3 : Hid (Own w3 w.heap.size 5 v2 [0, UInt8.ofNat ts.length]) := HO2.out.later hb3
      clear hb3 hA2 hB2 HO2 sc2
      have sc3 := hA3.cell
      go_wp2_with fail
      refine (HPt3.out _).mono ?_
      rintro e w4 ⟨v4, rfl, ho4, hb4⟩
      have hA4 := hA3.later hb4
      have hB4 := hB3.trans (hb4.mono hB3.size)
      have HO4 : Hid (Own w4 w.heap.size 5 v2 [0, UInt8.ofNat ts.length]) := HO3.out.later hb4
      have HY4 : Hid (Bs w4 v4 (encB k0 i0 d0 r0)) := ho4.bs
      have hs4 := hB4.size
      clear hb4 ho4 hA3 hB3 HO3 sc3 HPt3
      go_wp2_with (at_builtin; go_must (refine wpList_append_bs rfl _ _ _ rfl w.heap.size 5 Try.underlying26 Try.infoU8 rfl rfl (HO4.out) (HY4.out) (by have := HEl3.out; simp; omega) (hs4) ?_))
      intro v5 w5 ho5 hg5
      have hb5 : Below w.heap.size w4 w5 := (Below.refl _ _).grown hg5 hs4 (fun k hk => (HO4.out.block k hk).1)
      have hA5 := hA4.grown HO4.out (by decide) hg5
      have hB5 := hB4.trans hb5
      have hZ5 : Own w5 w.heap.size 5 v5 Z := by rw [HZ.out]; have h9 := ho5; simpa using h9
      clear ho5 hg5 hb5 hA4 hB4 HO4 HY4 hs4
      have sc5 := hA5.cell
      go_wp2
      go_loopw [4, 5] (fun u z wr => ∃ q : Nat, q ≤ ts.length ∧ z = .int .i64 (q : Int) ∧ Own wr w.heap.size 5 u (Z ++ encs (ts.take q)) ∧ At wr w.heap.size #[.bool false, .slice (some ⟨b, off, none⟩) ts.length pc, .int .i64 k0, .int .i64 i0, .int .i64 d0, .bool r0] 39 ∧ Below w.heap.size w wr ∧ (ts.take q).all (mayT 2) = true) (fun _ z _ => ts.length - (intOf z).toNat)
      case atStart => exact ⟨0, Nat.zero_le _, rfl, by simpa [encs] using hZ5, hA5, hB5, by simp⟩
      case round =>
        obtain ⟨q, hq, rfl, ho, hA, hB, hall⟩ := hrel
        clear hZ5 hA5 hB5 sc5
        have hsw := hB.size
        have sc := hA.cell
        have HO : Hid (Own wr w.heap.size 5 u4 (Z ++ encs (ts.take q))) := ho
        have hle := encs_len (ts.take q) 2 (fun t h => rule_var.plainT t h) hall
        have HLE : Hid ((Z ++ encs (ts.take q)).length ≤ 1000) := by show _ ≤ _; have := HZL.out HM3.out; simp at hle ⊢; omega
        have HAl : Hid ((ts.take q).all (mayT 2) = true) := hall
        clear ho hle hall
        by_cases hql : q < ts.length
        · obtain ⟨c0, c1, c2, c3⟩ := HC.out q hql
          have e : ∀ o, wr.cell? ⟨b, o, none⟩ = w.cell? ⟨b, o, none⟩ := fun o => hB.cell (p := ⟨b, o, none⟩) hb
          rw [← e] at c0 c1 c2 c3
          clear e
          have HT : Hid (ts.take (q + 1) = ts.take q ++ [ts[q]]) := by show _ = _; rw [List.take_succ_eq_append_getElem hql]
          have HS : Hid (ts.all (mayT 2) = true → mayT 2 ts[q] = true) := fun h => List.all_eq_true.1 h _ (List.getElem_mem hql)
          generalize ts[q] = t at *
          obtain ⟨k, i, d, r⟩ := t
          simp only at c0 c1 c2 c3
          by_cases hm : mayB 2 k i d r = true
          · have HM : Hid (mayT 2 (k, i, d, r) = true) := hm
            have HPt : Hid (∀ W, Calls Try.prog 14 #[.agg #[.int .i64 k, .int .i64 i, .int .i64 d, .bool r]] W fun e w' => ∃ v, e = .returned v ∧ Own w' W.heap.size 5 v (encB k i d r) ∧ Below W.heap.size W w') := fun W => refPut5_any k i d r W (rule_var.plain k i d r hm)
            have HEl : Hid ((encB k i d r).length ≤ 10) := enc_len (k, i, d, r) (rule_var.plainT _ hm)
            go_wp2_with fail
            refine (where2_any k i d r _).mono ?_
            rintro e w2 ⟨rfl, hb2⟩
            have hcc := (bcell hb2).1
            have HBl : Hid (b < wr.heap.size) := by show _ < _; omega
            rw [← hcc b _ HBl.out] at c0 c1 c2 c3
            clear hcc
            have HO2 : Hid (Own w2 w.heap.size 5 u4 (Z ++ encs (ts.take q))) := HO.out.later hb2
            have hB2 := hB.trans (hb2.mono hsw)
            have hA2 := hA.later hb2
            clear hb2 hB HO hA sc
            have sc2 := hA2.cell
            go_wp2_with fail
            refine (HPt.out _).mono ?_
            rintro e w3 ⟨v3, rfl, ho3, hb3⟩
            have HO3 : Hid (Own w3 w.heap.size 5 u4 (Z ++ encs (ts.take q))) := HO2.out.later hb3
            have HY : Hid (Bs w3 v3 (encB k i d r)) := ho3.bs
            have hB3 := hB2.trans (hb3.mono hB2.size)
            have hA3 := hA2.later hb3
            have hs3 := hB3.size
            clear ho3 hb3 hB2 HO2 hA2 sc2 c0 c1 c2 c3
            go_wp2_with (at_builtin; go_must (refine wpList_append_bs rfl _ _ _ rfl w.heap.size 5 Try.underlying26 Try.infoU8 rfl rfl (HO3.out) (HY.out) (by have := HLE.out; have := HEl.out; omega) (hs3) ?_))
            intro v4 w4 ho4 hg4
            have hb4 : Below w.heap.size w3 w4 := (Below.refl _ _).grown hg4 hs3 (fun k hk => (HO3.out.block k hk).1)
            have hA4 := hA3.grown HO3.out (by decide) hg4
            have hB4 := hB3.trans hb4
            have HO4 : Hid (Own w4 w.heap.size 5 v4 (Z ++ encs (ts.take (q + 1)))) := by
              show Own _ _ _ _ _
              rw [HT.out, encs_snoc, ← List.append_assoc]; first | exact ho4 | (rw [List.append_assoc]; exact ho4)
            clear ho4 hg4 hb4 hB3 hA3
            go_wp2
            go_roundw
            case rel => exact ⟨q + 1, by omega, by go_num, HO4.out, hA4, hB4, by rw [HT.out, List.all_append, HAl.out]; simpa using HM.out⟩
            case measure => simp [intOf]; omega
          · have hm' : mayB 2 k i d r = false := by simpa using hm
            have HNA : Hid (ts.all (mayT 2) = false) := by
              show _ = _
              rcases hz : ts.all (mayT 2) with _ | _
              · rfl
              · exact absurd (HS.out hz) (by simp [mayT, hm'])
            have HF : Hid (sigE ts (k0, i0, d0, r0) = 17) := by show _ = _; unfold sigE; rw [if_neg (by omega), if_neg (by rw [HNA.out]; simp)]
            clear hm
            go_wp2_with fail
            refine (where2_any k i d r _).mono ?_
            rintro e w2 ⟨rfl, hb2⟩
            have hB2 := hB.trans (hb2.mono hsw)
            clear hb2 hB
            go_wp2
            go_ret2
            exact ⟨fun h => absurd h (by rw [HF.out]; decide), fun _ => by rw [HF.out]; rfl, hB2⟩
        · have hqq : q = ts.length := by omega
          subst hqq
          rw [List.take_length] at HO HAl
          have HF : Hid (sigE ts (k0, i0, d0, r0) = 0) := by show _ = _; unfold sigE; rw [if_neg (by omega), if_pos ⟨HM3.out, HAl.out⟩]
          go_wp2
          go_ret2
          exact ⟨fun _ => ⟨_, rfl, by have h9 := HO.out; rw [HZ.out] at h9; simpa [sigL, encT, hdN] using h9⟩, fun h => absurd HF.out h, hB⟩
    · have hm3' : mayB 3 k0 i0 d0 r0 = false := by simpa using hm3
      have HF : Hid (sigE ts (k0, i0, d0, r0) = 17) := by show _ = _; unfold sigE; rw [if_neg (by omega), if_neg (by simp [mayT, hm3'])]
      clear hm3
      go_wp2_with fail
      refine (where3_any k0 i0 d0 r0 _).mono ?_
      rintro e w3 ⟨rfl, hb3⟩
      have hB3 := hB2.trans (hb3.mono hB2.size)
      clear hb3 hB2
      go_wp2
      go_ret2
      exact ⟨fun h => absurd h (by rw [HF.out]; decide), fun _ => by rw [HF.out]; rfl, hB3⟩

set_option maxHeartbeats 8000000 in
set_option maxRecDepth 100000 in
theorem refPutSig_none {w : World} (x : Option Addr) (pc : Nat) (this : Bool) (k0 i0 d0 : Int) (r0 : Bool) :
    Calls Try.prog 27 #[.agg #[.bool this, .slice x 0 pc, .int .i64 k0, .int .i64 i0, .int .i64 d0, .bool r0]] w fun e w' => PutR w w' (sigL this [] (k0, i0, d0, r0)) (sigE [] (k0, i0, d0, r0)) e := by
  have hb0 : Below w.heap.size w (w.alloc (.cells #[.bool this, .slice x 0 pc, .int .i64 k0, .int .i64 i0, .int .i64 d0, .bool r0] 39)) := (Below.refl _ _).alloc (Nat.le_refl _) _
  have hS0 := At.made w #[.bool this, .slice x 0 pc, .int .i64 k0, .int .i64 i0, .int .i64 d0, .bool r0] 39
  cases this with
  | true =>
    obtain ⟨Z, hZ⟩ : ∃ Z : List UInt8, Z = [32, 0] ++ encB k0 i0 d0 r0 := ⟨_, rfl⟩
    have HZ : Hid (Z = [32, 0] ++ encB k0 i0 d0 r0) := hZ
    have HZL : Hid (mayB 3 k0 i0 d0 r0 = true → Z.length ≤ 12) := fun h => by
      have h9 : (encB k0 i0 d0 r0).length ≤ 10 := enc_len (k0, i0, d0, r0) (rule_answer.plainT _ h)
      rw [hZ]; simp; omega
    clear hZ
    go_enter Try.func27, Try.ntmps27
    go_wp2_with (at_builtin; go_must (refine wpList_append_bs rfl _ _ _ rfl w.heap.size 5 Try.underlying26 Try.infoU8 rfl rfl (Own.nil _ _ _) (bs_lit2 (w.alloc (.cells #[.bool true, .slice x 0 pc, .int .i64 k0, .int .i64 i0, .int .i64 d0, .bool r0] 39)) _ (by simp) [32] _ _ _ (by simp [u8s]) rfl (by simp [maxLen])) (by simp) (by simp; try omega) ?_))
    intro v1 w1 ho1 hg1
    have hB1 : Below w.heap.size w w1 := (hb0.alloc hb0.size _).grown hg1 (by simp; try omega) (fun k hk => by simp [Value.ownBlock] at hk)
    have hA1 := (hS0.next (.cells #[.int .u8 32] 5)).grown (Own.nil _ w.heap.size 5) (by decide) hg1
    have HO1 : Hid (Own w1 w.heap.size 5 v1 [32]) := by have h9 := ho1; show Own _ _ _ _ _; simpa using h9
    clear ho1 hg1 hb0 hS0
    have sc1 := hA1.cell
    have hs1 := hB1.size
    go_wp2_with (at_builtin; go_must (refine wpList_append_bs rfl _ _ _ rfl w.heap.size 5 Try.underlying26 Try.infoU8 rfl rfl (HO1.out.later ((Below.refl _ _).alloc (Nat.le_refl _) _)) (bs_lit w1 [0] _ _ _ (by simp [u8s]) rfl (by simp [maxLen])) (by simp) (by simp; omega) ?_))
    intro v2 w2 ho2 hg2
    have hB2 : Below w.heap.size w w2 := hB1.trans (((Below.refl _ _).alloc (by omega) _).grown hg2 (by simp; omega) (fun k hk => (HO1.out.block k hk).1))
    have hA2 := (hA1.next (.cells #[.int .u8 0] 5)).grown (HO1.out.later ((Below.refl _ _).alloc (Nat.le_refl _) _)) (by decide) hg2
    have HO2 : Hid (Own w2 w.heap.size 5 v2 [32, 0]) := by have h9 := ho2; show Own _ _ _ _ _; simpa using h9
    clear ho2 hg2 hA1 hB1 HO1 sc1 hs1
    have sc2 := hA2.cell
    by_cases hm3 : mayB 3 k0 i0 d0 r0 = true
    · have HPt3 : Hid (∀ W, Calls Try.prog 14 #[.agg #[.int .i64 k0, .int .i64 i0, .int .i64 d0, .bool r0]] W fun e w' => ∃ v, e = .returned v ∧ Own w' W.heap.size 5 v (encB k0 i0 d0 r0) ∧ Below W.heap.size W w') := fun W => refPut5_any k0 i0 d0 r0 W (rule_answer.plain k0 i0 d0 r0 hm3)
      have HEl3 : Hid ((encB k0 i0 d0 r0).length ≤ 10) := enc_len (k0, i0, d0, r0) (rule_answer.plainT _ hm3)
      have HM3 : Hid (mayT 3 (k0, i0, d0, r0) = true) := hm3
      go_wp2_with fail
      refine (where3_any k0 i0 d0 r0 _).mono ?_
      rintro e w3 ⟨rfl, hb3⟩
      have hA3 := hA2.later hb3
      have hB3 := hB2.trans (hb3.mono hB2.size)
      have HO3 : Hid (Own w3 w.heap.size 5 v2 [32, 0]) := HO2.out.later hb3
      clear hb3 hA2 hB2 HO2 sc2
      have sc3 := hA3.cell
      go_wp2_with fail
      refine (HPt3.out _).mono ?_
      rintro e w4 ⟨v4, rfl, ho4, hb4⟩
      have hA4 := hA3.later hb4
      have hB4 := hB3.trans (hb4.mono hB3.size)
      have HO4 : Hid (Own w4 w.heap.size 5 v2 [32, 0]) := HO3.out.later hb4
      have HY4 : Hid (Bs w4 v4 (encB k0 i0 d0 r0)) := ho4.bs
      have hs4 := hB4.size
      clear hb4 ho4 hA3 hB3 HO3 sc3 HPt3
      go_wp2_with (at_builtin; go_must (refine wpList_append_bs rfl _ _ _ rfl w.heap.size 5 Try.underlying26 Try.infoU8 rfl rfl (HO4.out) (HY4.out) (by have := HEl3.out; simp; omega) (hs4) ?_))
      intro v5 w5 ho5 hg5
      have hb5 : Below w.heap.size w4 w5 := (Below.refl _ _).grown hg5 hs4 (fun k hk => (HO4.out.block k hk).1)
      have hA5 := hA4.grown HO4.out (by decide) hg5
      have hB5 := hB4.trans hb5
      have hZ5 : Own w5 w.heap.size 5 v5 Z := by rw [HZ.out]; have h9 := ho5; simpa using h9
      clear ho5 hg5 hb5 hA4 hB4 HO4 HY4 hs4
      have sc5 := hA5.cell
      go_wp2
      go_loopw [4, 5] (fun u z wr => z = .int .i64 0 ∧ u = v5 ∧ wr = w5) (fun _ z _ => 0)
      case atStart => exact ⟨rfl, rfl, rfl⟩
      case round =>
        obtain ⟨rfl, rfl, rfl⟩ := hrel
        have HF : Hid (sigE [] (k0, i0, d0, r0) = 0) := by show _ = _; unfold sigE; rw [if_neg (by simp), if_pos ⟨HM3.out, by simp⟩]
        have HO : Hid (Own wr w.heap.size 5 u4 Z) := hZ5
        clear hZ5
        go_wp2
        go_ret2
        exact ⟨fun _ => ⟨_, rfl, by have h9 := HO.out; rw [HZ.out] at h9; simpa [sigL, encT, hdN, encs] using h9⟩, fun h => absurd HF.out h, hB5⟩
    · have hm3' : mayB 3 k0 i0 d0 r0 = false := by simpa using hm3
      have HF : Hid (sigE [] (k0, i0, d0, r0) = 17) := by show _ = _; unfold sigE; rw [if_neg (by simp), if_neg (by simp [mayT, hm3'])]
      clear hm3
      go_wp2_with fail
      refine (where3_any k0 i0 d0 r0 _).mono ?_
      rintro e w3 ⟨rfl, hb3⟩
      have hB3 := hB2.trans (hb3.mono hB2.size)
      clear hb3 hB2
      go_wp2
      go_ret2
      exact ⟨fun h => absurd h (by rw [HF.out]; decide), fun _ => by rw [HF.out]; rfl, hB3⟩
  | false =>
    obtain ⟨Z, hZ⟩ : ∃ Z : List UInt8, Z = [0, 0] ++ encB k0 i0 d0 r0 := ⟨_, rfl⟩
    have HZ : Hid (Z = [0, 0] ++ encB k0 i0 d0 r0) := hZ
    have HZL : Hid (mayB 3 k0 i0 d0 r0 = true → Z.length ≤ 12) := fun h => by
      have h9 : (encB k0 i0 d0 r0).length ≤ 10 := enc_len (k0, i0, d0, r0) (rule_answer.plainT _ h)
      rw [hZ]; simp; omega
    clear hZ
    go_enter Try.func27, Try.ntmps27
    go_wp2_with (at_builtin; go_must (refine wpList_append_bs rfl _ _ _ rfl w.heap.size 5 Try.underlying26 Try.infoU8 rfl rfl (Own.nil _ _ _) (bs_lit2 (w.alloc (.cells #[.bool false, .slice x 0 pc, .int .i64 k0, .int .i64 i0, .int .i64 d0, .bool r0] 39)) _ (by simp) [0] _ _ _ (by simp [u8s]) rfl (by simp [maxLen])) (by simp) (by simp; try omega) ?_))
    intro v1 w1 ho1 hg1
    have hB1 : Below w.heap.size w w1 := (hb0.alloc hb0.size _).grown hg1 (by simp; try omega) (fun k hk => by simp [Value.ownBlock] at hk)
    have hA1 := (hS0.next (.cells #[.int .u8 0] 5)).grown (Own.nil _ w.heap.size 5) (by decide) hg1
    have HO1 : Hid (Own w1 w.heap.size 5 v1 [0]) := by have h9 := ho1; show Own _ _ _ _ _; simpa using h9
    clear ho1 hg1 hb0 hS0
    have sc1 := hA1.cell
    have hs1 := hB1.size
    go_wp2_with (at_builtin; go_must (refine wpList_append_bs rfl _ _ _ rfl w.heap.size 5 Try.underlying26 Try.infoU8 rfl rfl (HO1.out.later ((Below.refl _ _).alloc (Nat.le_refl _) _)) (bs_lit w1 [0] _ _ _ (by simp [u8s]) rfl (by simp [maxLen])) (by simp) (by simp; omega) ?_))
    intro v2 w2 ho2 hg2
    have hB2 : Below w.heap.size w w2 := hB1.trans (((Below.refl _ _).alloc (by omega) _).grown hg2 (by simp; omega) (fun k hk => (HO1.out.block k hk).1))
    have hA2 := (hA1.next (.cells #[.int .u8 0] 5)).grown (HO1.out.later ((Below.refl _ _).alloc (Nat.le_refl _) _)) (by decide) hg2
    have HO2 : Hid (Own w2 w.heap.size 5 v2 [0, 0]) := by have h9 := ho2; show Own _ _ _ _ _; simpa using h9
    clear ho2 hg2 hA1 hB1 HO1 sc1 hs1
    have sc2 := hA2.cell
    by_cases hm3 : mayB 3 k0 i0 d0 r0 = true
    · have HPt3 : Hid (∀ W, Calls Try.prog 14 #[.agg #[.int .i64 k0, .int .i64 i0, .int .i64 d0, .bool r0]] W fun e w' => ∃ v, e = .returned v ∧ Own w' W.heap.size 5 v (encB k0 i0 d0 r0) ∧ Below W.heap.size W w') := fun W => refPut5_any k0 i0 d0 r0 W (rule_answer.plain k0 i0 d0 r0 hm3)
      have HEl3 : Hid ((encB k0 i0 d0 r0).length ≤ 10) := enc_len (k0, i0, d0, r0) (rule_answer.plainT _ hm3)
      have HM3 : Hid (mayT 3 (k0, i0, d0, r0) = true) := hm3
      go_wp2_with fail
      refine (where3_any k0 i0 d0 r0 _).mono ?_
      rintro e w3 ⟨rfl, hb3⟩
      have hA3 := hA2.later hb3
      have hB3 := hB2.trans (hb3.mono hB2.size)
      have HO3 : Hid (Own w3 w.heap.size 5 v2 [0, 0]) := HO2.out.later hb3
      clear hb3 hA2 hB2 HO2 sc2
      have sc3 := hA3.cell
      go_wp2_with fail
      refine (HPt3.out _).mono ?_
      rintro e w4 ⟨v4, rfl, ho4, hb4⟩
      have hA4 := hA3.later hb4
      have hB4 := hB3.trans (hb4.mono hB3.size)
      have HO4 : Hid (Own w4 w.heap.size 5 v2 [0, 0]) := HO3.out.later hb4
      have HY4 : Hid (Bs w4 v4 (encB k0 i0 d0 r0)) := ho4.bs
      have hs4 := hB4.size
      clear hb4 ho4 hA3 hB3 HO3 sc3 HPt3
      go_wp2_with (at_builtin; go_must (refine wpList_append_bs rfl _ _ _ rfl w.heap.size 5 Try.underlying26 Try.infoU8 rfl rfl (HO4.out) (HY4.out) (by have := HEl3.out; simp; omega) (hs4) ?_))
      intro v5 w5 ho5 hg5
      have hb5 : Below w.heap.size w4 w5 := (Below.refl _ _).grown hg5 hs4 (fun k hk => (HO4.out.block k hk).1)
      have hA5 := hA4.grown HO4.out (by decide) hg5
      have hB5 := hB4.trans hb5
      have hZ5 : Own w5 w.heap.size 5 v5 Z := by rw [HZ.out]; have h9 := ho5; simpa using h9
      clear ho5 hg5 hb5 hA4 hB4 HO4 HY4 hs4
      have sc5 := hA5.cell
      go_wp2
      go_loopw [4, 5] (fun u z wr => z = .int .i64 0 ∧ u = v5 ∧ wr = w5) (fun _ z _ => 0)
      case atStart => exact ⟨rfl, rfl, rfl⟩
      case round =>
        obtain ⟨rfl, rfl, rfl⟩ := hrel
        have HF : Hid (sigE [] (k0, i0, d0, r0) = 0) := by show _ = _; unfold sigE; rw [if_neg (by simp), if_pos ⟨HM3.out, by simp⟩]
        have HO : Hid (Own wr w.heap.size 5 u4 Z) := hZ5
        clear hZ5
        go_wp2
        go_ret2
        exact ⟨fun _ => ⟨_, rfl, by have h9 := HO.out; rw [HZ.out] at h9; simpa [sigL, encT, hdN, encs] using h9⟩, fun h => absurd HF.out h, hB5⟩
    · have hm3' : mayB 3 k0 i0 d0 r0 = false := by simpa using hm3
      have HF : Hid (sigE [] (k0, i0, d0, r0) = 17) := by show _ = _; unfold sigE; rw [if_neg (by simp), if_neg (by simp [mayT, hm3'])]
      clear hm3
      go_wp2_with fail
      refine (where3_any k0 i0 d0 r0 _).mono ?_
      rintro e w3 ⟨rfl, hb3⟩
      have hB3 := hB2.trans (hb3.mono hB2.size)
      clear hb3 hB2
      go_wp2
      go_ret2
      exact ⟨fun h => absurd h (by rw [HF.out]; decide), fun _ => by rw [HF.out]; rfl, hB3⟩

theorem refPutSig_any {w : World} {pv : Value} {ts : List Ty} (hT : Ts w pv ts) (this : Bool) (k i d : Int) (r : Bool) :
    Calls Try.prog 27 #[.agg #[.bool this, pv, .int .i64 k, .int .i64 i, .int .i64 d, .bool r]] w fun e w' => PutR w w' (sigL this ts (k, i, d, r)) (sigE ts (k, i, d, r)) e := by
  obtain ⟨pa, pc, rfl, hp1, hp2, hp3⟩ := hT
  unfold maxLen at hp2
  by_cases h6 : 6 < ts.length
  · have HE : Hid (sigE ts (k, i, d, r) = 4) := by show _ = _; unfold sigE; rw [if_pos h6]
    have hb0 : Below w.heap.size w (w.alloc (.cells #[.bool this, .slice pa ts.length pc, .int .i64 k, .int .i64 i, .int .i64 d, .bool r] 39)) := (Below.refl _ _).alloc (Nat.le_refl _) _
    clear hp3
    go_enter Try.func27, Try.ntmps27
    go_wp2
    go_ret2
    exact ⟨fun h => absurd h (by rw [HE.out]; decide), fun _ => by rw [HE.out]; rfl, hb0⟩
  · by_cases hne : ts = []
    · subst hne
      exact refPutSig_none pa pc this k i d r
    · obtain ⟨b, off, rfl, hb1, hc⟩ := hp3 hne
      exact refPutSig_some hc hb1 (by omega) this k i d r

end Go.Proofs.Ytcjoidhbhffcgaa
