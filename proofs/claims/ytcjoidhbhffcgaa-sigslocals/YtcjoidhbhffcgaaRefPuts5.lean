
/- PutLocals and PutSig of the references. -/
import Derived.Test.YtcjoidhbhffcgaaPutSig5
namespace Go.Proofs.Ytcjoidhbhffcgaa
set_option linter.unusedVariables false
set_option linter.unusedSimpArgs false
open Go.RowKit

theorem u8_len (n : Nat) (h : n ≤ 100) : u8s [UInt8.ofNat n] = [.int .u8 (n : Int)] := by
  simp [u8s]; omega

/-- The cells of a list of types that is there. -/
def TsC (w : World) (b off : Nat) (ts : List Ty) : Prop := ∀ i (h : i < ts.length), w.cell? ⟨b, off + i * 4, none⟩ = some (.int .i64 ts[i].1) ∧ w.cell? ⟨b, off + i * 4 + 1, none⟩ = some (.int .i64 ts[i].2.1) ∧
      w.cell? ⟨b, off + i * 4 + 2, none⟩ = some (.int .i64 ts[i].2.2.1) ∧ w.cell? ⟨b, off + i * 4 + 3, none⟩ = some (.bool ts[i].2.2.2)

set_option maxHeartbeats 4000000 in
set_option maxRecDepth 100000 in
theorem refPutLocals_some {w : World} {b off cap : Nat} {ts : List Ty} (hcell : TsC w b off ts) (hb : b < w.heap.size) (hlen : ts.length ≤ 12) :
    Calls Try.prog 29 #[.slice (some ⟨b, off, none⟩) ts.length cap] w fun e w' => PutR w w' (locL ts) (locE ts) e := by
  have HC : Hid (TsC w b off ts) := hcell
  have HE1 : Hid (ts.all (mayT 2) = true → locE ts = 0) := fun h => by unfold locE; rw [if_neg (by omega), if_pos h]
  have HE2 : Hid (ts.all (mayT 2) = false → locE ts = 17) := fun h => by unfold locE; rw [if_neg (by omega), if_neg (by rw [h]; simp)]
  have HLit : Hid (Bs (w.alloc (.cells #[.int .u8 7, .int .u8 (ts.length : Int)] 5)) (.slice (some ⟨w.heap.size, 0, none⟩) 2 2) [7, UInt8.ofNat ts.length]) := bs_lit w [7, UInt8.ofNat ts.length] _ _ _ (by simp [u8s]; omega) rfl (by simp [maxLen])
  clear hcell
  go_enter Try.func29, Try.ntmps29
  go_wp2_with (at_builtin; go_must (refine wpList_append_bs rfl _ _ _ rfl w.heap.size 5 Try.underlying26 Try.infoU8 rfl rfl (Own.nil _ _ _) HLit.out (by simp) (by simp) ?_))
  intro v1 w1 ho1 hg1
  have hB1 : Below w.heap.size w w1 := ((Below.refl _ _).alloc (Nat.le_refl _) _).grown hg1 (by simp) (fun k hk => by simp [Value.ownBlock] at hk)
  clear hg1 HLit
  go_wp2
  go_loopw [4, 5] (fun u z wr => ∃ q : Nat, q ≤ ts.length ∧ z = .int .i64 (q : Int) ∧ Own wr w.heap.size 5 u ([7, UInt8.ofNat ts.length] ++ encs (ts.take q)) ∧ Below w.heap.size w wr ∧ (ts.take q).all (mayT 2) = true) (fun _ z _ => ts.length - (intOf z).toNat)
  case atStart => exact ⟨0, Nat.zero_le _, rfl, by simpa [encs] using ho1, hB1, by simp⟩
  case round =>
    obtain ⟨q, hq, rfl, ho, hB, hall⟩ := hrel
    clear ho1 hB1
    have hsw := hB.size
    have HO : Hid (Own wr w.heap.size 5 u4 ([7, UInt8.ofNat ts.length] ++ encs (ts.take q))) := ho
    have hle := encs_len (ts.take q) 2 (fun t h => rule_var.plainT t h) hall
    have HLE : Hid (([7, UInt8.ofNat ts.length] ++ encs (ts.take q)).length ≤ 1000) := by show _ ≤ _; simp at hle ⊢; omega
    have HA : Hid ((ts.take q).all (mayT 2) = true) := hall
    clear ho hle hall
    by_cases hql : q < ts.length
    · obtain ⟨c0, c1, c2, c3⟩ := HC.out q hql
      have e : ∀ o, wr.cell? ⟨b, o, none⟩ = w.cell? ⟨b, o, none⟩ := fun o => hB.cell (p := ⟨b, o, none⟩) hb
      rw [← e] at c0 c1 c2 c3
      clear e
      have HT : Hid (ts.take (q + 1) = ts.take q ++ [ts[q]]) := by show _ = _; rw [List.take_succ_eq_append_getElem hql]
      have HS : Hid (ts.all (mayT 2) = true → mayT 2 ts[q] = true) := fun h => List.all_eq_true.1 h _ (List.getElem_mem hql)
      generalize ts[q] = t at *
      obtain ⟨k, i, d, r⟩ := t
      simp only at c0 c1 c2 c3
      by_cases hm : mayB 2 k i d r = true
      · have HM : Hid (mayT 2 (k, i, d, r) = true) := hm
        have HPt : Hid (∀ W, Calls Try.prog 14 #[.agg #[.int .i64 k, .int .i64 i, .int .i64 d, .bool r]] W fun e w' => ∃ v, e = .returned v ∧ Own w' W.heap.size 5 v (encB k i d r) ∧ Below W.heap.size W w') := fun W => refPut5_any k i d r W (rule_var.plain k i d r hm)
        have HEl : Hid ((encB k i d r).length ≤ 10) := enc_len (k, i, d, r) (rule_var.plainT _ hm)
        go_wp2_with fail
        refine (where2_any k i d r _).mono ?_
        rintro e w2 ⟨rfl, hb2⟩
        have hcc := (bcell hb2).1
        have HBl : Hid (b < wr.heap.size) := by show _ < _; omega
        rw [← hcc b _ HBl.out] at c0 c1 c2 c3
        clear hcc
        have HO2 : Hid (Own w2 w.heap.size 5 u4 ([7, UInt8.ofNat ts.length] ++ encs (ts.take q))) := HO.out.later hb2
        have hB2 := hB.trans (hb2.mono hsw)
        clear hb2 hB HO
        go_wp2_with fail
        refine (HPt.out _).mono ?_
        rintro e w3 ⟨v3, rfl, ho3, hb3⟩
        have HO3 : Hid (Own w3 w.heap.size 5 u4 ([7, UInt8.ofNat ts.length] ++ encs (ts.take q))) := HO2.out.later hb3
        have HY : Hid (Bs w3 v3 (encB k i d r)) := ho3.bs
        have hB3 := hB2.trans (hb3.mono hB2.size)
        have hs3 := hB3.size
        clear ho3 hb3 hB2 HO2 c0 c1 c2 c3
        go_wp2_with (at_builtin; go_must (refine wpList_append_bs rfl _ _ _ rfl w.heap.size 5 Try.underlying26 Try.infoU8 rfl rfl HO3.out HY.out (by have := HLE.out; have := HEl.out; omega) hs3 ?_))
        intro v4 w4 ho4 hg4
        have hb4 : Below w.heap.size w3 w4 := (Below.refl _ _).grown hg4 hs3 (fun k hk => (HO3.out.block k hk).1)
        have hB4 := hB3.trans hb4
        have HO4 : Hid (Own w4 w.heap.size 5 v4 ([7, UInt8.ofNat ts.length] ++ encs (ts.take (q + 1)))) := by
          show Own _ _ _ _ _
          rw [HT.out, encs_snoc, ← List.append_assoc]; exact ho4
        clear ho4 hg4 hb4 hB3
        go_wp2
        go_roundw
        case rel => exact ⟨q + 1, by omega, by go_num, HO4.out, hB4, by rw [HT.out, List.all_append, HA.out]; simpa using HM.out⟩
        case measure => simp [intOf]; omega
      · have hm' : mayB 2 k i d r = false := by simpa using hm
        have HNA : Hid (ts.all (mayT 2) = false) := by
          show _ = _
          rcases hz : ts.all (mayT 2) with _ | _
          · rfl
          · exact absurd (HS.out hz) (by simp [mayT, hm'])
        have HF : Hid (locE ts = 17) := HE2.out HNA.out
        clear hm
        go_wp2_with fail
        refine (where2_any k i d r _).mono ?_
        rintro e w2 ⟨rfl, hb2⟩
        have hB2 := hB.trans (hb2.mono hsw)
        clear hb2 hB
        go_wp2
        go_ret2
        exact ⟨fun h => absurd h (by rw [HF.out]; decide), fun _ => by rw [HF.out]; rfl, hB2⟩
    · have hqq : q = ts.length := by omega
      subst hqq
      rw [List.take_length] at HO HA
      have HF : Hid (locE ts = 0) := HE1.out HA.out
      go_wp2
      go_ret2
      exact ⟨fun _ => ⟨_, rfl, HO.out⟩, fun h => absurd HF.out h, hB⟩

set_option maxHeartbeats 1000000 in
theorem refPutLocals_none {w : World} (x : Option Addr) (cap : Nat) :
    Calls Try.prog 29 #[.slice x 0 cap] w fun e w' => PutR w w' (locL []) (locE []) e := by
  have HE1 : Hid (locE [] = 0) := by show _ = _; decide
  have HLit : Hid (Bs (w.alloc (.cells #[.int .u8 7, .int .u8 0] 5)) (.slice (some ⟨w.heap.size, 0, none⟩) 2 2) [7, 0]) := bs_lit w [7, 0] _ _ _ (by simp [u8s]) rfl (by simp [maxLen])
  go_enter Try.func29, Try.ntmps29
  go_wp2_with (at_builtin; go_must (refine wpList_append_bs rfl _ _ _ rfl w.heap.size 5 Try.underlying26 Try.infoU8 rfl rfl (Own.nil _ _ _) HLit.out (by simp) (by simp) ?_))
  intro v1 w1 ho1 hg1
  have hB1 : Below w.heap.size w w1 := ((Below.refl _ _).alloc (Nat.le_refl _) _).grown hg1 (by simp) (fun k hk => by simp [Value.ownBlock] at hk)
  have HO1 : Hid (Own w1 w.heap.size 5 v1 [7, 0]) := ho1
  clear hg1 HLit ho1
  go_wp2
  go_loopw [4, 5] (fun u z wr => z = .int .i64 0 ∧ u = v1 ∧ wr = w1) (fun _ z _ => 0)
  case atStart => exact ⟨rfl, rfl, rfl⟩
  case round =>
    obtain ⟨rfl, rfl, rfl⟩ := hrel
    go_wp2
    go_ret2
    exact ⟨fun _ => ⟨_, rfl, by simpa [locL, encs] using HO1.out⟩, fun h => absurd HE1.out h, hB1⟩

theorem refPutLocals_any {w : World} {pv : Value} {ts : List Ty} (hT : Ts w pv ts) :
    Calls Try.prog 29 #[pv] w fun e w' => PutR w w' (locL ts) (locE ts) e := by
  obtain ⟨pa, pc, rfl, hp1, hp2, hp3⟩ := hT
  unfold maxLen at hp2
  by_cases h12 : 12 < ts.length
  · have HE : Hid (locE ts = 4) := by show _ = _; unfold locE; rw [if_pos h12]
    clear hp3
    go_enter Try.func29, Try.ntmps29
    go_wp2
    go_ret2
    exact ⟨fun h => absurd h (by rw [HE.out]; decide), fun _ => by rw [HE.out]; rfl, Below.refl _ _⟩
  · by_cases hne : ts = []
    · subst hne
      exact refPutLocals_none pa pc
    · obtain ⟨b, off, rfl, hb1, hc⟩ := hp3 hne
      exact refPutLocals_some hc hb1 (by omega)

end Go.Proofs.Ytcjoidhbhffcgaa
