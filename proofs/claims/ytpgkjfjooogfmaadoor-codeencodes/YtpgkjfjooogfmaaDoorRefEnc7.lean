
/- Encode of the references. -/
import Derived.Test.YtpgkjfjooogfmaaDoorEnc7
namespace Go.Proofs.YtpgkjfjooogfmaaDoor
set_option linter.unusedVariables false
set_option linter.unusedSimpArgs false
open Go.RowKit
attribute [local go_sem ↓] Go.wp_at_zero Go.wp_at_succ

theorem low_any (x : Int) (n : Nat) (hn : n ≤ 8) (w : World) :
    Calls Tryd.prog 25 #[.int .i64 x, .int .i64 (n : Int)] w fun e w' => ∃ v, e = .returned v ∧ Own w' w.heap.size 5 v (leL (u64n x) n) ∧ Below w.heap.size w w' := by
  have hu := u64n_wrap x
  have HP : Hid (Calls Tryd.prog 39 #[.int .u64 (u64n x : Int), .int .i64 (n : Int)] w fun e w' => ∃ v, e = .returned v ∧ Own w' w.heap.size 5 v (leL (u64n x) n) ∧ Below w.heap.size w w') := refPut_any (u64n x) n (u64n_lt x) hn w
  generalize leL (u64n x) n = ys at *
  generalize u64n x = un at *
  go_enter Tryd.func25, Tryd.ntmps25
  go_wp2_with fail
  refine Calls.mono HP.out ?_
  rintro e w1 ⟨v, rfl, h1, h2⟩
  go_wp2
  go_ret
  exact ⟨_, rfl, h1, h2⟩

theorem refEncode_bad {v : Value} {l : List Ins} {w : World} (hX : Xs w v l) (hE : plE l ≠ 0) :
    Calls Tryd.prog 11 #[v] w fun e w' => EnR w w' l e := by
  have HE : Hid (encE l = plE l) := by show _ = _; unfold encE; rw [if_neg hE]
  have HN : Hid (plE l ≠ 0) := hE
  have hne : (plE l != 0) = true := by rw [bne_iff_ne]; exact hE
  obtain ⟨a, c, rfl, h1, h2⟩ := id hX.shape
  have HP := refPlaces_any hX
  clear hX hE
  go_enter Tryd.func11, Tryd.ntmps11
  go_wp2_with fail
  refine Calls.mono HP ?_
  rintro e w1 ⟨_, hno, hb⟩
  obtain rfl := hno HN.out
  clear hno HP
  go_wp2_with fail
  go_ret2
  exact ⟨fun h => absurd (HE.out.symm.trans h) HN.out, fun _ => by rw [HE.out]; rfl, hb⟩

set_option maxHeartbeats 1000000 in
theorem refEncode_none (a : Option Addr) (cap : Nat) (w : World) (h2 : cap ≤ maxLen) :
    Calls Tryd.prog 11 #[.slice a 0 cap] w fun e w' => EnR w w' [] e := by
  have hX : Xs w (.slice a 0 cap) [] := ⟨a, cap, rfl, Nat.zero_le _, h2, fun h => absurd rfl h⟩
  have HP : Hid (Calls Tryd.prog 9 #[.slice a 0 cap] w fun e w' => PlR w w' [] e) := refPlaces_any hX
  clear hX
  go_enter Tryd.func11, Tryd.ntmps11
  go_wp2_with fail
  refine Calls.mono HP.out ?_
  rintro e w1 ⟨hyes, _, hb1⟩
  obtain ⟨pv, rfl, hO⟩ := hyes rfl
  clear hyes hO HP
  go_wp2_with fail
  refine wp_loop_rounds 1 ?_; rw [rounds_succ]
  go_wp2
  go_ret2
  exact ⟨fun _ => ⟨_, rfl, Own.nil _ _ _⟩, fun h => absurd rfl h, hb1⟩

theorem grown_below7 {w w' : World} {B : Nat} {row : Option Nat} (hg : w.grownBy w' row) (hB : B ≤ w.heap.size) (hr : ∀ k, row = some k → B ≤ k) : Below B w w' :=
  ⟨hg.os, hg.tape, hg.output, hg.size, fun k hk => hg.block k (by omega) (fun e => by have := hr k e.symm; omega)⟩
theorem At.grownU {w w' : World} {g base : Nat} {C : Array Value} {t : TypeId} {v : Value} {xs : List UInt8} (h : At w g C t) (ho : Own w base 5 v xs) (ht : t ≠ 5) (hg : w.grownBy w' v.ownBlock) : At w' g C t := by
  have hl := h.lt
  have hne := ho.ne h ht
  unfold At at h ⊢
  rw [hg.block g hl (fun e => hne e.symm)]; exact h
theorem OwnI.grownU {w w' : World} {base base' : Nat} {v u : Value} {l : List Int} {xs : List UInt8} (h : OwnI w base v l) (ho : Own w base' 5 u xs) (hg : w.grownBy w' u.ownBlock) : OwnI w' base v l :=
  h.of_block fun k hk hlt => by
    obtain ⟨C, hC⟩ := h.typed k hk
    exact hg.block k hlt (fun e => ho.ne hC (by decide) e.symm)
theorem two_later {w W W2 : World} (h : Below w.drew.heap.size w.drew W) (h2 : Below W.heap.size W W2) : Below w.heap.size w W2 := (drew_later h).trans (h2.mono (drew_later h).size)
theorem any_true {p : Ins → Bool} {l : List Ins} {q : Nat} (hq : q < l.length) (h : p l[q] = true) : l.any p = true := List.any_eq_true.2 ⟨_, List.getElem_mem hq, h⟩

set_option maxHeartbeats 4000000 in
set_option maxRecDepth 100000 in
theorem refEncode_some {b off cap : Nat} {l : List Ins} {w : World} (hX : Xs w (.slice (some ⟨b, off, none⟩) l.length cap) l) (hb : b < w.heap.size) (hc : ∀ i (hi : i < l.length), Six w b (off + i * 6) l[i]) (h1 : l.length ≤ cap) (h2 : cap ≤ maxLen) (hE : plE l = 0) :
    Calls Tryd.prog 11 #[.slice (some ⟨b, off, none⟩) l.length cap] w fun e w' => EnR w w' l e := by
  obtain ⟨hl, hraw⟩ := plE_zero hE
  unfold maxLen at h2
  have HP0 : Hid (plE l = 0) := hE
  have HC : Hid (∀ i (hi : i < l.length), Six w b (off + i * 6) l[i]) := hc
  have HRaw : Hid (l.all rawB = true) := hraw
  have HP : Hid (Calls Tryd.prog 9 #[.slice (some ⟨b, off, none⟩) l.length cap] w fun e w' => PlR w w' l e) := refPlaces_any hX
  clear hE hc hX hraw
  go_enter Tryd.func11, Tryd.ntmps11
  go_wp2_with fail
  refine Calls.mono HP.out ?_
  rintro e w1 ⟨hyes, _, hb1⟩
  obtain ⟨pv, rfl, hO⟩ := hyes HP0.out
  obtain ⟨pg, pc, rfl, hp1, hp2, hp3, hp4, hpc⟩ := hO.parts (by intro e; have := plcs_length l; rw [e] at this; simp at this)
  rw [plcs_length] at hp1
  have HO1 : Hid (OwnI w1 w.heap.size (.slice (some ⟨pg, 0, none⟩) (l.length + 1) pc) (plcs l)) := by
    have := hO
    rw [plcs_length] at this
    exact this
  rw [plcs_length]
  have HB1 : Hid (Below w.heap.size w w1) := hb1
  unfold maxLen at hp2
  clear hyes hO hpc hb1 HP
  go_wp2_with fail
  go_loopw [6, 7, 9, 10, 66, 90] (fun u z _ _ _ _ wr => ∃ q : Nat, q ≤ l.length ∧ z = .int .i64 (q : Int) ∧ Own wr w.heap.size 5 u (encTo l q) ∧ OwnI wr w.heap.size (.slice (some ⟨pg, 0, none⟩) (l.length + 1) pc) (plcs l) ∧ Below w.heap.size w wr ∧ (l.take q).any (behB l.length) = false) (fun _ z _ _ _ _ _ => l.length - (intOf z).toNat)
  case atStart => exact ⟨0, Nat.zero_le _, rfl, Own.nil _ _ _, HO1.out, HB1.out, by simp⟩
  case round =>
    obtain ⟨q, hq, rfl, hOu, hO, hB, hany⟩ := hrel
    clear HO1 HB1
    have HAn : Hid ((l.take q).any (behB l.length) = false) := hany
    have HB : Hid (Below w.heap.size w wr) := hB
    have HOu : Hid (Own wr w.heap.size 5 u6 (encTo l q)) := hOu
    have HO : Hid (OwnI wr w.heap.size (.slice (some ⟨pg, 0, none⟩) (l.length + 1) pc) (plcs l)) := hO
    have hsw := hB.size
    clear hany hOu hO
    by_cases hql : q < l.length
    · obtain ⟨c0, c1, c2, c3, c4, c5⟩ := (HC.out q hql).below hB hb
      have hrx : rawB l[q] = true := List.all_eq_true.1 HRaw.out _ (List.getElem_mem hql)
      have HAn1 : Hid (behB l.length l[q] = false → (l.take (q + 1)).any (behB l.length) = false) := any_false_take hql HAn.out
      have HAn2 : Hid (behB l.length l[q] = true → encE l = 11) := fun h => by unfold encE; rw [if_pos HP0.out, if_pos (any_true hql h)]
      have HPF : Hid (behB l.length l[q] = false → opK l[q].1 = 5 → ∃ k : Nat, l[q].2.1 = (k : Int) ∧ k < l.length ∧ opnd l q l[q] = (szL (l.take k) : Int) - (szL (l.take (q + 1)) : Int)) := fun hbh h5 => by
        obtain ⟨k, e1, e2, e3⟩ := place_facts hql rfl hrx hbh h5
        refine ⟨k, e1, e2, ?_⟩
        unfold opnd
        rw [if_pos h5, e1, Int.toNat_natCast]
      have HPR : Hid (opK l[q].1 = 6 ∨ opK l[q].1 = 7 → 0 ≤ l[q].2.1 ∧ l[q].2.1 ≤ 63 ∧ opnd l q l[q] = l[q].2.1 + 1) := fun h => by
        have := raw_row hrx h
        refine ⟨this.1, this.2, ?_⟩
        unfold opnd
        rw [if_neg (by omega), if_pos h]
      have HPE : Hid (opK l[q].1 ≠ 5 → ¬ (opK l[q].1 = 6 ∨ opK l[q].1 = 7) → opnd l q l[q] = l[q].2.1) := fun h5 h6 => by
        unfold opnd
        rw [if_neg h5, if_neg h6]
      have hin := raw_op hrx
      have HS : Hid (encTo l (q + 1) = encTo l q ++ [UInt8.ofNat l[q].1.toNat] ++ leL (u64n (opnd l q l[q])) (widN (opK l[q].1))) := by
        show _ = _
        rw [encTo_succ l q hql]
        simp [encI, opw]
      have HBe : Hid (behB l.length l[q] = (decide (opK l[q].1 = 5) && decide ((l.length : Int) ≤ l[q].2.1))) := rfl
      have hlen := encTo_length l q hq
      have hszl := szL_take_le l q
      generalize opnd l q l[q] = y at *
      clear hrx
      generalize l[q] = x at *
      obtain ⟨op, n, k, i, d, r⟩ := x
      simp only at c0 c1 c2 c3 c4 c5 hin HPF HPR HPE HS HBe
      have HOF : Hid (Calls Tryd.prog 24 #[.int .i64 op] wr fun e w' => (∃ s f, e = .returned (.tuple #[.agg #[.string s, .int .i64 (opK op : Int), .int .i64 f], .int .i64 0])) ∧ Below wr.heap.size wr w') := by
        have := refOf7_any op wr
        rw [if_pos hin] at this
        exact this
      have HCx : Hid (∀ W, Below w.heap.size wr W → W.cell? ⟨b, off + q * 6, none⟩ = some (.int .i64 op) ∧ W.cell? ⟨b, off + q * 6 + 1, none⟩ = some (.int .i64 n)) := fun W hW =>
        ⟨by rw [← c0]; exact hW.cell (p := ⟨b, off + q * 6, none⟩) hb, by rw [← c1]; exact hW.cell (p := ⟨b, off + q * 6 + 1, none⟩) hb⟩
      have HLen : Hid ((encTo l q).length ≤ 2000) := by show _ ≤ _; omega
      have hkl := opK_le op
      have HWd7 : Hid (∀ W, Calls Tryd.prog 19 #[.int .i64 op] W fun e w' => e = .returned (.int .i64 (widN (opK op) : Int)) ∧ Below W.heap.size W w') := fun W => refWidth7_any op W
      obtain ⟨ho1, ho2⟩ := hin
      clear hlen hszl c2 c3 c4 c5 hB
      go_wp2_with fail
      refine Calls.mono HOF.out ?_
      rintro e w2 ⟨⟨s, f, rfl⟩, hb2⟩
      generalize opK op = p at *
      have hbi : Below w2.heap.size w2 (w2.alloc (.cells #[.string s, .int .i64 (p : Int), .int .i64 f] 59)) := (Below.refl _ _).alloc (Nat.le_refl _) _
      have hb3 : Below wr.heap.size wr (w2.alloc (.cells #[.string s, .int .i64 (p : Int), .int .i64 f] 59)) := hb2.trans (hbi.mono hb2.size)
      have hbu : Below (w2.alloc (.cells #[.string s, .int .i64 (p : Int), .int .i64 f] 59)).heap.size (w2.alloc (.cells #[.string s, .int .i64 (p : Int), .int .i64 f] 59)) ((w2.alloc (.cells #[.string s, .int .i64 (p : Int), .int .i64 f] 59)).alloc (.cells #[.int .u8 op] 5)) := (Below.refl _ _).alloc (Nat.le_refl _) _
      have hb4 := hb3.trans (hbu.mono hb3.size)
      have hI4 := (At.made w2 #[.string s, .int .i64 (p : Int), .int .i64 f] 59).later hbu
      have HO4 : Hid (Own ((w2.alloc (.cells #[.string s, .int .i64 (p : Int), .int .i64 f] 59)).alloc (.cells #[.int .u8 op] 5)) w.heap.size 5 u6 (encTo l q)) := HOu.out.later hb4
      have HI4 : Hid (At ((w2.alloc (.cells #[.string s, .int .i64 (p : Int), .int .i64 f] 59)).alloc (.cells #[.int .u8 op] 5)) w2.heap.size #[.string s, .int .i64 (p : Int), .int .i64 f] 59) := hI4
      have HL4 : Hid (Bs ((w2.alloc (.cells #[.string s, .int .i64 (p : Int), .int .i64 f] 59)).alloc (.cells #[.int .u8 op] 5)) (.slice (some ⟨w2.heap.size + 1, 0, none⟩) 1 1) [UInt8.ofNat op.toNat]) := by
        have := bs_lit (w2.alloc (.cells #[.string s, .int .i64 (p : Int), .int .i64 f] 59)) [UInt8.ofNat op.toNat] #[.int .u8 op] 5 1 (by simp [u8s]; omega) rfl (by simp [maxLen])
        simp at this
        exact this
      have HP4 : Hid (OwnI ((w2.alloc (.cells #[.string s, .int .i64 (p : Int), .int .i64 f] 59)).alloc (.cells #[.int .u8 op] 5)) w.heap.size (.slice (some ⟨pg, 0, none⟩) (l.length + 1) pc) (plcs l)) := HO.out.later hb4
      have HB4 : Hid (Below w.heap.size wr ((w2.alloc (.cells #[.string s, .int .i64 (p : Int), .int .i64 f] 59)).alloc (.cells #[.int .u8 op] 5))) := hb4.mono hsw
      have hs4 := hb4.size
      obtain ⟨d0, d1⟩ := HCx.out _ (hb3.mono hsw)
      clear hb2 hbi hb3 hbu hb4 hI4 c0 c1 HOF
      go_wp2_with (at_builtin; go_must (refine wpList_append_bs rfl _ _ _ rfl w.heap.size 5 Tryd.underlying30 Tryd.infoU8 rfl rfl HO4.out HL4.out (by have := HLen.out; simp; omega) (by simp at hs4 ⊢; omega) ?_))
      intro v5 w5 ho5 hg5
      have hB5 : Below w.heap.size wr w5 := HB4.out.trans (grown_below7 hg5 (Nat.le_trans hsw HB4.out.size) (fun k hk => (HO4.out.block k hk).1))
      have hI5 := HI4.out.grownU HO4.out (by decide) hg5
      have hP5 := HP4.out.grownU HO4.out hg5
      obtain ⟨e0, e1⟩ := HCx.out w5 hB5
      have ic := hI5.cell
      have hs5 := hB5.size
      have HO5 : Hid (Own w5 w.heap.size 5 v5 (encTo l q ++ [UInt8.ofNat op.toNat])) := ho5
      have HI5 : Hid (At w5 w2.heap.size #[.string s, .int .i64 (p : Int), .int .i64 f] 59) := hI5
      have HP5 : Hid (OwnI w5 w.heap.size (.slice (some ⟨pg, 0, none⟩) (l.length + 1) pc) (plcs l)) := hP5
      have HB5 : Hid (Below w.heap.size w w5) := HB.out.trans hB5
      have HLen5 : Hid ((encTo l q ++ [UInt8.ofNat op.toNat]).length ≤ 2001) := by have := HLen.out; show _ ≤ _; simp; omega
      clear ho5 hg5 hI5 hP5 HO4 HI4 HL4 HP4 HB4 d0 d1
      generalize hxs : encTo l q ++ [UInt8.ofNat op.toNat] = xs at *
      clear hxs
      by_cases h5 : p = 5
      · have h5' : ((p : Int) == 5) = true := by rw [beq_iff_eq]; omega
        cases hbh : behB l.length (op, n, k, i, d, r) with
        | true =>
          have hn : (l.length : Int) ≤ n := by
            rw [HBe.out, decide_eq_true h5] at hbh
            simpa using hbh
          have HE : Hid (encE l = 11) := HAn2.out hbh
          clear h5 hbh HAn1 HAn2 HPF HPR HPE HS HBe
          go_wp2_with fail
          go_ret2
          exact ⟨fun h => absurd h (by rw [HE.out]; decide), fun _ => by rw [HE.out]; rfl, HB5.out⟩
        | false =>
          obtain ⟨kk, rfl, hk, hy⟩ := HPF.out hbh h5
          have HA1 : Hid ((l.take (q + 1)).any (behB l.length) = false) := HAn1.out hbh
          have hpk := szL_take_le l kk
          have hpq := szL_take_le l (q + 1)
          have HKS : Hid (∀ W, OwnI W w.heap.size (.slice (some ⟨pg, 0, none⟩) (l.length + 1) pc) (plcs l) → W.cell? ⟨pg, kk, none⟩ = some (.int .i64 (szL (l.take kk) : Int)) ∧ W.cell? ⟨pg, q + 1, none⟩ = some (.int .i64 (szL (l.take (q + 1)) : Int))) := fun W hW => by
            have g1 := hW.cell kk (by rw [plcs_length]; omega)
            have g2 := hW.cell (q + 1) (by rw [plcs_length]; omega)
            rw [plcs_get] at g1 g2
            exact ⟨g1, g2⟩
          have HS5 : Hid (encTo l (q + 1) = xs ++ leL (u64n ((szL (l.take kk) : Int) - (szL (l.take (q + 1)) : Int))) 2) := by
            show _ = _
            rw [HS.out, hy, h5]; rfl
          generalize szL (l.take kk) = pk at *
          generalize szL (l.take (q + 1)) = pq at *
          have HLow : Hid (∀ W, Calls Tryd.prog 25 #[.int .i64 ((pk : Int) - (pq : Int)), .int .i64 2] W fun e w' => ∃ v, e = .returned v ∧ Own w' W.heap.size 5 v (leL (u64n ((pk : Int) - (pq : Int))) 2) ∧ Below W.heap.size W w') := fun W => low_any _ 2 (by omega) W
          have hll := leL_length (u64n ((pk : Int) - (pq : Int))) 2
          have hi0 : (0 : Int) ≤ (kk : Int) := by omega
          have hi1 : (kk : Int) < (l.length : Int) + 1 := by omega
          have hi2 : (0 : Int) ≤ (q : Int) + 1 := by omega
          have hi3 : (q : Int) + 1 < (l.length : Int) + 1 := by omega
          have hw1 : IntKind.i64.wrap ((q : Int) + 1) = (q : Int) + 1 := by simp [IntKind.wrap, IntKind.signed, IntKind.bits]; omega
          have hw2 : IntKind.i64.wrap ((pk : Int) - (pq : Int)) = (pk : Int) - (pq : Int) := by simp [IntKind.wrap, IntKind.signed, IntKind.bits]; omega
          have hkl2 : ¬ (l.length : Int) ≤ (kk : Int) := by omega
          have HKB : Hid (∀ W, Below w5.heap.size w5 W → OwnI W w.heap.size (.slice (some ⟨pg, 0, none⟩) (l.length + 1) pc) (plcs l)) := fun W hW => HP5.out.later hW
          have HOB : Hid (∀ W, Below w5.heap.size w5 W → OwnV W w.heap.size 5 v5 (u8s xs)) := fun W hW => (HO5.out.later hW).v
          clear h5 hbh HAn1 HAn2 HPF HPR HPE HS HBe hpk hpq
          go_wp2_with fail
          go_region_held3 (fun w' => w'.cell? ⟨pg, kk, none⟩ = some (.int .i64 (pk : Int)) ∧ w'.cell? ⟨pg, q + 1, none⟩ = some (.int .i64 (pq : Int)))
            (first | (exact HKS.out _ (HKB.out _ (Below.drewN (Below.refl _ _) 1))) | (exact HKS.out _ (HKB.out _ (drew_later hb7))) | (exact HKS.out _ (OwnI.grownU (HKB.out _ (drew_later hb7)) (HOB.out _ (drew_later hb7)).own hg8)))
            (first | (go_at_call 25; refine (HLow.out _).mono ?_; rintro e w7 ⟨v7, rfl, ho7, hb7⟩) | (refine step_append_at rfl (.tmp 77) (.tmp 88) 30 30 rfl w.heap.size 5 (.int .u8 0) 1 Tryd.underlying30 Tryd.infoU8 rfl (by simp [Act.eval, Act.put]) (by simp [Act.eval, Act.put]) (HOB.out _ (drew_later hb7)) (ho7.bs.src Tryd.underlying30) (by have := HLen5.out; rw [u8s_length, hll]; unfold maxLen; omega) (by have := HLen5.out; rw [u8s_length, hll]; omega) (by have := (drew_later hb7).size; omega) ?_; intro v8 w8 ho8 hg8))
          rename_i hheld
          clear hheld
          have hb57 := drew_later hb7
          have hO8 : Own w8 w.heap.size 5 v8 (encTo l (q + 1)) := by
            rw [HS5.out]
            exact OwnV.own (by rw [u8s_append]; exact ho8)
          have hP8 := OwnI.grownU (HKB.out _ hb57) (HOB.out _ hb57).own hg8
          have hB8 : Below w.heap.size w w8 := HB5.out.trans ((hb57.mono HB5.out.size).trans (grown_below7 hg8 (Nat.le_trans HB5.out.size hb57.size) (fun k hk => ((HOB.out _ hb57).block k hk).1)))
          go_wp2
          go_roundw
          case rel => exact ⟨q + 1, by omega, by go_num, hO8, hP8, hB8, HA1.out⟩
          case measure => simp [intOf]; omega
      · have h5' : ((p : Int) == 5) = false := by rw [beq_eq_false_iff_ne]; omega
        have hbh : behB l.length (op, n, k, i, d, r) = false := by rw [HBe.out, decide_eq_false h5]; rfl
        have HA1 : Hid ((l.take (q + 1)).any (behB l.length) = false) := HAn1.out hbh
        have HOB : Hid (∀ W, Below w5.heap.size w5 W → OwnV W w.heap.size 5 v5 (u8s xs)) := fun W hW => (HO5.out.later hW).v
        have HKB : Hid (∀ W, Below w5.heap.size w5 W → OwnI W w.heap.size (.slice (some ⟨pg, 0, none⟩) (l.length + 1) pc) (plcs l)) := fun W hW => HP5.out.later hW
        clear hbh HAn1 HAn2 HPF HBe
        by_cases h6 : p = 6 ∨ p = 7
        · obtain ⟨g1, g2, rfl⟩ := HPR.out h6
          have hwd : widN p = 2 := by rcases h6 with rfl | rfl <;> rfl
          have HS5 : Hid (encTo l (q + 1) = xs ++ leL (u64n (n + 1)) 2) := by show _ = _; rw [HS.out, hwd]
          have HLow : Hid (∀ W, Calls Tryd.prog 25 #[.int .i64 (n + 1), .int .i64 2] W fun e w' => ∃ v, e = .returned v ∧ Own w' W.heap.size 5 v (leL (u64n (n + 1)) 2) ∧ Below W.heap.size W w') := fun W => low_any _ 2 (by omega) W
          have hll := leL_length (u64n (n + 1)) 2
          have hor : ((p : Int) == 6) = true ∨ (((p : Int) == 6) = false ∧ ((p : Int) == 7) = true) := by
            rcases h6 with h | h
            · left; rw [beq_iff_eq]; omega
            · right; exact ⟨by rw [beq_eq_false_iff_ne]; omega, by rw [beq_iff_eq]; omega⟩
          clear h6 hwd HPR HPE HS h5
          rcases hor with h6' | ⟨h6', h7'⟩
          all_goals
            go_wp2_with fail
            refine (HLow.out _).mono ?_
            rintro e w7 ⟨v7, rfl, ho7, hb7⟩
            have HO7 : Hid (Own w7 w.heap.size 5 v5 xs) := (HOB.out _ hb7).own
            have HL7 : Hid (Bs w7 v7 (leL (u64n (n + 1)) 2)) := ho7.bs
            have hs7 := hb7.size
            go_wp2_with (at_builtin; go_must (refine wpList_append_bs rfl _ _ _ rfl w.heap.size 5 Tryd.underlying30 Tryd.infoU8 rfl rfl HO7.out HL7.out (by have := HLen5.out; rw [hll]; omega) (by omega) ?_))
            intro v8 w8 ho8 hg8
            have hO8 : Own w8 w.heap.size 5 v8 (encTo l (q + 1)) := by rw [HS5.out]; exact ho8
            have hP8 := OwnI.grownU (HKB.out _ hb7) HO7.out hg8
            have hB8 : Below w.heap.size w w8 := HB5.out.trans ((hb7.mono HB5.out.size).trans (grown_below7 hg8 (Nat.le_trans HB5.out.size hb7.size) (fun k hk => (HO7.out.block k hk).1)))
            go_wp2
            go_roundw
            case rel => exact ⟨q + 1, by omega, by go_num, hO8, hP8, hB8, HA1.out⟩
            case measure => simp [intOf]; omega
        · have hy := HPE.out h5 h6
          rw [hy] at HS
          clear hy
          have h6' : ((p : Int) == 6) = false := by rw [beq_eq_false_iff_ne]; omega
          have h7' : ((p : Int) == 7) = false := by rw [beq_eq_false_iff_ne]; omega
          have HWi : Hid (∀ W, Calls Tryd.prog 19 #[.int .i64 op] W fun e w' => e = .returned (.int .i64 (widN p : Int)) ∧ Below W.heap.size W w') := HWd7.out
          have hw8 := widN_le p
          clear h5 h6 HPR HPE
          have HCy : Hid (∀ W, Below w.heap.size w5 W → W.cell? ⟨b, off + q * 6, none⟩ = some (.int .i64 op) ∧ W.cell? ⟨b, off + q * 6 + 1, none⟩ = some (.int .i64 n)) := fun W hW => HCx.out W (hB5.trans hW)
          generalize hwd : widN p = wd at *
          clear hwd HCx hB5
          go_wp2_with fail
          refine (HWi.out _).mono ?_
          rintro e w6 ⟨rfl, hb6⟩
          have hs6 := hb6.size
          have HO6 : Hid (Own w6 w.heap.size 5 v5 xs) := (HOB.out _ hb6).own
          have HP6 : Hid (OwnI w6 w.heap.size (.slice (some ⟨pg, 0, none⟩) (l.length + 1) pc) (plcs l)) := HKB.out _ hb6
          have HB6 : Hid (Below w.heap.size w w6) := HB5.out.trans (hb6.mono HB5.out.size)
          have HCz : Hid (∀ W, Below w.heap.size w6 W → W.cell? ⟨b, off + q * 6, none⟩ = some (.int .i64 op) ∧ W.cell? ⟨b, off + q * 6 + 1, none⟩ = some (.int .i64 n)) := fun W hW => HCy.out W ((hb6.mono HB5.out.size).trans hW)
          clear hb6 HCy HOB HKB e0 e1 ic
          by_cases hw0 : wd = 0
          · have HS5 : Hid (encTo l (q + 1) = xs) := by show _ = _; rw [HS.out, hw0]; simp [leL]
            subst hw0
            go_wp2_with fail
            go_roundw
            case rel => exact ⟨q + 1, by omega, by go_num, by rw [HS5.out]; exact HO6.out, HP6.out, HB6.out, HA1.out⟩
            case measure => simp [intOf]; omega
          · have hwp : (0 : Int) < (wd : Int) := by omega
            have HLow : Hid (∀ W, Calls Tryd.prog 25 #[.int .i64 n, .int .i64 (wd : Int)] W fun e w' => ∃ v, e = .returned v ∧ Own w' W.heap.size 5 v (leL (u64n n) wd) ∧ Below W.heap.size W w') := fun W => low_any _ wd hw8 W
            have hll := leL_length (u64n n) wd
            have hi0 : (0 : Int) ≤ (q : Int) := by omega
            have hi1 : (q : Int) < (l.length : Int) := by omega
            have HOB : Hid (∀ W, Below w6.heap.size w6 W → OwnV W w.heap.size 5 v5 (u8s xs)) := fun W hW => (HO6.out.later hW).v
            have HKB : Hid (∀ W, Below w6.heap.size w6 W → OwnI W w.heap.size (.slice (some ⟨pg, 0, none⟩) (l.length + 1) pc) (plcs l)) := fun W hW => HP6.out.later hW
            have HSz : Hid (w.heap.size ≤ w6.heap.size) := HB6.out.size
            clear hw0
            go_wp2_with fail
            go_region_held3 (fun w' => w'.cell? ⟨b, off + q * 6, none⟩ = some (.int .i64 op) ∧ w'.cell? ⟨b, off + q * 6 + 1, none⟩ = some (.int .i64 n))
              (first | (exact HCz.out _ (Below.drewN (Below.refl _ _) 1)) | (exact HCz.out _ ((drew_later hb7).mono HSz.out)) | (exact HCz.out _ ((two_later hb7 hb8).mono HSz.out)) | (exact HCz.out _ (((two_later hb7 hb8).mono HSz.out).trans (grown_below7 hg9 (Nat.le_trans HSz.out (two_later hb7 hb8).size) (fun k hk => ((HOB.out _ (two_later hb7 hb8)).block k hk).1)))))
              (first | (go_at_call 19; refine (HWi.out _).mono ?_; rintro e w7 ⟨rfl, hb7⟩) | (go_at_call 25; refine (HLow.out _).mono ?_; rintro e w8 ⟨v8, rfl, ho8, hb8⟩) | (refine step_append_at rfl (.tmp 52) (.tmp 64) 30 30 rfl w.heap.size 5 (.int .u8 0) 1 Tryd.underlying30 Tryd.infoU8 rfl (by simp [Act.eval, Act.put]) (by simp [Act.eval, Act.put]) (HOB.out _ (two_later hb7 hb8)) (ho8.bs.src Tryd.underlying30) (by have := HLen5.out; rw [u8s_length, hll]; unfold maxLen; omega) (by have := HLen5.out; rw [u8s_length, hll]; omega) (Nat.le_trans HSz.out (two_later hb7 hb8).size) ?_; intro v9 w9 ho9 hg9))
            rename_i hheld
            clear hheld
            have hb68 := two_later hb7 hb8
            have hO9 : Own w9 w.heap.size 5 v9 (encTo l (q + 1)) := by
              rw [HS.out]
              exact OwnV.own (by rw [u8s_append]; exact ho9)
            have hP9 := OwnI.grownU (HKB.out _ hb68) (HOB.out _ hb68).own hg9
            have hB9 : Below w.heap.size w w9 := HB6.out.trans ((hb68.mono HB6.out.size).trans (grown_below7 hg9 (Nat.le_trans HB6.out.size hb68.size) (fun k hk => ((HOB.out _ hb68).block k hk).1)))
            go_wp2
            go_roundw
            case rel => exact ⟨q + 1, by omega, by go_num, hO9, hP9, hB9, HA1.out⟩
            case measure => simp [intOf]; omega
    · have hqq : q = l.length := by omega
      subst hqq
      have HE : Hid (encE l = 0) := by
        show _ = _
        have := HAn.out
        rw [List.take_length] at this
        exact encE_of HP0.out this
      go_wp2
      go_ret2
      exact ⟨fun _ => ⟨_, rfl, HOu.out⟩, fun h => absurd HE.out h, HB.out⟩

theorem refEncode_any {v : Value} {l : List Ins} {w : World} (hX : Xs w v l) :
    Calls Tryd.prog 11 #[v] w fun e w' => EnR w w' l e := by
  by_cases hE : plE l = 0
  · by_cases hne : l = []
    · subst hne
      obtain ⟨a, c, rfl, _, h2⟩ := hX.shape
      exact refEncode_none a c w h2
    · obtain ⟨b, off, cap, rfl, h1, h2, hb, hc⟩ := id (hX.parts hne)
      exact refEncode_some hX hb hc h1 h2 hE
  · exact refEncode_bad hX hE

end Go.Proofs.YtpgkjfjooogfmaaDoor
