
/- Encode. -/
import Derived.Test.YtpgkjfjooogfmaaDoorEncode7
namespace Go.Proofs.YtpgkjfjooogfmaaDoor
set_option linter.unusedVariables false
set_option linter.unusedSimpArgs false
open Go.RowKit
attribute [local go_sem ↓] Go.wp_at_zero Go.wp_at_succ

set_option maxHeartbeats 1000000 in
theorem encode_bad {v : Value} {l : List Ins} {w : World} (hX : Xs w v l) (hW : Wd w) (hE : plE l ≠ 0) :
    Calls Tryd.prog 10 #[v] w fun e w' => EnR w w' l e := by
  have HE : Hid (encE l = plE l) := by show _ = _; unfold encE; rw [if_neg hE]
  have HN : Hid (plE l ≠ 0) := hE
  have hne : (plE l != 0) = true := by rw [bne_iff_ne]; exact hE
  obtain ⟨a, c, rfl, h1, h2⟩ := id hX.shape
  have HP := places_any hX hW
  clear hX hW hE
  go_enter Tryd.func10, Tryd.ntmps10
  go_wp2_with fail
  refine Calls.mono HP ?_
  rintro e w1 ⟨_, hno, hb⟩
  obtain rfl := hno HN.out
  clear hno HP
  go_wp2_with fail
  go_ret2
  exact ⟨fun h => absurd (HE.out.symm.trans h) HN.out, fun _ => by rw [HE.out]; rfl, hb⟩

theorem enc_step {l : List Ins} {q : Nat} (h : q < l.length) {x : Ins} (hx : l[q] = x) (hin : 1 ≤ x.1 ∧ x.1 ≤ 75) {y : Int} (hy : y = opnd l q x) : encTo l (q + 1) = encTo l q ++ leL (u64n x.1) 1 ++ leL (u64n y) (widN (opK x.1)) := by
  rw [encTo_succ l q h, hx, leL_op hin, hy]
  unfold encI opw
  simp

theorem OwnI.cell {w : World} {base g n c : Nat} {l : List Int} (h : OwnI w base (.slice (some ⟨g, 0, none⟩) n c) l) (i : Nat) (hi : i < l.length) : w.cell? ⟨g, i, none⟩ = some (.int .i64 l[i]) := by
  obtain ⟨g', c', e, _, _, _, _, hc⟩ := h.parts (by intro e; subst e; simp at hi)
  simp only [Value.slice.injEq, Option.some.injEq, Addr.mk.injEq] at e
  rw [e.1.1]
  exact hc i hi

/-- What a place's bytes tell. -/
theorem place_facts {l : List Ins} {q : Nat} (hq : q < l.length) {x : Ins} (hx : l[q] = x) (hr : rawB x = true) (hb : behB l.length x = false) (h5 : opK x.1 = 5) :
    ∃ k : Nat, x.2.1 = (k : Int) ∧ k < l.length ∧ opnd l q x = (szL (l.take k) : Int) - ((szL (l.take q) + 1 : Nat) : Int) - 2 := by
  have h1 := raw_place hr h5
  have h2 : x.2.1 < (l.length : Int) := by
    unfold behB at hb
    rw [decide_eq_true h5] at hb
    simp at hb
    exact hb
  refine ⟨x.2.1.toNat, by omega, by omega, ?_⟩
  have h3 := szL_succ l q hq
  rw [hx] at h3
  have h4 : opw x = 2 := by unfold opw; rw [h5]; rfl
  unfold opnd
  rw [if_pos h5]
  omega

set_option maxHeartbeats 4000000 in
set_option maxRecDepth 100000 in
theorem encode_some {b off cap : Nat} {l : List Ins} {w : World} (hX : Xs w (.slice (some ⟨b, off, none⟩) l.length cap) l) (hb : b < w.heap.size) (hc : ∀ i (hi : i < l.length), Six w b (off + i * 6) l[i]) (hW : Wd w) (h1 : l.length ≤ cap) (h2 : cap ≤ maxLen) (hE : plE l = 0) :
    Calls Tryd.prog 10 #[.slice (some ⟨b, off, none⟩) l.length cap] w fun e w' => EnR w w' l e := by
  obtain ⟨hl, hraw⟩ := plE_zero hE
  unfold maxLen at h2
  have HP0 : Hid (plE l = 0) := hE
  have HC : Hid (∀ i (hi : i < l.length), Six w b (off + i * 6) l[i]) := hc
  have HX : Hid (Xs w (.slice (some ⟨b, off, none⟩) l.length cap) l) := hX
  have HW : Hid (Wd w) := hW
  have HRaw : Hid (l.all rawB = true) := hraw
  have hs0 := hW.1
  have HP : Hid (Calls Tryd.prog 8 #[.slice (some ⟨b, off, none⟩) l.length cap] w fun e w' => PlR w w' l e) := places_any hX hW
  clear hE hc hX hW hraw
  go_enter Tryd.func10, Tryd.ntmps10
  go_wp2_with fail
  refine Calls.mono HP.out ?_
  rintro e w1 ⟨hyes, _, hb1⟩
  obtain ⟨pv, rfl, hO⟩ := hyes HP0.out
  obtain ⟨pg, pc, rfl, hp1, hp2, hp3, hp4, hpc⟩ := hO.parts (by intro e; have := plcs_length l; rw [e] at this; simp at this)
  rw [plcs_length] at hp1
  have HO1 : Hid (OwnI w1 w.heap.size (.slice (some ⟨pg, 0, none⟩) (l.length + 1) pc) (plcs l)) := by
    have := hO
    rw [plcs_length] at this
    exact this
  rw [plcs_length]
  have HB1 : Hid (Below w.heap.size w w1) := hb1
  have hs1 := hb1.size
  unfold maxLen at hp2
  clear hyes hO hpc hb1 HP
  go_wp2_with fail
  refine (leads_any (l.length : Int) w1).mono ?_
  rintro e wz ⟨rfl, hz⟩
  subst wz
  have HB2 : Hid (Below w1.heap.size w1 (w1.alloc (.cells #[.int .i64 (l.length : Int)] 3))) := (Below.refl _ _).alloc (Nat.le_refl _) _
  have HCn : Hid (Calls Tryd.prog 20 #[.slice (some ⟨b, off, none⟩) l.length cap, .func (.func 33) #[] #[.pointer (some ⟨w1.heap.size, 0, none⟩)]] (w1.alloc (.cells #[.int .i64 (l.length : Int)] 3)) fun e w' => e = .returned (.bool (l.any (behB l.length))) ∧ Below w1.heap.size w1 w') := by
    refine (contains7_any (HX.out.later (HB1.out.trans (HB2.out.mono hs1))) (by omega) l.length w1.heap.size (by omega) (by simp) ?_).mono ?_
    · exact (At.made w1 #[.int .i64 (l.length : Int)] 3).cell 0
    · rintro e w' ⟨rfl, hb⟩
      exact ⟨rfl, below_box hb⟩
  go_wp2_with fail
  refine Calls.mono HCn.out ?_
  rintro e w3 ⟨rfl, hb3⟩
  have HB3 : Hid (Below w.heap.size w w3) := HB1.out.trans (hb3.mono hs1)
  have HO3 : Hid (OwnI w3 w.heap.size (.slice (some ⟨pg, 0, none⟩) (l.length + 1) pc) (plcs l)) := HO1.out.later hb3
  have hs3 := HB3.out.size
  have hp5 : pg < w3.heap.size := by have := hb3.size; omega
  clear hb3 HB1 HO1 HB2 HCn hp4
  cases hany : l.any (behB l.length) with
  | true =>
    have HE : Hid (encE l = 11) := by show _ = _; unfold encE; rw [if_pos HP0.out, if_pos hany]
    clear hany
    go_wp2_with fail
    go_ret2
    exact ⟨fun h => absurd h (by rw [HE.out]; decide), fun _ => by rw [HE.out]; rfl, HB3.out⟩
  | false =>
    have HE : Hid (encE l = 0) := encE_of HP0.out hany
    have HAny : Hid (l.any (behB l.length) = false) := hany
    have hbw : Below w3.heap.size w3 (w3.alloc (.cells #[.slice none 0 0, .slice (some ⟨pg, 0, none⟩) (l.length + 1) pc] 53)) := (Below.refl _ _).alloc (Nat.le_refl _) _
    have HWr : Hid (WrS (w3.alloc (.cells #[.slice none 0 0, .slice (some ⟨pg, 0, none⟩) (l.length + 1) pc] 53)) w3.heap.size w.heap.size (.slice (some ⟨pg, 0, none⟩) (l.length + 1) pc) []) :=
      ⟨hs3, _, At.made _ _ _, Own.nil _ _ _⟩
    have HB4 : Hid (Below w.heap.size w (w3.alloc (.cells #[.slice none 0 0, .slice (some ⟨pg, 0, none⟩) (l.length + 1) pc] 53))) := HB3.out.trans (hbw.mono hs3)
    have HO4 : Hid (OwnI (w3.alloc (.cells #[.slice none 0 0, .slice (some ⟨pg, 0, none⟩) (l.length + 1) pc] 53)) w.heap.size (.slice (some ⟨pg, 0, none⟩) (l.length + 1) pc) (plcs l)) := HO3.out.later hbw
    clear hany hbw
    go_wp2_with fail
    refine (byKindW_any w3.heap.size _).mono ?_
    rintro e w5 ⟨rfl, hb5⟩
    have HB5 : Hid (Below w.heap.size w w5) := HB4.out.trans (hb5.mono HB4.out.size)
    have HWr5 : Hid (WrS w5 w3.heap.size w.heap.size (.slice (some ⟨pg, 0, none⟩) (l.length + 1) pc) []) := HWr.out.later hb5
    have HO5 : Hid (OwnI w5 w.heap.size (.slice (some ⟨pg, 0, none⟩) (l.length + 1) pc) (plcs l)) := HO4.out.later hb5
    have hs5 : w3.heap.size < w5.heap.size := by have := hb5.size; simp at this; omega
    clear hb5 HWr HO4 HB4 HO3 HB3
    generalize hwb : w3.heap.size = wb at *
    clear hwb
    have HT : Hid (At (w5.alloc (.cells (fnsW wb) 56)) w5.heap.size (fnsW wb) 56) := At.made _ _ _
    have hbt : Below w5.heap.size w5 (w5.alloc (.cells (fnsW wb) 56)) := (Below.refl _ _).alloc (Nat.le_refl _) _
    have HB6 : Hid (Below w.heap.size w (w5.alloc (.cells (fnsW wb) 56))) := HB5.out.trans (hbt.mono (by omega))
    have HWr6 : Hid (WrS (w5.alloc (.cells (fnsW wb) 56)) wb w.heap.size (.slice (some ⟨pg, 0, none⟩) (l.length + 1) pc) []) := HWr5.out.later hbt
    have HO6 : Hid (OwnI (w5.alloc (.cells (fnsW wb) 56)) w.heap.size (.slice (some ⟨pg, 0, none⟩) (l.length + 1) pc) (plcs l)) := HO5.out.later hbt
    clear hbt HB5 HWr5 HO5
    unfold fnsW mfn pickW
    go_wp2_with fail
    go_loopw [10, 29] (fun _ z wr => ∃ q : Nat, q ≤ l.length ∧ z = .int .i64 (q : Int) ∧ w5.heap.size < wr.heap.size ∧ WrS wr wb w.heap.size (.slice (some ⟨pg, 0, none⟩) (l.length + 1) pc) (encTo l q) ∧ At wr w5.heap.size (fnsW wb) 56 ∧ OwnI wr w.heap.size (.slice (some ⟨pg, 0, none⟩) (l.length + 1) pc) (plcs l) ∧ Below w.heap.size w wr) (fun _ z _ => l.length - (intOf z).toNat)
    case atStart => exact ⟨0, Nat.zero_le _, rfl, by simp, HWr6.out, HT.out, HO6.out, HB6.out⟩
    case round =>
      obtain ⟨q, hq, rfl, hsr, hWr, hT, hO, hB⟩ := hrel
      clear HB6 HWr6 HO6 HT
      have HB : Hid (Below w.heap.size w wr) := hB
      have HWrr : Hid (WrS wr wb w.heap.size (.slice (some ⟨pg, 0, none⟩) (l.length + 1) pc) (encTo l q)) := hWr
      by_cases hql : q < l.length
      · obtain ⟨c0, c1, c2, c3, c4, c5⟩ := (HC.out q hql).below hB hb
        have hrx : rawB l[q] = true := List.all_eq_true.1 HRaw.out _ (List.getElem_mem hql)
        have hbx0 : behB l.length l[q] = false := by
          have := List.any_eq_false.1 HAny.out l[q] (List.getElem_mem hql)
          simpa using this
        generalize hgx : l[q] = x at *
        obtain ⟨op, n, k, i, d, r⟩ := x
        have hin := raw_op hrx
        simp only at c0 c1 c2 c3 c4 c5 hin
        have HS : Hid (∀ y, y = opnd l q (op, n, k, i, d, r) → encTo l (q + 1) = encTo l q ++ leL (u64n op) 1 ++ leL (u64n y) (widN (opK op))) := fun y hy => enc_step hql hgx hin hy
        have hlen := encTo_length l q hq
        have hszl := szL_take_le l q
        have hlen2 : (encTo l q ++ leL (u64n op) 1).length = szL (l.take q) + 1 := by rw [List.length_append, hlen, leL_length]
        have HY : Hid (∀ W, WrS W wb w.heap.size (.slice (some ⟨pg, 0, none⟩) (l.length + 1) pc) (encTo l q ++ leL (u64n op) 1) → OwnI W w.heap.size (.slice (some ⟨pg, 0, none⟩) (l.length + 1) pc) (plcs l) → w.heap.size ≤ W.heap.size →
            Calls Tryd.prog (pickW (opK op)) #[.pointer (some ⟨wb, 0, none⟩), .int .i64 n, .int .i64 (widN (opK op) : Int)] W fun e w' => e = .returned (.tuple #[]) ∧ WrS w' wb w.heap.size (.slice (some ⟨pg, 0, none⟩) (l.length + 1) pc) (encTo l (q + 1)) ∧ Below w.heap.size W w' ∧ Kp wb W w') := by
          intro W hW hOW hsW
          rw [HS.out _ rfl]
          refine write_any (opK_le op) hW hsW (by rw [hlen2]; omega) (by omega) n (opnd l q (op, n, k, i, d, r)) ?_ ?_ ?_
          · intro h5
            obtain ⟨kk, e1, e2, e3⟩ := place_facts hql hgx hrx hbx0 h5
            have hcl := hOW.cell kk (by rw [plcs_length]; omega)
            rw [plcs_get] at hcl
            exact ⟨kk, szL (l.take kk), e1, by omega, by have := szL_take_le l kk; omega, hcl, by rw [hlen2]; exact e3⟩
          · intro h6
            have hrr : 0 ≤ n ∧ n ≤ 63 := raw_row hrx h6
            refine ⟨hrr.1, by have := hrr.2; omega, ?_⟩
            unfold opnd
            rw [if_neg (by show ¬ opK op = 5; omega), if_pos h6]
          · intro h5 h6
            unfold opnd
            rw [if_neg h5, if_neg h6]
        clear hlen hszl hlen2 HS hrx hbx0 hgx hin hB
        have hen := pickW_enter (opK op) (opK_le op)
        have hfn := fnsW_at wb (opK op) (opK_le op)
        have hkl := opK_le op
        have HWd : Hid (∀ W, Below w.heap.size w W → W.cell? ⟨0, opK op, none⟩ = some (.int .i64 (widN (opK op) : Int))) := fun W hW => (HW.out.later hW).2 _ hkl
        have hbx : Below wr.heap.size wr (wr.alloc (.cells #[.int .i64 op, .int .i64 n, .int .i64 k, .int .i64 i, .int .i64 d, .bool r] 45)) := (Below.refl _ _).alloc (Nat.le_refl _) _
        have hXb := At.made wr #[.int .i64 op, .int .i64 n, .int .i64 k, .int .i64 i, .int .i64 d, .bool r] 45
        go_wp2_with fail
        refine (operandOf_any op n k i d r _).mono ?_
        rintro e w7 ⟨rfl, hb7⟩
        have hX7 := hXb.later hb7
        have hB7 : Below wr.heap.size wr w7 := below_box hb7
        have hs7 : wr.heap.size < w7.heap.size := hX7.lt
        have HT7 : Hid (At w7 w5.heap.size (fnsW wb) 56) := hT.later hB7
        have HO7 : Hid (OwnI w7 w.heap.size (.slice (some ⟨pg, 0, none⟩) (l.length + 1) pc) (plcs l)) := hO.later hB7
        have HWr7 : Hid (WrS w7 wb w.heap.size (.slice (some ⟨pg, 0, none⟩) (l.length + 1) pc) (encTo l q)) := HWrr.out.later hB7
        have HB7 : Hid (Below w.heap.size w w7) := HB.out.trans (hB7.mono (by omega))
        have HX7 : Hid (At w7 wr.heap.size #[.int .i64 op, .int .i64 n, .int .i64 k, .int .i64 i, .int .i64 d, .bool r] 45) := hX7
        have tc7 := hX7.cell
        have HN : Hid (Calls Tryd.prog 23 #[.pointer (some ⟨wb, 0, none⟩), .int .i64 op, .int .i64 1] w7 fun e w' => e = .returned (.tuple #[]) ∧ WrS w' wb w.heap.size (.slice (some ⟨pg, 0, none⟩) (l.length + 1) pc) (encTo l q ++ leL (u64n op) 1) ∧ Below w.heap.size w7 w' ∧ Kp wb w7 w') :=
          number_any HWr7.out (by omega) (by have := encTo_length l q hq; have := szL_take_le l q; omega) op 1 (by omega)
        clear hb7 hbx hXb hX7 hB7 hT hO hWr c0 c1 c2 c3 c4 c5
        generalize opK op = p at *
        go_wp2_with fail
        refine Calls.mono HN.out ?_
        rintro e w8 ⟨rfl, hw8, hb8, hk8⟩
        have hne5 : w5.heap.size ≠ wb := by omega
        have hner : wr.heap.size ≠ wb := by omega
        have hT8 := hk8.stand _ _ _ hne5 HT7.out (by decide)
        have hX8 := hk8.stand _ _ _ hner HX7.out (by decide)
        have HB8 : Hid (Below w.heap.size w w8) := HB7.out.trans hb8
        have HO8 : Hid (OwnI w8 w.heap.size (.slice (some ⟨pg, 0, none⟩) (l.length + 1) pc) (plcs l)) := by
          refine HO7.out.kp hk8 ?_
          obtain ⟨_, bv, hA, _⟩ := HWr7.out
          exact HO7.out.ne hA (by decide)
        have hs8 := hk8.size
        have tc8 := hX8.cell
        have fc8 : w8.cell? ⟨w5.heap.size, p, none⟩ = some (.func (.func (pickW p)) #[.pointer (some ⟨wb, 0, none⟩)] #[]) := by rw [hT8.cell]; exact hfn
        have wc8 := HWd.out w8 HB8.out
        have HT8 : Hid (At w8 w5.heap.size (fnsW wb) 56) := hT8
        have HCl : Hid (∀ m, Calls Tryd.prog (pickW p) #[.pointer (some ⟨wb, 0, none⟩), .int .i64 n, .int .i64 (widN p : Int)] (w8.drewN m) fun e w' => e = .returned (.tuple #[]) ∧ WrS w' wb w.heap.size (.slice (some ⟨pg, 0, none⟩) (l.length + 1) pc) (encTo l (q + 1)) ∧ Below w.heap.size w w' ∧ At w' w5.heap.size (fnsW wb) 56 ∧ OwnI w' w.heap.size (.slice (some ⟨pg, 0, none⟩) (l.length + 1) pc) (plcs l) ∧ w5.heap.size < w'.heap.size) := by
          intro m
          have hdr : Below w8.heap.size w8 (w8.drewN m) := Below.drewN (Below.refl _ _) m
          refine (HY.out (w8.drewN m) (hw8.drewN m) (HO8.out.later hdr) HB8.out.size).mono ?_
          rintro e w' ⟨rfl, g1, g2, g3⟩
          refine ⟨rfl, g1, HB8.out.trans ((hdr.mono HB8.out.size).trans g2), g3.stand _ _ _ hne5 HT8.out (by decide), (HO8.out.later hdr).kp g3 ?_, by have := g3.size; have : (w8.drewN m).heap.size = w8.heap.size := rfl; omega⟩
          obtain ⟨_, bv, hA, _⟩ := hw8
          exact HO8.out.ne hA (by decide)
        have hi2 : (0 : Int) ≤ (p : Int) := by omega
        have hi3 : (p : Int) < 9 := by omega
        clear hw8 hb8 hk8 hT8 hX8 tc7 HY HN hfn hkl hne5 hner
        go_wp2_with fail
        go_region_with (refine Calls.mono (HCl.out 1) ?_; rintro e w9 ⟨rfl, hw9, hb9, ht9, ho9, hs9⟩)
        all_goals go_wp2
        all_goals go_roundw
        all_goals first | exact ⟨q + 1, by omega, by go_num, hs9, hw9, ht9, ho9, hb9⟩ | (simp [intOf]; omega)
      · have hqq : q = l.length := by omega
        subst hqq
        obtain ⟨_, bv, hA, hOb⟩ := hWr
        obtain ⟨ba, bc, rfl, hb1, hb2⟩ := hOb.shape
        have tc := hA.cell
        have HOb : Hid (Own wr w.heap.size 5 (.slice ba (encTo l l.length).length bc) (encTo l l.length)) := hOb
        clear hA hOb HWrr
        go_wp2
        go_ret2
        exact ⟨fun _ => ⟨_, rfl, HOb.out⟩, fun h => absurd HE.out h, HB.out⟩

set_option maxHeartbeats 4000000 in
set_option maxRecDepth 100000 in
theorem encode_none (a : Option Addr) (cap : Nat) (w : World) (hW : Wd w) (h2 : cap ≤ maxLen) :
    Calls Tryd.prog 10 #[.slice a 0 cap] w fun e w' => EnR w w' [] e := by
  have hX : Xs w (.slice a 0 cap) [] := ⟨a, cap, rfl, Nat.zero_le _, h2, fun h => absurd rfl h⟩
  have HP : Hid (Calls Tryd.prog 8 #[.slice a 0 cap] w fun e w' => PlR w w' [] e) := places_any hX hW
  have HX : Hid (Xs w (.slice a 0 cap) []) := hX
  clear hX hW
  go_enter Tryd.func10, Tryd.ntmps10
  go_wp2_with fail
  refine Calls.mono HP.out ?_
  rintro e w1 ⟨hyes, _, hb1⟩
  obtain ⟨pv, rfl, hO⟩ := hyes rfl
  obtain ⟨pg, pc, rfl, hp1, hp2, hp3, hp4, hpc⟩ := hO.parts (by intro e; have := plcs_length []; rw [e] at this; simp at this)
  have HB1 : Hid (Below w.heap.size w w1) := hb1
  have hs1 := hb1.size
  rw [plcs_length]
  clear hyes hO hpc hb1 HP hp1 hp2
  go_wp2_with fail
  refine (leads_any 0 w1).mono ?_
  rintro e wz ⟨rfl, hz⟩
  subst wz
  have HB2 : Hid (Below w1.heap.size w1 (w1.alloc (.cells #[.int .i64 0] 3))) := (Below.refl _ _).alloc (Nat.le_refl _) _
  have HCn : Hid (Calls Tryd.prog 20 #[.slice a 0 cap, .func (.func 33) #[] #[.pointer (some ⟨w1.heap.size, 0, none⟩)]] (w1.alloc (.cells #[.int .i64 0] 3)) fun e w' => e = .returned (.bool false) ∧ Below w1.heap.size w1 w') := by
    refine (contains7_any (HX.out.later (HB1.out.trans (HB2.out.mono hs1))) (by simp) 0 w1.heap.size (by omega) (by simp) ?_).mono ?_
    · exact (At.made w1 #[.int .i64 0] 3).cell 0
    · rintro e w' ⟨rfl, hb⟩
      exact ⟨rfl, below_box hb⟩
  go_wp2_with fail
  refine Calls.mono HCn.out ?_
  rintro e w3 ⟨rfl, hb3⟩
  have HB3 : Hid (Below w.heap.size w w3) := HB1.out.trans (hb3.mono hs1)
  have hs3 := HB3.out.size
  clear hb3 HB1 HB2 HCn hp4
  have hA := At.made w3 #[.slice none 0 0, .slice (some ⟨pg, 0, none⟩) 1 pc] 53
  have hbw : Below w3.heap.size w3 (w3.alloc (.cells #[.slice none 0 0, .slice (some ⟨pg, 0, none⟩) 1 pc] 53)) := (Below.refl _ _).alloc (Nat.le_refl _) _
  go_wp2_with fail
  refine (byKindW_any w3.heap.size _).mono ?_
  rintro e w5 ⟨rfl, hb5⟩
  have hA5 := hA.later hb5
  have hb35 := hbw.trans (hb5.mono hbw.size)
  have hbt : Below w5.heap.size w5 (w5.alloc (.cells (fnsW w3.heap.size) 56)) := (Below.refl _ _).alloc (Nat.le_refl _) _
  have hA6 := hA5.later hbt
  have HB6 : Hid (Below w.heap.size w (w5.alloc (.cells (fnsW w3.heap.size) 56))) := HB3.out.trans ((hb35.trans (hbt.mono hb35.size)).mono hs3)
  have tc := hA6.cell
  clear hb5 hA hA5 hA6 hbw hb35 hbt
  unfold fnsW mfn pickW at tc ⊢
  go_wp2_with fail
  refine wp_loop_rounds 1 ?_; rw [rounds_succ]
  go_wp2
  go_ret2
  exact ⟨fun _ => ⟨_, rfl, Own.nil _ _ _⟩, fun h => absurd rfl h, HB6.out⟩

theorem encode_any {v : Value} {l : List Ins} {w : World} (hX : Xs w v l) (hW : Wd w) :
    Calls Tryd.prog 10 #[v] w fun e w' => EnR w w' l e := by
  by_cases hE : plE l = 0
  · by_cases hne : l = []
    · subst hne
      obtain ⟨a, c, rfl, _, h2⟩ := hX.shape
      exact encode_none a c w hW h2
    · obtain ⟨b, off, cap, rfl, h1, h2, hb, hc⟩ := id (hX.parts hne)
      exact encode_some hX hb hc hW h1 h2 hE
  · exact encode_bad hX hW hE

end Go.Proofs.YtpgkjfjooogfmaaDoor
