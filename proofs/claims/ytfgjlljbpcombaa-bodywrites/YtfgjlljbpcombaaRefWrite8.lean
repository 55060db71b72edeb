
/- Write of layer 8's references. -/
import Derived.Test.YtfgjlljbpcombaaRefRight8
namespace Go.Proofs.Ytfgjlljbpcombaa
set_option linter.unusedVariables false
set_option linter.unusedSimpArgs false
open Go.RowKit
attribute [local go_sem ↓] Go.wp_at_zero Go.wp_at_succ

theorem leL_is1 (x : Nat) : leL x 1 = [UInt8.ofNat x] := by simp [leL]
theorem headW_eq (c : List UInt8) (l : List Rw) : headW c l = UInt8.ofNat (mkN8 l) :: [0, 0, 0] ++ leL c.length 4 ++ c := by unfold headW; rw [leL_is1]; rfl
theorem tabW_eq (n : Nat) (l : List Rw) (h : l.length ≠ 0) : tabW n l = List.replicate (fillN n) 0 ++ [1, UInt8.ofNat l.length, 0, 0] ++ clsB l := by
  unfold tabW
  rw [if_neg h, leL_is1, leL_is1]
  simp [List.replicate]

set_option maxHeartbeats 1000000 in
set_option maxRecDepth 100000 in
theorem refWrite_small {w : World} {xa ya : Option Addr} {c : List UInt8} {l : List Rw} {cx cy : Nat} (hc : Bs w (.slice xa c.length cx) c) (hl : Ws w (.slice ya l.length cy) l) (hr : rightB c l = true) (hsm : smallB c l = true) :
    Calls Try.prog 12 #[.agg #[.slice xa c.length cx, .slice ya l.length cy]] w fun e w' => ∃ v, e = .returned (.tuple #[v, .int .i64 0]) ∧ Bs w' v (wrL c l) ∧ Below w.heap.size w w' := by
  have hcl := hc.len
  have hll := hl.len
  obtain ⟨hs1, hs2⟩ := (smallB_iff c l).1 hsm
  have HW : Hid (wrL c l = leL (4 * c.length + 2) 1 ++ c) := by show _ = _; unfold wrL; rw [if_pos hsm]
  have hb0 : Below w.heap.size w (w.alloc (.cells #[.slice xa c.length cx, .slice ya l.length cy] 25)) := (Below.refl _ _).alloc (Nat.le_refl _) _
  have hA0 : At (w.alloc (.cells #[.slice xa c.length cx, .slice ya l.length cy] 25)) w.heap.size #[.slice xa c.length cx, .slice ya l.length cy] 25 := At.made _ _ _
  have HR : Hid (Calls Try.prog 22 #[.agg #[.slice xa c.length cx, .slice ya l.length cy]] (w.alloc (.cells #[.slice xa c.length cx, .slice ya l.length cy] 25)) fun e w' => e = .returned (.bool true) ∧ Below w.heap.size w w' ∧ At w' w.heap.size #[.slice xa c.length cx, .slice ya l.length cy] 25 ∧ w.heap.size + 1 ≤ w'.heap.size) := by
    refine (refRight_any hcl (hl.later hb0)).mono ?_
    rintro e w' ⟨rfl, h⟩
    refine ⟨?_, hb0.trans (h.mono (by simp)), hA0.later h, by have := h.size; simp at this; omega⟩
    have : (lenB (c.length : Int) && decide (l.length ≤ 6) && l.all fitR) = true := hr
    rw [this]
  have HC : Hid (Bs w (.slice xa c.length cx) c) := hc
  clear hl hb0 hA0 hc hcl hll hr hsm
  rw [hs2] at HR ⊢
  clear hs2
  have i64 : (c.length : Int) < 64 := by omega
  go_enter Try.func12, Try.ntmps12
  go_wp2_with fail
  refine Calls.mono HR.out ?_
  rintro e w1 ⟨rfl, h1, hA1, hsz⟩
  have tc := hA1.cell
  have HA1 : Hid (At w1 w.heap.size #[.slice xa c.length cx, .slice ya 0 cy] 25) := hA1
  have HB1 : Hid (Below w.heap.size w w1) := h1
  clear HR hA1 h1
  go_wp2_with (at_builtin; go_must (refine wpList_append_bs rfl _ _ _ rfl (w.heap.size + 1) 5 Try.underlying22 Try.infoU8 rfl rfl (Own.nil _ _ _) (bs_lit w1 (leL (4 * c.length + 2) 1) _ _ _ (by simp [u8s, leL_is1]; omega) rfl (by simp [leL_length, maxLen])) (by simp [leL_length]) (by simp; omega) ?_))
  intro v2 w2 ho2 hg2
  have hb2 : Below (w.heap.size + 1) w1 w2 := (((Below.refl _ _).alloc hsz _)).grown hg2 (by simp; omega) (fun k hk => by simp [Value.ownBlock] at hk)
  have hs2 := hb2.size
  have tc2 := (HA1.out.below hb2 (by omega)).cell
  have HO2 : Hid (Own w2 (w.heap.size + 1) 5 v2 (leL (4 * c.length + 2) 1)) := by
    show Own _ _ _ _ _
    simpa using ho2
  have HBc : Hid (Bs w2 (.slice xa c.length cx) c) := HC.out.later (HB1.out.trans (hb2.mono (by omega)))
  have HB2 : Hid (Below w.heap.size w w2) := HB1.out.trans (hb2.mono (by omega))
  have hl2 := leL_length (4 * c.length + 2) 1
  clear ho2 hg2 hb2 tc
  go_wp2_with (at_builtin; go_must (refine wpList_append_bs rfl _ _ _ rfl (w.heap.size + 1) 5 Try.underlying22 Try.infoU8 rfl rfl HO2.out HBc.out (by omega) (by omega) ?_))
  intro v3 w3 ho3 hg3
  have hb3 : Below w.heap.size w w3 := HB2.out.trans ((grown8 hg3 (by omega) (fun k hk => by have := (HO2.out.block k hk).1; omega)))
  have HO3 : Hid (Bs w3 v3 (leL (4 * c.length + 2) 1 ++ c)) := ho3.bs
  clear ho3 hg3
  go_wp2
  go_ret2
  exact ⟨_, rfl, by rw [HW.out]; exact HO3.out, hb3⟩

theorem refWrite_no {w : World} {xa ya : Option Addr} {c : List UInt8} {l : List Rw} {cx cy : Nat} (hc : Bs w (.slice xa c.length cx) c) (hl : Ws w (.slice ya l.length cy) l) (hr : rightB c l = false) :
    Calls Try.prog 12 #[.agg #[.slice xa c.length cx, .slice ya l.length cy]] w fun e w' => e = .returned (.tuple #[.slice none 0 0, .int .i64 17]) ∧ Below w.heap.size w w' := by
  have hcl := hc.len
  have hb0 : Below w.heap.size w (w.alloc (.cells #[.slice xa c.length cx, .slice ya l.length cy] 25)) := (Below.refl _ _).alloc (Nat.le_refl _) _
  have HR : Hid (Calls Try.prog 22 #[.agg #[.slice xa c.length cx, .slice ya l.length cy]] (w.alloc (.cells #[.slice xa c.length cx, .slice ya l.length cy] 25)) fun e w' => e = .returned (.bool false) ∧ Below w.heap.size w w') := by
    refine (refRight_any hcl (hl.later hb0)).mono ?_
    rintro e w' ⟨rfl, h⟩
    refine ⟨?_, hb0.trans (h.mono (by simp))⟩
    have : (lenB (c.length : Int) && decide (l.length ≤ 6) && l.all fitR) = false := hr
    rw [this]
  clear hl hb0 hc hcl hr
  go_enter Try.func12, Try.ntmps12
  go_wp2_with fail
  refine Calls.mono HR.out ?_
  rintro e w1 ⟨rfl, h1⟩
  go_wp2
  go_ret2
  exact ⟨rfl, h1⟩

/-- What stands while the references' Write goes on: the box, the row. -/
structure Wr8 (w0 w : World) (a b : Value) (v : Value) (xs : List UInt8) : Prop where
  box : At w w0.heap.size #[a, b] 25
  row : Own w (w0.heap.size + 1) 5 v xs
  bel : Below w0.heap.size w0 w
  size : w0.heap.size + 1 ≤ w.heap.size
theorem Wr8.grow {w0 w w1 : World} {a b v v' : Value} {xs ys : List UInt8} (h : Wr8 w0 w a b v xs) (hb : Below (w0.heap.size + 1) w w1) (ho : Own w1 (w0.heap.size + 1) 5 v' ys) : Wr8 w0 w1 a b v' ys :=
  ⟨h.box.below hb (by omega), ho, h.bel.trans (hb.mono (by omega)), Nat.le_trans h.size hb.size⟩
theorem Wr8.later {w0 w w1 : World} {a b v : Value} {xs : List UInt8} (h : Wr8 w0 w a b v xs) (hb : Below w.heap.size w w1) : Wr8 w0 w1 a b v xs :=
  h.grow (hb.mono h.size) (h.row.later hb)
/-- Behind an append, in the world of the call, or behind an alloc. -/
theorem Wr8.app {w0 w w1 : World} {a b v v' : Value} {xs ys : List UInt8} (h : Wr8 w0 w a b v xs) (hg : w.grownBy w1 v.ownBlock) (ho : Own w1 (w0.heap.size + 1) 5 v' ys) : Wr8 w0 w1 a b v' ys :=
  h.grow (grown8 hg h.size fun k hk => (h.row.block k hk).1) ho

/-- How long a slice is. -/
def lenV8 : Value → Nat
  | .slice _ n _ => n
  | _ => 0

set_option maxHeartbeats 2000000 in
set_option maxRecDepth 100000 in
theorem refWrite_lt {w : World} {xa ya : Option Addr} {c : List UInt8} {l : List Rw} {cx cy : Nat} (hc : Bs w (.slice xa c.length cx) c) (hl : Ws w (.slice ya l.length cy) l) (hr : rightB c l = true) (hsm : smallB c l = false) (hl0 : 0 < l.length) (i64 : (c.length : Int) < 64) :
    Calls Try.prog 12 #[.agg #[.slice xa c.length cx, .slice ya l.length cy]] w fun e w' => ∃ v, e = .returned (.tuple #[v, .int .i64 0]) ∧ Bs w' v (wrL c l) ∧ Below w.heap.size w w' := by
  have hcl := hc.len
  have hll := hl.len
  obtain ⟨⟨hr1, hr2⟩, hr3, hr4⟩ := (rightB_iff c l).1 hr
  have hmk : mkN8 l = 11 := by unfold mkN8; rw [if_neg (by omega)]
  have HW : Hid (wrL c l = [11, 0, 0, 0] ++ leL c.length 4 ++ c ++ List.replicate (fillN (c.length + 8)) 0 ++ [1, UInt8.ofNat l.length, 0, 0] ++ clsB l) := by
    show _ = _
    unfold wrL
    rw [if_neg (by rw [hsm]; decide), headW_length, headW_eq, tabW_eq _ _ (by omega), hmk]
    simp only [List.append_assoc]
    rfl
  have HFit : Hid (l.all fitR = true) := hr4
  have hb0 : Below w.heap.size w (w.alloc (.cells #[.slice xa c.length cx, .slice ya l.length cy] 25)) := (Below.refl _ _).alloc (Nat.le_refl _) _
  have hA0 : At (w.alloc (.cells #[.slice xa c.length cx, .slice ya l.length cy] 25)) w.heap.size #[.slice xa c.length cx, .slice ya l.length cy] 25 := At.made _ _ _
  have HR : Hid (Calls Try.prog 22 #[.agg #[.slice xa c.length cx, .slice ya l.length cy]] (w.alloc (.cells #[.slice xa c.length cx, .slice ya l.length cy] 25)) fun e w' => e = .returned (.bool true) ∧ Wr8 w w' (.slice xa c.length cx) (.slice ya l.length cy) (.slice none 0 0) []) := by
    refine (refRight_any hcl (hl.later hb0)).mono ?_
    rintro e w' ⟨rfl, h⟩
    refine ⟨?_, hA0.later h, Own.nil _ _ _, hb0.trans (h.mono (by simp)), by have := h.size; simp at this; omega⟩
    have : (lenB (c.length : Int) && decide (l.length ≤ 6) && l.all fitR) = true := hr
    rw [this]
  have HC : Hid (∀ W, Below w.heap.size w W → Bs W (.slice xa c.length cx) c) := fun W h => hc.later h
  have hne : l ≠ [] := List.length_pos_iff.1 hl0
  obtain ⟨b, off, cap, e1, _, _, hbl, hcs⟩ := hl.parts hne
  simp only [Value.slice.injEq] at e1
  obtain ⟨rfl, -, rfl⟩ := e1
  have HCs : Hid (∀ W, Below w.heap.size w W → ∀ i (hi : i < l.length), Six8 W b (off + i * 6) l[i]) := fun W h i hi => (hcs i hi).below h hbl
  have HCl : Hid (c.length ≤ 65535) := hr2
  clear hl hb0 hA0 hc hcl hll hr hsm hmk hr4 hcs hbl hne
  have il0 : (0 : Int) < (l.length : Int) := by omega
  have il1 : ((l.length : Int) == 0) = false := by rw [beq_eq_false_iff_ne]; omega
  have HP4 : Hid (∀ W, Calls Try.prog 23 #[.int .u64 (c.length : Int), .int .i64 4] W fun e w' => ∃ v, e = .returned v ∧ Own w' W.heap.size 5 v (leL c.length 4) ∧ Below W.heap.size W w') := fun W => refPut_any c.length 4 (by omega) (by omega) W
  have hP4l := leL_length c.length 4
  go_enter Try.func12, Try.ntmps12
  go_wp2_with fail
  refine Calls.mono HR.out ?_
  rintro e w1 ⟨rfl, h1⟩
  have tc := h1.box.cell
  have H1 : Hid (Wr8 w w1 (.slice xa c.length cx) (.slice (some ⟨b, off, none⟩) l.length cy) (.slice none 0 0) []) := h1
  have hz1 := h1.size
  clear HR h1
  have KB : Hid (∀ (W : World) (C : Array Value), Below W.heap.size W (W.alloc (.cells C 5))) := fun W C => (Below.refl _ _).alloc (Nat.le_refl _) _
  go_wp2_with (at_builtin; go_must (refine wpList_append_bs rfl _ _ _ rfl (w.heap.size + 1) 5 Try.underlying22 Try.infoU8 rfl rfl (Own.nil _ _ _) (bs_lit w1 [11, 0, 0, 0] _ _ _ rfl rfl (by simp [maxLen])) (by simp) (by simp; omega) ?_))
  intro v2 w2 ho2 hg2
  have H2 : Hid (Wr8 w w2 (.slice xa c.length cx) (.slice (some ⟨b, off, none⟩) l.length cy) v2 [11, 0, 0, 0]) := Wr8.app (H1.out.later (KB.out _ _)) hg2 (by simpa using ho2)
  clear ho2 hg2 H1 tc
  have tc := H2.out.box.cell
  go_wp2_with fail
  refine Calls.mono (HP4.out _) ?_
  rintro e w3 ⟨v3, rfl, ho3, hb3⟩
  have H3 : Hid (Wr8 w w3 (.slice xa c.length cx) (.slice (some ⟨b, off, none⟩) l.length cy) v2 [11, 0, 0, 0]) := H2.out.later hb3
  have HV3 : Hid (Bs w3 v3 (leL c.length 4)) := ho3.bs
  have hz3 := H3.out.size
  clear ho3 hb3 H2 tc
  go_wp2_with (at_builtin; go_must (refine wpList_append_bs rfl _ _ _ rfl (w.heap.size + 1) 5 Try.underlying22 Try.infoU8 rfl rfl H3.out.row HV3.out (by rw [hP4l]; simp) hz3 ?_))
  intro v4 w4 ho4 hg4
  have hl4 : ([11, 0, 0, 0] ++ leL c.length 4).length = 8 := by simp [hP4l]
  obtain ⟨P4, hP4⟩ : ∃ P, P = [11, 0, 0, 0] ++ leL c.length 4 := ⟨_, rfl⟩
  rw [← hP4] at hl4 HW
  have H4 : Hid (Wr8 w w4 (.slice xa c.length cx) (.slice (some ⟨b, off, none⟩) l.length cy) v4 P4) := H3.out.app hg4 (by rw [hP4]; exact ho4)
  have tc := H4.out.box.cell
  have HV4 : Hid (Bs w4 (.slice xa c.length cx) c) := HC.out w4 H4.out.bel
  have hz4 := H4.out.size
  have hcl := HCl.out
  clear ho4 hg4 H3 hz3 HV3 hP4 HP4 hP4l
  go_wp2_with (at_builtin; go_must (refine wpList_append_bs rfl _ _ _ rfl (w.heap.size + 1) 5 Try.underlying22 Try.infoU8 rfl rfl H4.out.row HV4.out (by rw [hl4]; omega) hz4 ?_))
  intro v5 w5 ho5 hg5
  have hl5 : (P4 ++ c).length = c.length + 8 := by simp [hl4]; omega
  obtain ⟨P5, hP5⟩ : ∃ P, P = P4 ++ c := ⟨_, rfl⟩
  rw [← hP5] at hl5 HW
  have H5 : Hid (Wr8 w w5 (.slice xa c.length cx) (.slice (some ⟨b, off, none⟩) l.length cy) v5 P5) := H4.out.app hg5 (by rw [hP5]; exact ho5)
  have tc5 := H5.out.box.cell
  clear ho5 hg5 H4 hz4 HV4 hP5 hl4 tc
  go_wp2
  have HF5 : Hid (fillN (c.length + 8) ≤ 3 ∧ ∀ k, k ≤ fillN (c.length + 8) → ((c.length + 8 + k) % 4 = 0 ↔ k = fillN (c.length + 8))) := by
    unfold fillN
    refine ⟨by omega, fun k hk => ?_⟩
    omega
  generalize fillN (c.length + 8) = F at *
  go_loopw [4] (fun u wr => ∃ k : Nat, k ≤ F ∧ Wr8 w wr (.slice xa c.length cx) (.slice (some ⟨b, off, none⟩) l.length cy) u (P5 ++ List.replicate k 0)) (fun u _ => c.length + 8 + F - lenV8 u)
  case atStart => exact ⟨0, Nat.zero_le _, by simpa using H5.out⟩
  case round =>
    obtain ⟨k, hk, h6⟩ := hrel
    have hl6 : (P5 ++ List.replicate k (0 : UInt8)).length = c.length + 8 + k := by simp [hl5]
    obtain ⟨aa, ac, rfl, r1, r2⟩ := h6.row.shape
    rw [hl6] at h6 r1 ⊢
    have H6 : Hid (Wr8 w wr (.slice xa c.length cx) (.slice (some ⟨b, off, none⟩) l.length cy) (.slice aa (c.length + 8 + k) ac) (P5 ++ List.replicate k 0)) := h6
    have HL6 : Hid ((P5 ++ List.replicate k (0 : UInt8)).length = c.length + 8 + k) := hl6
    have hz6 := h6.size
    have tc := h6.box.cell
    have hF3 := HF5.out.1
    have hFk := HF5.out.2 k hk
    clear h6 H5 tc5 r1 r2 hl6
    obtain ⟨n6, hn6⟩ : ∃ n, n = c.length + 8 + k := ⟨_, rfl⟩
    rw [← hn6] at H6 HL6 hFk ⊢
    have hn6l : n6 ≤ 70000 := by omega
    have HN6 : Hid (n6 = c.length + 8 + k) := hn6
    clear hn6
    by_cases hkF : k < F
    · have hm : (0 : Int) < (n6 : Int) % 4 := by omega
      go_wp2_with (at_builtin; go_must (refine wpList_append_bs rfl _ _ _ rfl (w.heap.size + 1) 5 Try.underlying22 Try.infoU8 rfl rfl (H6.out.later (KB.out _ _)).row (bs_lit wr [0] _ _ _ rfl rfl (by simp [maxLen])) (by have := HL6.out; simp only [List.length_cons, List.length_nil]; omega) (by simp; omega) ?_))
      intro v7 w7 ho7 hg7
      have h7 : Wr8 w w7 (.slice xa c.length cx) (.slice (some ⟨b, off, none⟩) l.length cy) v7 (P5 ++ List.replicate (k + 1) 0) := by
        refine (H6.out.later (KB.out _ _)).app hg7 ?_
        rw [List.replicate_succ']; exact ho7
      have hl7 : (P5 ++ List.replicate (k + 1) (0 : UInt8)).length = n6 + 1 := by have := HN6.out; simp [hl5]; omega
      obtain ⟨a7, c7, rfl, _, _⟩ := h7.row.shape
      rw [hl7] at h7 ⊢
      have H7 : Hid (Wr8 w w7 (.slice xa c.length cx) (.slice (some ⟨b, off, none⟩) l.length cy) (.slice a7 (n6 + 1) c7) (P5 ++ List.replicate (k + 1) 0)) := h7
      clear ho7 hg7 h7
      go_wp2
      go_roundw
      case rel => exact ⟨k + 1, by omega, H7.out⟩
      case measure => have := HN6.out; simp [lenV8]; omega
    · have hkF' : k = F := by omega
      have hm : (n6 : Int) % 4 = 0 := by have := hFk.2 hkF'; omega
      subst hkF'
      obtain ⟨P6, hP6⟩ : ∃ P, P = P5 ++ List.replicate k (0 : UInt8) := ⟨_, rfl⟩
      rw [← hP6] at H6 HL6 HW
      clear hP6 hFk hF3 hl5
      go_wp2_with (at_builtin; go_must (refine wpList_append_bs rfl _ _ _ rfl (w.heap.size + 1) 5 Try.underlying22 Try.infoU8 rfl rfl (H6.out.later (KB.out _ _)).row (bs_lit wr [1, UInt8.ofNat l.length, 0, 0] _ _ _ (by simp [u8s]; omega) rfl (by simp [maxLen])) (by have := HL6.out; simp only [List.length_cons, List.length_nil]; omega) (by simp; omega) ?_))
      intro v7 w7 ho7 hg7
      obtain ⟨P7, hP7⟩ : ∃ P, P = P6 ++ [1, UInt8.ofNat l.length, 0, 0] := ⟨_, rfl⟩
      have hl7 : P7.length = n6 + 4 := by rw [hP7, List.length_append, HL6.out]; rfl
      rw [← hP7] at ho7 HW
      have H7 : Hid (Wr8 w w7 (.slice xa c.length cx) (.slice (some ⟨b, off, none⟩) l.length cy) v7 P7) := (H6.out.later (KB.out _ _)).app hg7 ho7
      have tc7 := H7.out.box.cell
      have HL7 : Hid (P7.length ≤ 70004) := by show _ ≤ _; omega
      clear ho7 hg7 hP7 hl7 tc H6 HL6
      go_wp2
      go_loopw [4, 5, 6, 7] (fun u z _ _ wr => ∃ q : Nat, q ≤ l.length ∧ z = .int .i64 (q : Int) ∧ Wr8 w wr (.slice xa c.length cx) (.slice (some ⟨b, off, none⟩) l.length cy) u (P7 ++ clsB (l.take q))) (fun _ z _ _ _ => l.length - (intOf z).toNat)
      case atStart => exact ⟨0, Nat.zero_le _, rfl, by simpa [clsB] using H7.out⟩
      case round =>
        obtain ⟨q, hq, rfl, h8⟩ := hrel
        have tc := h8.box.cell
        clear tc7 H7
        by_cases hql : q < l.length
        · obtain ⟨c0, c1, c2, c3, c4, c5⟩ := HCs.out wr h8.bel q hql
          have hfr : fitR l[q] = true := List.all_eq_true.1 HFit.out _ (List.getElem_mem hql)
          have hQl : (P7 ++ clsB (l.take q)).length ≤ 70100 := by have := HL7.out; simp [clsB_length]; omega
          obtain ⟨Q, hQ⟩ : ∃ Q, Q = P7 ++ clsB (l.take q) := ⟨_, rfl⟩
          have HQ : Hid (P7 ++ clsB (l.take (q + 1)) = Q ++ clB l[q]) := by show _ = _; rw [List.take_succ_eq_append_getElem hql, clsB_snoc, hQ, List.append_assoc]
          rw [← hQ] at h8 hQl
          clear hQ
          generalize l[q] = t at *
          obtain ⟨x0, x1, x2, x3, x4, x5⟩ := t
          simp only at c0 c1 c2 c3 c4 c5
          have HFR : Hid (fitR (x0, x1, x2, x3, x4, x5) = true) := hfr
          have HN : Hid (Calls Try.prog 24 #[.agg #[.int .i64 x0, .int .i64 x1, .int .i64 x2, .int .i64 x3, .int .i64 x4, .int .i64 x5]] wr fun e w' => ∃ v, e = .returned v ∧ Nm w' v (x0, x1, x2, x3, x4, x5) ∧ Wr8 w w' (.slice xa c.length cx) (.slice (some ⟨b, off, none⟩) l.length cy) u4 Q) := by
            refine (numbers8_any x0 x1 x2 x3 x4 x5 wr).mono ?_
            rintro e w' ⟨v, rfl, g1, g2⟩
            exact ⟨v, rfl, g1, h8.later g2⟩
          clear h8 hfr
          go_wp2_with fail
          refine Calls.mono HN.out ?_
          rintro e w9 ⟨v9, rfl, hnm, h9⟩
          have H9 : Hid (Wr8 w w9 (.slice xa c.length cx) (.slice (some ⟨b, off, none⟩) l.length cy) u4 Q) := h9
          have HNm : Hid (Nm w9 v9 (x0, x1, x2, x3, x4, x5)) := hnm
          obtain ⟨nb, nc, NC, rfl, -, hn6', hnm', -⟩ := hnm
          unfold maxLen at hnm'
          clear h9 HN tc c0 c1 c2 c3 c4 c5
          go_wp2
          go_loopw [4, 7] (fun u z wr => ∃ k : Nat, k ≤ 6 ∧ z = .int .i64 (k : Int) ∧ Wr8 w wr (.slice xa c.length cx) (.slice (some ⟨b, off, none⟩) l.length cy) u (Q ++ clTo (x0, x1, x2, x3, x4, x5) k) ∧ Nm wr (.slice (some ⟨nb, 0, none⟩) 6 nc) (x0, x1, x2, x3, x4, x5)) (fun _ z _ => 6 - (intOf z).toNat)
          case atStart => exact ⟨0, Nat.zero_le _, rfl, by simpa [clTo] using H9.out, HNm.out⟩
          case round =>
            obtain ⟨k, hk, rfl, h10, hm10⟩ := hrel
            clear H9 HNm
            by_cases hk6 : k < 6
            · obtain ⟨x, -, hx⟩ := six_get x0 x1 x2 x3 x4 x5 k hk6
              have hfx := (fitN_iff x).1 (List.all_eq_true.1 HFR.out x (List.mem_of_getElem? hx))
              obtain ⟨m, rfl⟩ := Int.eq_ofNat_of_zero_le hfx.1
              have HNm : Hid (Nm wr (.slice (some ⟨nb, 0, none⟩) 6 nc) (x0, x1, x2, x3, x4, x5)) := hm10
              obtain ⟨nb', nc', NC', e9, hA9, _, _, hc9⟩ := hm10
              simp only [Value.slice.injEq, Option.some.injEq, Addr.mk.injEq] at e9
              obtain ⟨⟨rfl, -⟩, -, rfl⟩ := e9
              have hck : wr.cell? ⟨nb, k, none⟩ = some (.int .i64 (m : Int)) := by rw [hA9.cell]; exact hc9 k _ hx
              have H10 : Hid (Wr8 w wr (.slice xa c.length cx) (.slice (some ⟨b, off, none⟩) l.length cy) u4 (Q ++ clTo (x0, x1, x2, x3, x4, x5) k)) := h10
              have HP : Hid (Calls Try.prog 23 #[.int .u64 (m : Int), .int .i64 2] wr fun e w' => ∃ v, e = .returned v ∧ Own w' wr.heap.size 5 v (leL m 2) ∧ Below wr.heap.size wr w') := refPut_any m 2 (by omega) (by omega) wr
              have hcl8 := clTo_length (x0, x1, x2, x3, x4, x5) k (by omega)
              have HQl : Hid ((Q ++ clTo (x0, x1, x2, x3, x4, x5) k).length ≤ 70120) := by show _ ≤ _; simp; omega
              have HS : Hid (Q ++ clTo (x0, x1, x2, x3, x4, x5) (k + 1) = Q ++ clTo (x0, x1, x2, x3, x4, x5) k ++ leL m 2) := by show _ = _; rw [clTo_succ _ _ _ hx, ← List.append_assoc]; rfl
              have hl2 := leL_length m 2
              clear h10 hA9 hc9 hx hcl8
              go_wp2_with fail
              refine Calls.mono HP.out ?_
              rintro e w11 ⟨v11, rfl, ho11, hb11⟩
              have H11 : Hid (Wr8 w w11 (.slice xa c.length cx) (.slice (some ⟨b, off, none⟩) l.length cy) u4 (Q ++ clTo (x0, x1, x2, x3, x4, x5) k)) := H10.out.later hb11
              have HV11 : Hid (Bs w11 v11 (leL m 2)) := ho11.bs
              have HNm11 : Hid (Nm w11 (.slice (some ⟨nb, 0, none⟩) 6 nc) (x0, x1, x2, x3, x4, x5)) := HNm.out.later hb11
              have hz11 := H11.out.size
              clear ho11 hb11 HP H10 HNm hck
              go_wp2_with (at_builtin; go_must (refine wpList_append_bs rfl _ _ _ rfl (w.heap.size + 1) 5 Try.underlying22 Try.infoU8 rfl rfl H11.out.row HV11.out (by have := HQl.out; omega) hz11 ?_))
              intro v12 w12 ho12 hg12
              have H12 : Hid (Wr8 w w12 (.slice xa c.length cx) (.slice (some ⟨b, off, none⟩) l.length cy) v12 (Q ++ clTo (x0, x1, x2, x3, x4, x5) (k + 1))) := H11.out.app hg12 (by rw [HS.out]; simpa using ho12)
              have HNm12 : Hid (Nm w12 (.slice (some ⟨nb, 0, none⟩) 6 nc) (x0, x1, x2, x3, x4, x5)) := HNm11.out.grown H11.out.row hg12
              clear ho12 hg12 H11 HNm11 HV11
              go_wp2
              go_roundw
              case rel => exact ⟨k + 1, by omega, by go_num, H12.out, HNm12.out⟩
              case measure => simp [intOf]; omega
            · have hk6' : k = 6 := by omega
              subst hk6'
              have H10 : Hid (Wr8 w wr (.slice xa c.length cx) (.slice (some ⟨b, off, none⟩) l.length cy) u4 (P7 ++ clsB (l.take (q + 1)))) := by
                show Wr8 _ _ _ _ _ _
                rw [HQ.out, ← clTo_all]; exact h10
              clear h10 hm10
              go_wp2
              go_roundw
              case rel => exact ⟨q + 1, by omega, by go_num, H10.out⟩
              case measure => simp [intOf]; omega
        · have hqn : q = l.length := by omega
          subst hqn
          rw [List.take_length] at h8
          have H8 : Hid (Bs wr u4 (P7 ++ clsB l)) := h8.row.bs
          have HB8 : Hid (Below w.heap.size w wr) := h8.bel
          clear h8
          go_wp2
          go_ret2
          exact ⟨_, rfl, by rw [HW.out]; exact H8.out, HB8.out⟩

set_option maxHeartbeats 2000000 in
set_option maxRecDepth 100000 in
theorem refWrite_ge {w : World} {xa ya : Option Addr} {c : List UInt8} {l : List Rw} {cx cy : Nat} (hc : Bs w (.slice xa c.length cx) c) (hl : Ws w (.slice ya l.length cy) l) (hr : rightB c l = true) (hsm : smallB c l = false) (hl0 : 0 < l.length) (i64 : (64 : Int) ≤ (c.length : Int)) :
    Calls Try.prog 12 #[.agg #[.slice xa c.length cx, .slice ya l.length cy]] w fun e w' => ∃ v, e = .returned (.tuple #[v, .int .i64 0]) ∧ Bs w' v (wrL c l) ∧ Below w.heap.size w w' := by
  have hcl := hc.len
  have hll := hl.len
  obtain ⟨⟨hr1, hr2⟩, hr3, hr4⟩ := (rightB_iff c l).1 hr
  have hmk : mkN8 l = 11 := by unfold mkN8; rw [if_neg (by omega)]
  have HW : Hid (wrL c l = [11, 0, 0, 0] ++ leL c.length 4 ++ c ++ List.replicate (fillN (c.length + 8)) 0 ++ [1, UInt8.ofNat l.length, 0, 0] ++ clsB l) := by
    show _ = _
    unfold wrL
    rw [if_neg (by rw [hsm]; decide), headW_length, headW_eq, tabW_eq _ _ (by omega), hmk]
    simp only [List.append_assoc]
    rfl
  have HFit : Hid (l.all fitR = true) := hr4
  have hb0 : Below w.heap.size w (w.alloc (.cells #[.slice xa c.length cx, .slice ya l.length cy] 25)) := (Below.refl _ _).alloc (Nat.le_refl _) _
  have hA0 : At (w.alloc (.cells #[.slice xa c.length cx, .slice ya l.length cy] 25)) w.heap.size #[.slice xa c.length cx, .slice ya l.length cy] 25 := At.made _ _ _
  have HR : Hid (Calls Try.prog 22 #[.agg #[.slice xa c.length cx, .slice ya l.length cy]] (w.alloc (.cells #[.slice xa c.length cx, .slice ya l.length cy] 25)) fun e w' => e = .returned (.bool true) ∧ Wr8 w w' (.slice xa c.length cx) (.slice ya l.length cy) (.slice none 0 0) []) := by
    refine (refRight_any hcl (hl.later hb0)).mono ?_
    rintro e w' ⟨rfl, h⟩
    refine ⟨?_, hA0.later h, Own.nil _ _ _, hb0.trans (h.mono (by simp)), by have := h.size; simp at this; omega⟩
    have : (lenB (c.length : Int) && decide (l.length ≤ 6) && l.all fitR) = true := hr
    rw [this]
  have HC : Hid (∀ W, Below w.heap.size w W → Bs W (.slice xa c.length cx) c) := fun W h => hc.later h
  have hne : l ≠ [] := List.length_pos_iff.1 hl0
  obtain ⟨b, off, cap, e1, _, _, hbl, hcs⟩ := hl.parts hne
  simp only [Value.slice.injEq] at e1
  obtain ⟨rfl, -, rfl⟩ := e1
  have HCs : Hid (∀ W, Below w.heap.size w W → ∀ i (hi : i < l.length), Six8 W b (off + i * 6) l[i]) := fun W h i hi => (hcs i hi).below h hbl
  have HCl : Hid (c.length ≤ 65535) := hr2
  clear hl hb0 hA0 hc hcl hll hr hsm hmk hr4 hcs hbl hne
  have il0 : (0 : Int) < (l.length : Int) := by omega
  have il1 : ((l.length : Int) == 0) = false := by rw [beq_eq_false_iff_ne]; omega
  have HP4 : Hid (∀ W, Calls Try.prog 23 #[.int .u64 (c.length : Int), .int .i64 4] W fun e w' => ∃ v, e = .returned v ∧ Own w' W.heap.size 5 v (leL c.length 4) ∧ Below W.heap.size W w') := fun W => refPut_any c.length 4 (by omega) (by omega) W
  have hP4l := leL_length c.length 4
  go_enter Try.func12, Try.ntmps12
  go_wp2_with fail
  refine Calls.mono HR.out ?_
  rintro e w1 ⟨rfl, h1⟩
  have tc := h1.box.cell
  have H1 : Hid (Wr8 w w1 (.slice xa c.length cx) (.slice (some ⟨b, off, none⟩) l.length cy) (.slice none 0 0) []) := h1
  have hz1 := h1.size
  clear HR h1
  have KB : Hid (∀ (W : World) (C : Array Value), Below W.heap.size W (W.alloc (.cells C 5))) := fun W C => (Below.refl _ _).alloc (Nat.le_refl _) _
  go_wp2_with (at_builtin; go_must (refine wpList_append_bs rfl _ _ _ rfl (w.heap.size + 1) 5 Try.underlying22 Try.infoU8 rfl rfl (Own.nil _ _ _) (bs_lit w1 [11, 0, 0, 0] _ _ _ rfl rfl (by simp [maxLen])) (by simp) (by simp; omega) ?_))
  intro v2 w2 ho2 hg2
  have H2 : Hid (Wr8 w w2 (.slice xa c.length cx) (.slice (some ⟨b, off, none⟩) l.length cy) v2 [11, 0, 0, 0]) := Wr8.app (H1.out.later (KB.out _ _)) hg2 (by simpa using ho2)
  clear ho2 hg2 H1 tc
  have tc := H2.out.box.cell
  go_wp2_with fail
  refine Calls.mono (HP4.out _) ?_
  rintro e w3 ⟨v3, rfl, ho3, hb3⟩
  have H3 : Hid (Wr8 w w3 (.slice xa c.length cx) (.slice (some ⟨b, off, none⟩) l.length cy) v2 [11, 0, 0, 0]) := H2.out.later hb3
  have HV3 : Hid (Bs w3 v3 (leL c.length 4)) := ho3.bs
  have hz3 := H3.out.size
  clear ho3 hb3 H2 tc
  go_wp2_with (at_builtin; go_must (refine wpList_append_bs rfl _ _ _ rfl (w.heap.size + 1) 5 Try.underlying22 Try.infoU8 rfl rfl H3.out.row HV3.out (by rw [hP4l]; simp) hz3 ?_))
  intro v4 w4 ho4 hg4
  have hl4 : ([11, 0, 0, 0] ++ leL c.length 4).length = 8 := by simp [hP4l]
  obtain ⟨P4, hP4⟩ : ∃ P, P = [11, 0, 0, 0] ++ leL c.length 4 := ⟨_, rfl⟩
  rw [← hP4] at hl4 HW
  have H4 : Hid (Wr8 w w4 (.slice xa c.length cx) (.slice (some ⟨b, off, none⟩) l.length cy) v4 P4) := H3.out.app hg4 (by rw [hP4]; exact ho4)
  have tc := H4.out.box.cell
  have HV4 : Hid (Bs w4 (.slice xa c.length cx) c) := HC.out w4 H4.out.bel
  have hz4 := H4.out.size
  have hcl := HCl.out
  clear ho4 hg4 H3 hz3 HV3 hP4 HP4 hP4l
  go_wp2_with (at_builtin; go_must (refine wpList_append_bs rfl _ _ _ rfl (w.heap.size + 1) 5 Try.underlying22 Try.infoU8 rfl rfl H4.out.row HV4.out (by rw [hl4]; omega) hz4 ?_))
  intro v5 w5 ho5 hg5
  have hl5 : (P4 ++ c).length = c.length + 8 := by simp [hl4]; omega
  obtain ⟨P5, hP5⟩ : ∃ P, P = P4 ++ c := ⟨_, rfl⟩
  rw [← hP5] at hl5 HW
  have H5 : Hid (Wr8 w w5 (.slice xa c.length cx) (.slice (some ⟨b, off, none⟩) l.length cy) v5 P5) := H4.out.app hg5 (by rw [hP5]; exact ho5)
  have tc5 := H5.out.box.cell
  clear ho5 hg5 H4 hz4 HV4 hP5 hl4 tc
  go_wp2
  have HF5 : Hid (fillN (c.length + 8) ≤ 3 ∧ ∀ k, k ≤ fillN (c.length + 8) → ((c.length + 8 + k) % 4 = 0 ↔ k = fillN (c.length + 8))) := by
    unfold fillN
    refine ⟨by omega, fun k hk => ?_⟩
    omega
  generalize fillN (c.length + 8) = F at *
  go_loopw [4] (fun u wr => ∃ k : Nat, k ≤ F ∧ Wr8 w wr (.slice xa c.length cx) (.slice (some ⟨b, off, none⟩) l.length cy) u (P5 ++ List.replicate k 0)) (fun u _ => c.length + 8 + F - lenV8 u)
  case atStart => exact ⟨0, Nat.zero_le _, by simpa using H5.out⟩
  case round =>
    obtain ⟨k, hk, h6⟩ := hrel
    have hl6 : (P5 ++ List.replicate k (0 : UInt8)).length = c.length + 8 + k := by simp [hl5]
    obtain ⟨aa, ac, rfl, r1, r2⟩ := h6.row.shape
    rw [hl6] at h6 r1 ⊢
    have H6 : Hid (Wr8 w wr (.slice xa c.length cx) (.slice (some ⟨b, off, none⟩) l.length cy) (.slice aa (c.length + 8 + k) ac) (P5 ++ List.replicate k 0)) := h6
    have HL6 : Hid ((P5 ++ List.replicate k (0 : UInt8)).length = c.length + 8 + k) := hl6
    have hz6 := h6.size
    have tc := h6.box.cell
    have hF3 := HF5.out.1
    have hFk := HF5.out.2 k hk
    clear h6 H5 tc5 r1 r2 hl6
    obtain ⟨n6, hn6⟩ : ∃ n, n = c.length + 8 + k := ⟨_, rfl⟩
    rw [← hn6] at H6 HL6 hFk ⊢
    have hn6l : n6 ≤ 70000 := by omega
    have HN6 : Hid (n6 = c.length + 8 + k) := hn6
    clear hn6
    by_cases hkF : k < F
    · have hm : (0 : Int) < (n6 : Int) % 4 := by omega
      go_wp2_with (at_builtin; go_must (refine wpList_append_bs rfl _ _ _ rfl (w.heap.size + 1) 5 Try.underlying22 Try.infoU8 rfl rfl (H6.out.later (KB.out _ _)).row (bs_lit wr [0] _ _ _ rfl rfl (by simp [maxLen])) (by have := HL6.out; simp only [List.length_cons, List.length_nil]; omega) (by simp; omega) ?_))
      intro v7 w7 ho7 hg7
      have h7 : Wr8 w w7 (.slice xa c.length cx) (.slice (some ⟨b, off, none⟩) l.length cy) v7 (P5 ++ List.replicate (k + 1) 0) := by
        refine (H6.out.later (KB.out _ _)).app hg7 ?_
        rw [List.replicate_succ']; exact ho7
      have hl7 : (P5 ++ List.replicate (k + 1) (0 : UInt8)).length = n6 + 1 := by have := HN6.out; simp [hl5]; omega
      obtain ⟨a7, c7, rfl, _, _⟩ := h7.row.shape
      rw [hl7] at h7 ⊢
      have H7 : Hid (Wr8 w w7 (.slice xa c.length cx) (.slice (some ⟨b, off, none⟩) l.length cy) (.slice a7 (n6 + 1) c7) (P5 ++ List.replicate (k + 1) 0)) := h7
      clear ho7 hg7 h7
      go_wp2
      go_roundw
      case rel => exact ⟨k + 1, by omega, H7.out⟩
      case measure => have := HN6.out; simp [lenV8]; omega
    · have hkF' : k = F := by omega
      have hm : (n6 : Int) % 4 = 0 := by have := hFk.2 hkF'; omega
      subst hkF'
      obtain ⟨P6, hP6⟩ : ∃ P, P = P5 ++ List.replicate k (0 : UInt8) := ⟨_, rfl⟩
      rw [← hP6] at H6 HL6 HW
      clear hP6 hFk hF3 hl5
      go_wp2_with (at_builtin; go_must (refine wpList_append_bs rfl _ _ _ rfl (w.heap.size + 1) 5 Try.underlying22 Try.infoU8 rfl rfl (H6.out.later (KB.out _ _)).row (bs_lit wr [1, UInt8.ofNat l.length, 0, 0] _ _ _ (by simp [u8s]; omega) rfl (by simp [maxLen])) (by have := HL6.out; simp only [List.length_cons, List.length_nil]; omega) (by simp; omega) ?_))
      intro v7 w7 ho7 hg7
      obtain ⟨P7, hP7⟩ : ∃ P, P = P6 ++ [1, UInt8.ofNat l.length, 0, 0] := ⟨_, rfl⟩
      have hl7 : P7.length = n6 + 4 := by rw [hP7, List.length_append, HL6.out]; rfl
      rw [← hP7] at ho7 HW
      have H7 : Hid (Wr8 w w7 (.slice xa c.length cx) (.slice (some ⟨b, off, none⟩) l.length cy) v7 P7) := (H6.out.later (KB.out _ _)).app hg7 ho7
      have tc7 := H7.out.box.cell
      have HL7 : Hid (P7.length ≤ 70004) := by show _ ≤ _; omega
      clear ho7 hg7 hP7 hl7 tc H6 HL6
      go_wp2
      go_loopw [4, 5, 6, 7] (fun u z _ _ wr => ∃ q : Nat, q ≤ l.length ∧ z = .int .i64 (q : Int) ∧ Wr8 w wr (.slice xa c.length cx) (.slice (some ⟨b, off, none⟩) l.length cy) u (P7 ++ clsB (l.take q))) (fun _ z _ _ _ => l.length - (intOf z).toNat)
      case atStart => exact ⟨0, Nat.zero_le _, rfl, by simpa [clsB] using H7.out⟩
      case round =>
        obtain ⟨q, hq, rfl, h8⟩ := hrel
        have tc := h8.box.cell
        clear tc7 H7
        by_cases hql : q < l.length
        · obtain ⟨c0, c1, c2, c3, c4, c5⟩ := HCs.out wr h8.bel q hql
          have hfr : fitR l[q] = true := List.all_eq_true.1 HFit.out _ (List.getElem_mem hql)
          have hQl : (P7 ++ clsB (l.take q)).length ≤ 70100 := by have := HL7.out; simp [clsB_length]; omega
          obtain ⟨Q, hQ⟩ : ∃ Q, Q = P7 ++ clsB (l.take q) := ⟨_, rfl⟩
          have HQ : Hid (P7 ++ clsB (l.take (q + 1)) = Q ++ clB l[q]) := by show _ = _; rw [List.take_succ_eq_append_getElem hql, clsB_snoc, hQ, List.append_assoc]
          rw [← hQ] at h8 hQl
          clear hQ
          generalize l[q] = t at *
          obtain ⟨x0, x1, x2, x3, x4, x5⟩ := t
          simp only at c0 c1 c2 c3 c4 c5
          have HFR : Hid (fitR (x0, x1, x2, x3, x4, x5) = true) := hfr
          have HN : Hid (Calls Try.prog 24 #[.agg #[.int .i64 x0, .int .i64 x1, .int .i64 x2, .int .i64 x3, .int .i64 x4, .int .i64 x5]] wr fun e w' => ∃ v, e = .returned v ∧ Nm w' v (x0, x1, x2, x3, x4, x5) ∧ Wr8 w w' (.slice xa c.length cx) (.slice (some ⟨b, off, none⟩) l.length cy) u4 Q) := by
            refine (numbers8_any x0 x1 x2 x3 x4 x5 wr).mono ?_
            rintro e w' ⟨v, rfl, g1, g2⟩
            exact ⟨v, rfl, g1, h8.later g2⟩
          clear h8 hfr
          go_wp2_with fail
          refine Calls.mono HN.out ?_
          rintro e w9 ⟨v9, rfl, hnm, h9⟩
          have H9 : Hid (Wr8 w w9 (.slice xa c.length cx) (.slice (some ⟨b, off, none⟩) l.length cy) u4 Q) := h9
          have HNm : Hid (Nm w9 v9 (x0, x1, x2, x3, x4, x5)) := hnm
          obtain ⟨nb, nc, NC, rfl, -, hn6', hnm', -⟩ := hnm
          unfold maxLen at hnm'
          clear h9 HN tc c0 c1 c2 c3 c4 c5
          go_wp2
          go_loopw [4, 7] (fun u z wr => ∃ k : Nat, k ≤ 6 ∧ z = .int .i64 (k : Int) ∧ Wr8 w wr (.slice xa c.length cx) (.slice (some ⟨b, off, none⟩) l.length cy) u (Q ++ clTo (x0, x1, x2, x3, x4, x5) k) ∧ Nm wr (.slice (some ⟨nb, 0, none⟩) 6 nc) (x0, x1, x2, x3, x4, x5)) (fun _ z _ => 6 - (intOf z).toNat)
          case atStart => exact ⟨0, Nat.zero_le _, rfl, by simpa [clTo] using H9.out, HNm.out⟩
          case round =>
            obtain ⟨k, hk, rfl, h10, hm10⟩ := hrel
            clear H9 HNm
            by_cases hk6 : k < 6
            · obtain ⟨x, -, hx⟩ := six_get x0 x1 x2 x3 x4 x5 k hk6
              have hfx := (fitN_iff x).1 (List.all_eq_true.1 HFR.out x (List.mem_of_getElem? hx))
              obtain ⟨m, rfl⟩ := Int.eq_ofNat_of_zero_le hfx.1
              have HNm : Hid (Nm wr (.slice (some ⟨nb, 0, none⟩) 6 nc) (x0, x1, x2, x3, x4, x5)) := hm10
              obtain ⟨nb', nc', NC', e9, hA9, _, _, hc9⟩ := hm10
              simp only [Value.slice.injEq, Option.some.injEq, Addr.mk.injEq] at e9
              obtain ⟨⟨rfl, -⟩, -, rfl⟩ := e9
              have hck : wr.cell? ⟨nb, k, none⟩ = some (.int .i64 (m : Int)) := by rw [hA9.cell]; exact hc9 k _ hx
              have H10 : Hid (Wr8 w wr (.slice xa c.length cx) (.slice (some ⟨b, off, none⟩) l.length cy) u4 (Q ++ clTo (x0, x1, x2, x3, x4, x5) k)) := h10
              have HP : Hid (Calls Try.prog 23 #[.int .u64 (m : Int), .int .i64 2] wr fun e w' => ∃ v, e = .returned v ∧ Own w' wr.heap.size 5 v (leL m 2) ∧ Below wr.heap.size wr w') := refPut_any m 2 (by omega) (by omega) wr
              have hcl8 := clTo_length (x0, x1, x2, x3, x4, x5) k (by omega)
              have HQl : Hid ((Q ++ clTo (x0, x1, x2, x3, x4, x5) k).length ≤ 70120) := by show _ ≤ _; simp; omega
              have HS : Hid (Q ++ clTo (x0, x1, x2, x3, x4, x5) (k + 1) = Q ++ clTo (x0, x1, x2, x3, x4, x5) k ++ leL m 2) := by show _ = _; rw [clTo_succ _ _ _ hx, ← List.append_assoc]; rfl
              have hl2 := leL_length m 2
              clear h10 hA9 hc9 hx hcl8
              go_wp2_with fail
              refine Calls.mono HP.out ?_
              rintro e w11 ⟨v11, rfl, ho11, hb11⟩
              have H11 : Hid (Wr8 w w11 (.slice xa c.length cx) (.slice (some ⟨b, off, none⟩) l.length cy) u4 (Q ++ clTo (x0, x1, x2, x3, x4, x5) k)) := H10.out.later hb11
              have HV11 : Hid (Bs w11 v11 (leL m 2)) := ho11.bs
              have HNm11 : Hid (Nm w11 (.slice (some ⟨nb, 0, none⟩) 6 nc) (x0, x1, x2, x3, x4, x5)) := HNm.out.later hb11
              have hz11 := H11.out.size
              clear ho11 hb11 HP H10 HNm hck
              go_wp2_with (at_builtin; go_must (refine wpList_append_bs rfl _ _ _ rfl (w.heap.size + 1) 5 Try.underlying22 Try.infoU8 rfl rfl H11.out.row HV11.out (by have := HQl.out; omega) hz11 ?_))
              intro v12 w12 ho12 hg12
              have H12 : Hid (Wr8 w w12 (.slice xa c.length cx) (.slice (some ⟨b, off, none⟩) l.length cy) v12 (Q ++ clTo (x0, x1, x2, x3, x4, x5) (k + 1))) := H11.out.app hg12 (by rw [HS.out]; simpa using ho12)
              have HNm12 : Hid (Nm w12 (.slice (some ⟨nb, 0, none⟩) 6 nc) (x0, x1, x2, x3, x4, x5)) := HNm11.out.grown H11.out.row hg12
              clear ho12 hg12 H11 HNm11 HV11
              go_wp2
              go_roundw
              case rel => exact ⟨k + 1, by omega, by go_num, H12.out, HNm12.out⟩
              case measure => simp [intOf]; omega
            · have hk6' : k = 6 := by omega
              subst hk6'
              have H10 : Hid (Wr8 w wr (.slice xa c.length cx) (.slice (some ⟨b, off, none⟩) l.length cy) u4 (P7 ++ clsB (l.take (q + 1)))) := by
                show Wr8 _ _ _ _ _ _
                rw [HQ.out, ← clTo_all]; exact h10
              clear h10 hm10
              go_wp2
              go_roundw
              case rel => exact ⟨q + 1, by omega, by go_num, H10.out⟩
              case measure => simp [intOf]; omega
        · have hqn : q = l.length := by omega
          subst hqn
          rw [List.take_length] at h8
          have H8 : Hid (Bs wr u4 (P7 ++ clsB l)) := h8.row.bs
          have HB8 : Hid (Below w.heap.size w wr) := h8.bel
          clear h8
          go_wp2
          go_ret2
          exact ⟨_, rfl, by rw [HW.out]; exact H8.out, HB8.out⟩

set_option maxHeartbeats 1000000 in
set_option maxRecDepth 100000 in
theorem refWrite_plain {w : World} {xa ya : Option Addr} {c : List UInt8} {l : List Rw} {cx cy : Nat} (hc : Bs w (.slice xa c.length cx) c) (hl : Ws w (.slice ya l.length cy) l) (hr : rightB c l = true) (hsm : smallB c l = false) (hl0 : l.length = 0) :
    Calls Try.prog 12 #[.agg #[.slice xa c.length cx, .slice ya l.length cy]] w fun e w' => ∃ v, e = .returned (.tuple #[v, .int .i64 0]) ∧ Bs w' v (wrL c l) ∧ Below w.heap.size w w' := by
  have hcl := hc.len
  obtain ⟨⟨hr1, hr2⟩, hr3, hr4⟩ := (rightB_iff c l).1 hr
  have hmk : mkN8 l = 3 := by unfold mkN8; rw [if_pos hl0]
  have HW : Hid (wrL c l = [3, 0, 0, 0] ++ leL c.length 4 ++ c) := by
    show _ = _
    unfold wrL
    rw [if_neg (by rw [hsm]; decide), headW_eq, hmk]
    unfold tabW
    rw [if_pos hl0, List.append_nil]
    rfl
  have h64 : ¬ c.length < 64 := fun h => by rw [(smallB_iff c l).2 ⟨h, hl0⟩] at hsm; cases hsm
  have i64 : (64 : Int) ≤ (c.length : Int) := by omega
  have hb0 : Below w.heap.size w (w.alloc (.cells #[.slice xa c.length cx, .slice ya l.length cy] 25)) := (Below.refl _ _).alloc (Nat.le_refl _) _
  have hA0 : At (w.alloc (.cells #[.slice xa c.length cx, .slice ya l.length cy] 25)) w.heap.size #[.slice xa c.length cx, .slice ya l.length cy] 25 := At.made _ _ _
  have HR : Hid (Calls Try.prog 22 #[.agg #[.slice xa c.length cx, .slice ya l.length cy]] (w.alloc (.cells #[.slice xa c.length cx, .slice ya l.length cy] 25)) fun e w' => e = .returned (.bool true) ∧ Wr8 w w' (.slice xa c.length cx) (.slice ya l.length cy) (.slice none 0 0) []) := by
    refine (refRight_any hcl (hl.later hb0)).mono ?_
    rintro e w' ⟨rfl, h⟩
    refine ⟨?_, hA0.later h, Own.nil _ _ _, hb0.trans (h.mono (by simp)), by have := h.size; simp at this; omega⟩
    have : (lenB (c.length : Int) && decide (l.length ≤ 6) && l.all fitR) = true := hr
    rw [this]
  have HC : Hid (∀ W, Below w.heap.size w W → Bs W (.slice xa c.length cx) c) := fun W h => hc.later h
  have HCl : Hid (c.length ≤ 65535) := hr2
  clear hl hb0 hA0 hc hcl hr hsm hmk hr4 hr3
  rw [hl0] at HR ⊢
  clear hl0
  have HP4 : Hid (∀ W, Calls Try.prog 23 #[.int .u64 (c.length : Int), .int .i64 4] W fun e w' => ∃ v, e = .returned v ∧ Own w' W.heap.size 5 v (leL c.length 4) ∧ Below W.heap.size W w') := fun W => refPut_any c.length 4 (by omega) (by omega) W
  have hP4l := leL_length c.length 4
  go_enter Try.func12, Try.ntmps12
  go_wp2_with fail
  refine Calls.mono HR.out ?_
  rintro e w1 ⟨rfl, h1⟩
  have tc := h1.box.cell
  have H1 : Hid (Wr8 w w1 (.slice xa c.length cx) (.slice ya 0 cy) (.slice none 0 0) []) := h1
  have hz1 := h1.size
  clear HR h1
  have KB : Hid (∀ (W : World) (C : Array Value), Below W.heap.size W (W.alloc (.cells C 5))) := fun W C => (Below.refl _ _).alloc (Nat.le_refl _) _
  go_wp2_with (at_builtin; go_must (refine wpList_append_bs rfl _ _ _ rfl (w.heap.size + 1) 5 Try.underlying22 Try.infoU8 rfl rfl (Own.nil _ _ _) (bs_lit w1 [3, 0, 0, 0] _ _ _ rfl rfl (by simp [maxLen])) (by simp) (by simp; omega) ?_))
  intro v2 w2 ho2 hg2
  have H2 : Hid (Wr8 w w2 (.slice xa c.length cx) (.slice ya 0 cy) v2 [3, 0, 0, 0]) := Wr8.app (H1.out.later (KB.out _ _)) hg2 (by simpa using ho2)
  clear ho2 hg2 H1 tc
  have tc := H2.out.box.cell
  go_wp2_with fail
  refine Calls.mono (HP4.out _) ?_
  rintro e w3 ⟨v3, rfl, ho3, hb3⟩
  have H3 : Hid (Wr8 w w3 (.slice xa c.length cx) (.slice ya 0 cy) v2 [3, 0, 0, 0]) := H2.out.later hb3
  have HV3 : Hid (Bs w3 v3 (leL c.length 4)) := ho3.bs
  have hz3 := H3.out.size
  clear ho3 hb3 H2 tc
  go_wp2_with (at_builtin; go_must (refine wpList_append_bs rfl _ _ _ rfl (w.heap.size + 1) 5 Try.underlying22 Try.infoU8 rfl rfl H3.out.row HV3.out (by rw [hP4l]; simp) hz3 ?_))
  intro v4 w4 ho4 hg4
  have hl4 : ([3, 0, 0, 0] ++ leL c.length 4).length = 8 := by simp [hP4l]
  obtain ⟨P4, hP4⟩ : ∃ P, P = [3, 0, 0, 0] ++ leL c.length 4 := ⟨_, rfl⟩
  rw [← hP4] at hl4 HW
  have H4 : Hid (Wr8 w w4 (.slice xa c.length cx) (.slice ya 0 cy) v4 P4) := H3.out.app hg4 (by rw [hP4]; exact ho4)
  have tc := H4.out.box.cell
  have HV4 : Hid (Bs w4 (.slice xa c.length cx) c) := HC.out w4 H4.out.bel
  have hz4 := H4.out.size
  have hcl := HCl.out
  clear ho4 hg4 H3 hz3 HV3 hP4 HP4 hP4l
  go_wp2_with (at_builtin; go_must (refine wpList_append_bs rfl _ _ _ rfl (w.heap.size + 1) 5 Try.underlying22 Try.infoU8 rfl rfl H4.out.row HV4.out (by rw [hl4]; omega) hz4 ?_))
  intro v5 w5 ho5 hg5
  have H5 : Hid (Wr8 w w5 (.slice xa c.length cx) (.slice ya 0 cy) v5 (P4 ++ c)) := H4.out.app hg5 ho5
  have tc5 := H5.out.box.cell
  clear ho5 hg5 H4 hz4 HV4 hl4 tc
  go_wp2
  go_ret2
  exact ⟨_, rfl, by rw [HW.out]; exact H5.out.row.bs, H5.out.bel⟩

theorem refWrite_any {w : World} {cv lv : Value} {c : List UInt8} {l : List Rw} (hc : Bs w cv c) (hl : Ws w lv l) :
    Calls Try.prog 12 #[.agg #[cv, lv]] w fun e w' => ∃ v, e = .returned (.tuple #[v, .int .i64 (writeE c l)]) ∧ Bs w' v (writeL c l) ∧ Below w.heap.size w w' := by
  have hc' := hc
  obtain ⟨ya, cy, rfl, _, _⟩ := hl.shape
  obtain ⟨xa, cx, rfl, _, _, _⟩ := hc
  cases hr : rightB c l with
  | false =>
    have hE : writeE c l = 17 := by simp [writeE, hr]
    have hL : writeL c l = [] := by simp [writeL, hr]
    rw [hE, hL]
    refine (refWrite_no hc' hl hr).mono ?_
    rintro e w' ⟨rfl, h⟩
    exact ⟨_, rfl, Bs.nil _, h⟩
  | true =>
    have hE : writeE c l = 0 := by simp [writeE, hr]
    have hL : writeL c l = wrL c l := by simp [writeL, hr]
    rw [hE, hL]
    cases hsm : smallB c l with
    | true => exact refWrite_small hc' hl hr hsm
    | false =>
      by_cases hl0 : l.length = 0
      · exact refWrite_plain hc' hl hr hsm hl0
      · by_cases h64 : (c.length : Int) < 64
        · exact refWrite_lt hc' hl hr hsm (by omega) h64
        · exact refWrite_ge hc' hl hr hsm (by omega) (by omega)

end Go.Proofs.Ytfgjlljbpcombaa
