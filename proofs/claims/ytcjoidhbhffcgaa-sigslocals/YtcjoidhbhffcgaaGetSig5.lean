
/- GetLocals and GetSig. -/
import Derived.Test.YtcjoidhbhffcgaaLastTypes5
namespace Go.Proofs.Ytcjoidhbhffcgaa
set_option linter.unusedVariables false
set_option linter.unusedSimpArgs false
open Go.RowKit

/-- The locals of bytes; the error. -/
def locR (bs : List UInt8) : List Ty × Nat := if hdE [7] bs 0 ≠ 0 then ([], hdE [7] bs 0) else if cntE 12 (unp bs 1) ≠ 0 then ([], cntE 12 (unp bs 1)) else lastTs bs (getTs bs (cntV 12 (unp bs 1)) (1 + (unp bs 1).2.1))

/-- What a call that answers a list of types leaves. -/
def GotLs (w w' : World) (ts : List Ty) (er : Nat) (e : Ending) : Prop :=
  ∃ v, e = .returned (.tuple #[v, .int .i64 (er : Int)]) ∧ Ts w' v ts ∧ (∀ k, v.ownBlock = some k → w.heap.size ≤ k) ∧ Below w.heap.size w w'

theorem cnt_le (most : Nat) (u : Nat × Nat × Nat) : cntV most u ≤ most := by
  unfold cntV cntE
  repeat' split
  all_goals omega

set_option maxHeartbeats 1000000 in
set_option maxRecDepth 100000 in
theorem getLocals_any {w : World} {v : Value} {bs : List UInt8} (hv : Bs w v bs) (hn : bs.length ≤ 281474976710656) :
    Calls Try.prog 23 #[v] w fun e w' => GotLs w w' (locR bs).1 (locR bs).2 e := by
  have HC : Hid (Calls Try.prog 35 #[v] w fun e w' => e = .returned (.pointer (some ⟨w.heap.size + 1, 0, none⟩)) ∧ RdAt w' (w.heap.size + 1) bs 0 ∧ Below w.heap.size w w') := new_any hv hn
  clear hv
  have hL : ∀ x, x = locR bs → Hid (locR bs = x) := fun x h => h.symm
  go_enter Try.func23, Try.ntmps23
  go_wp2_with fail
  refine Calls.mono HC.out ?_
  rintro e w1 ⟨rfl, k1, k2⟩
  have hbl : Below w1.heap.size w1 (w1.alloc (.cells #[.int .u8 7] 5)) := (Below.refl _ _).alloc (Nat.le_refl _) _
  have hlit : Bs (w1.alloc (.cells #[.int .u8 7] 5)) (.slice (some ⟨w1.heap.size, 0, none⟩) 1 1) [7] := bs_lit w1 [7] _ _ _ rfl rfl (by decide)
  have hlt := k1.lt
  have HH : Hid (Calls Try.prog 36 #[.pointer (some ⟨w.heap.size + 1, 0, none⟩), .slice (some ⟨w1.heap.size, 0, none⟩) 1 1] (w1.alloc (.cells #[.int .u8 7] 5)) fun e w' =>
      e = .returned (.tuple #[.int .u8 (hdV [7] bs 0 : Int), .int .i64 (hdE [7] bs 0 : Int)]) ∧ (hdE [7] bs 0 = 0 → RdAt w' (w.heap.size + 1) bs 1) ∧ Below w.heap.size w w') := by
    refine (getHead_any (k1.only hbl) hlit (by decide) (by simp [Value.ownBlock]; omega)).mono ?_
    rintro e w' ⟨rfl, q1, q2⟩
    refine ⟨rfl, q1, ?_⟩
    exact (k2.trans (hbl.mono k2.size)).trans (q2.below (B := w.heap.size) (by omega) (by have := k2.size; simp; omega))
  clear HC k1 k2 hbl hlit hlt
  go_wp2_with fail
  refine Calls.mono HH.out ?_
  rintro e w2 ⟨rfl, k1, k2⟩
  clear HH
  by_cases he : hdE [7] bs 0 = 0
  · have hR := k1 he
    rw [he]
    have HCt : Hid (Calls Try.prog 38 #[.pointer (some ⟨w.heap.size + 1, 0, none⟩), .int .i64 12] w2 fun e w' =>
        e = .returned (.tuple #[.int .i64 (cntV 12 (unp bs 1) : Int), .int .i64 (cntE 12 (unp bs 1) : Int)]) ∧ RdAt w' (w.heap.size + 1) bs (1 + (unp bs 1).2.1) ∧ Below w.heap.size w w') := by
      refine Calls.mono (getCount_any hR 12 (by omega)) ?_
      rintro e w' ⟨rfl, q1, q2⟩
      exact ⟨rfl, q1, k2.trans (q2.below (B := w.heap.size) (by omega) k2.size)⟩
    clear k1 k2 hR
    go_wp2_with fail
    refine Calls.mono HCt.out ?_
    rintro e w3 ⟨rfl, k1, k2⟩
    clear HCt
    have hcl := cnt_le 12 (unp bs 1)
    by_cases hc : cntE 12 (unp bs 1) = 0
    · have HL : Hid (locR bs = lastTs bs (getTs bs (cntV 12 (unp bs 1)) (1 + (unp bs 1).2.1))) := by show _ = _; unfold locR; rw [if_neg (by simpa using he), if_neg (by simpa using hc)]
      rw [hc]
      have HLs : Hid (Calls Try.prog 41 #[.pointer (some ⟨w.heap.size + 1, 0, none⟩), .int .i64 (cntV 12 (unp bs 1) : Int), .func (.func 42) #[] #[]] w3 fun e w' => GotLs w w' (lastTs bs (getTs bs (cntV 12 (unp bs 1)) (1 + (unp bs 1).2.1))).1 (lastTs bs (getTs bs (cntV 12 (unp bs 1)) (1 + (unp bs 1).2.1))).2 e) := by
        refine Calls.mono (getLastTypes_any k1 (cntV 12 (unp bs 1)) (by omega)) ?_
        rintro e w' ⟨v', rfl, q1, q2, q3⟩
        exact ⟨v', rfl, q1, fun k hk => Nat.le_trans k2.size (q2 k hk), k2.trans (q3.below (B := w.heap.size) (by omega) k2.size)⟩
      rw [← HL.out] at HLs
      clear HL k1 hc he
      generalize cntV 12 (unp bs 1) = n at *
      go_wp2_with fail
      refine Calls.mono HLs.out ?_
      rintro e w4 ⟨v4, rfl, q1, q2, q3⟩
      go_wp2
      go_ret2
      exact ⟨_, rfl, q1, q2, q3⟩
    · have HL : Hid (locR bs = ([], cntE 12 (unp bs 1))) := by show _ = _; unfold locR; rw [if_neg (by simpa using he), if_pos hc]
      have hc2 : ((cntE 12 (unp bs 1) : Int) != 0) = true := by rw [bne_iff_ne]; omega
      clear hc he k1
      generalize cntE 12 (unp bs 1) = er at *
      generalize cntV 12 (unp bs 1) = n at *
      go_wp2
      go_ret2
      exact ⟨.slice none 0 0, by rw [HL.out]; rfl, by rw [HL.out]; exact Ts.nil _, fun k hk => by simp [Value.ownBlock] at hk, k2⟩
  · have HL : Hid (locR bs = ([], hdE [7] bs 0)) := by show _ = _; unfold locR; rw [if_pos he]
    have he2 : ((hdE [7] bs 0 : Int) != 0) = true := by rw [bne_iff_ne]; omega
    clear he k1
    generalize hdE [7] bs 0 = er at *
    generalize hdV [7] bs 0 = hv at *
    go_wp2
    go_ret2
    exact ⟨.slice none 0 0, by rw [HL.out]; rfl, by rw [HL.out]; exact Ts.nil _, fun k hk => by simp [Value.ownBlock] at hk, k2⟩

/-- A signature of bytes; the error. -/
def noS : Bool × List Ty × Ty := (false, [], (0, 0, 0, false))
def sgX (bs : List UInt8) (c : Nat) (g : Ty × Nat × Nat) (n : Nat) : (Bool × List Ty × Ty) × Nat :=
  if g.2.2 ≠ 0 then (noS, g.2.2) else if (lastTs bs (getTs bs n g.2.1)).2 ≠ 0 then (noS, (lastTs bs (getTs bs n g.2.1)).2) else ((c == 32, (lastTs bs (getTs bs n g.2.1)).1, g.1), 0)
def sgR (bs : List UInt8) : (Bool × List Ty × Ty) × Nat := if hdE [0, 32] bs 0 ≠ 0 then (noS, hdE [0, 32] bs 0) else if cntE 6 (unp bs 1) ≠ 0 then (noS, cntE 6 (unp bs 1)) else
  sgX bs (byV bs 0) (allowR 3 (getT bs (1 + (unp bs 1).2.1))) (cntV 6 (unp bs 1))

/-- What a call that answers a signature leaves. -/
def GotS (w w' : World) (s : Bool × List Ty × Ty) (er : Nat) (e : Ending) : Prop :=
  ∃ pv, e = .returned (.tuple #[.agg #[.bool s.1, pv, .int .i64 s.2.2.1, .int .i64 s.2.2.2.1, .int .i64 s.2.2.2.2.1, .bool s.2.2.2.2.2], .int .i64 (er : Int)]) ∧ Ts w' pv s.2.1 ∧ (∀ k, pv.ownBlock = some k → w.heap.size ≤ k) ∧ Below w.heap.size w w'

set_option maxHeartbeats 4000000 in
set_option maxRecDepth 100000 in
theorem getSig_any {w : World} {v : Value} {bs : List UInt8} (hv : Bs w v bs) (hn : bs.length ≤ 281474976710656) :
    Calls Try.prog 20 #[v] w fun e w' => GotS w w' (sgR bs).1 (sgR bs).2 e := by
  have hb0 : Below w.heap.size w (w.alloc (.cells #[.bool false, .slice none 0 0, .int .i64 0, .int .i64 0, .int .i64 0, .bool false] 39)) := (Below.refl _ _).alloc (Nat.le_refl _) _
  have hS0 := At.made w #[.bool false, .slice none 0 0, .int .i64 0, .int .i64 0, .int .i64 0, .bool false] 39
  have HC : Hid (Calls Try.prog 35 #[v] (w.alloc (.cells #[.bool false, .slice none 0 0, .int .i64 0, .int .i64 0, .int .i64 0, .bool false] 39)) fun e w' => e = .returned (.pointer (some ⟨w.heap.size + 1 + 1, 0, none⟩)) ∧ RdAt w' (w.heap.size + 1 + 1) bs 0 ∧ Below w.heap.size w w' ∧ At w' w.heap.size #[.bool false, .slice none 0 0, .int .i64 0, .int .i64 0, .int .i64 0, .bool false] 39) := by
    refine (new_any (hv.later hb0) hn).mono ?_
    rintro e w' ⟨rfl, k1, k2⟩
    refine ⟨by simp, by simpa using k1, hb0.trans (k2.mono (by simp)), hS0.later k2⟩
  clear hv hS0 hb0
  have hbad : ∀ (W : World) (er : Nat), At W w.heap.size #[.bool false, .slice none 0 0, .int .i64 0, .int .i64 0, .int .i64 0, .bool false] 39 → Below w.heap.size w W →
      Hid (At ((((((W.setCell ⟨w.heap.size, 0, none⟩ (.bool false)).setCell ⟨w.heap.size, 1, none⟩ (.slice none 0 0)).setCell ⟨w.heap.size, 2, none⟩ (.int .i64 0)).setCell ⟨w.heap.size, 3, none⟩ (.int .i64 0)).setCell ⟨w.heap.size, 4, none⟩ (.int .i64 0)).setCell ⟨w.heap.size, 5, none⟩ (.bool false)) w.heap.size #[.bool false, .slice none 0 0, .int .i64 0, .int .i64 0, .int .i64 0, .bool false] 39 ∧
        GotS w ((((((W.setCell ⟨w.heap.size, 0, none⟩ (.bool false)).setCell ⟨w.heap.size, 1, none⟩ (.slice none 0 0)).setCell ⟨w.heap.size, 2, none⟩ (.int .i64 0)).setCell ⟨w.heap.size, 3, none⟩ (.int .i64 0)).setCell ⟨w.heap.size, 4, none⟩ (.int .i64 0)).setCell ⟨w.heap.size, 5, none⟩ (.bool false)) noS er (.returned (.tuple #[.agg #[.bool false, .slice none 0 0, .int .i64 0, .int .i64 0, .int .i64 0, .bool false], .int .i64 (er : Int)]))) := fun W er h1 h2 =>
    ⟨h1.set6 _ _ _ _ _ _, .slice none 0 0, rfl, Ts.nil _, fun k hk => by simp [Value.ownBlock] at hk, below_set6 h2 (Nat.le_refl _) _ _ _ _ _ _⟩
  go_enter Try.func20, Try.ntmps20
  go_wp2_with fail
  refine Calls.mono HC.out ?_
  rintro e w1 ⟨rfl, k1, k2, k3⟩
  have hbl : Below w1.heap.size w1 (w1.alloc (.cells #[.int .u8 0, .int .u8 32] 5)) := (Below.refl _ _).alloc (Nat.le_refl _) _
  have hlit : Bs (w1.alloc (.cells #[.int .u8 0, .int .u8 32] 5)) (.slice (some ⟨w1.heap.size, 0, none⟩) 2 2) [0, 32] := bs_lit w1 [0, 32] _ _ _ rfl rfl (by decide)
  have hlt := k1.lt
  have HH : Hid (Calls Try.prog 36 #[.pointer (some ⟨w.heap.size + 1 + 1, 0, none⟩), .slice (some ⟨w1.heap.size, 0, none⟩) 2 2] (w1.alloc (.cells #[.int .u8 0, .int .u8 32] 5)) fun e w' =>
      e = .returned (.tuple #[.int .u8 (hdV [0, 32] bs 0 : Int), .int .i64 (hdE [0, 32] bs 0 : Int)]) ∧ (hdE [0, 32] bs 0 = 0 → RdAt w' (w.heap.size + 1 + 1) bs 1) ∧ Below w.heap.size w w' ∧ At w' w.heap.size #[.bool false, .slice none 0 0, .int .i64 0, .int .i64 0, .int .i64 0, .bool false] 39) := by
    refine (getHead_any (k1.only hbl) hlit (by decide) (by simp [Value.ownBlock]; omega)).mono ?_
    rintro e w' ⟨rfl, q1, q2⟩
    refine ⟨rfl, q1, ?_, (k3.later hbl).only q2 (by omega)⟩
    exact (k2.trans (hbl.mono k2.size)).trans (q2.below (B := w.heap.size) (by omega) (by have := k2.size; simp; omega))
  clear HC k1 k2 k3 hbl hlit hlt
  go_wp2_with fail
  refine Calls.mono HH.out ?_
  rintro e w2 ⟨rfl, k1, k2, k3⟩
  clear HH
  by_cases he : hdE [0, 32] bs 0 = 0
  · have hR := k1 he
    have hV : hdV [0, 32] bs 0 = byV bs 0 := by unfold hdV; rw [if_pos he]
    rw [he, hV]
    clear hV
    have HCt : Hid (Calls Try.prog 38 #[.pointer (some ⟨w.heap.size + 1 + 1, 0, none⟩), .int .i64 6] w2 fun e w' =>
        e = .returned (.tuple #[.int .i64 (cntV 6 (unp bs 1) : Int), .int .i64 (cntE 6 (unp bs 1) : Int)]) ∧ RdAt w' (w.heap.size + 1 + 1) bs (1 + (unp bs 1).2.1) ∧ Below w.heap.size w w' ∧ At w' w.heap.size #[.bool false, .slice none 0 0, .int .i64 0, .int .i64 0, .int .i64 0, .bool false] 39) := by
      refine Calls.mono (getCount_any hR 6 (by omega)) ?_
      rintro e w' ⟨rfl, q1, q2⟩
      exact ⟨rfl, q1, k2.trans (q2.below (B := w.heap.size) (by omega) k2.size), k3.only q2 (by omega)⟩
    clear k1 k2 k3 hR
    go_wp2_with fail
    refine Calls.mono HCt.out ?_
    rintro e w3 ⟨rfl, k1, k2, k3⟩
    clear HCt
    have hcl := cnt_le 6 (unp bs 1)
    by_cases hc : cntE 6 (unp bs 1) = 0
    · have HL : Hid (sgR bs = sgX bs (byV bs 0) (allowR 3 (getT bs (1 + (unp bs 1).2.1))) (cntV 6 (unp bs 1))) := by show _ = _; unfold sgR; rw [if_neg (by simpa using he), if_neg (by simpa using hc)]
      rw [hc]
      have HGt : Hid (Calls Try.prog 39 #[.pointer (some ⟨w.heap.size + 1 + 1, 0, none⟩), .func (.func 40) #[] #[]] w3 fun e w' => GotR w3 w' (w.heap.size + 1 + 1) bs (allowR 3 (getT bs (1 + (unp bs 1).2.1))) e ∧ Below w.heap.size w w' ∧ At w' w.heap.size #[.bool false, .slice none 0 0, .int .i64 0, .int .i64 0, .int .i64 0, .bool false] 39) := by
        refine Calls.mono (getType_any rule_answer k1) ?_
        rintro e w' ⟨q0, q1, q2⟩
        exact ⟨⟨q0, q1, q2⟩, k2.trans (q2.below (B := w.heap.size) (by omega) k2.size), k3.only q2 (by omega)⟩
      clear k1 k2 k3 hc he
      have hbv : byV bs 0 < 256 := by unfold byV; split <;> first | exact UInt8.toNat_lt _ | omega
      generalize allowR 3 (getT bs (1 + (unp bs 1).2.1)) = g at *
      generalize cntV 6 (unp bs 1) = n at *
      generalize byV bs 0 = c at *
      obtain ⟨⟨k, i, d, r⟩, at_, er⟩ := g
      go_wp2_with fail
      refine Calls.mono HGt.out ?_
      rintro e w4 ⟨⟨rfl, q1, q2⟩, k2, k3⟩
      simp only at q1 ⊢
      clear HGt q2
      have hX := At.made w4 #[.int .i64 k, .int .i64 i, .int .i64 d, .bool r] 23
      have hbx : Below w4.heap.size w4 (w4.alloc (.cells #[.int .i64 k, .int .i64 i, .int .i64 d, .bool r] 23)) := (Below.refl _ _).alloc (Nat.le_refl _) _
      have hS := k3.later hbx
      have hB := k2.trans (hbx.mono k2.size)
      have HR : Hid (er = 0 → RdAt (w4.alloc (.cells #[.int .i64 k, .int .i64 i, .int .i64 d, .bool r] 23)) (w.heap.size + 1 + 1) bs at_) := fun h => (q1 h).only hbx
      have HLt : Hid (w.heap.size < w4.heap.size) := k3.lt
      clear q1 k2 k3 hbx
      have sc := hS.cell
      have sm := hS.melt
      by_cases hg : er = 0
      · subst hg
        have hR := HR.out rfl
        have HLs : Hid (Calls Try.prog 41 #[.pointer (some ⟨w.heap.size + 1 + 1, 0, none⟩), .int .i64 (n : Int), .func (.func 42) #[] #[]] (w4.alloc (.cells #[.int .i64 k, .int .i64 i, .int .i64 d, .bool r] 23)) fun e w' => ∃ v, e = .returned (.tuple #[v, .int .i64 ((lastTs bs (getTs bs n at_)).2 : Int)]) ∧ Ts w' v (lastTs bs (getTs bs n at_)).1 ∧ (∀ k, v.ownBlock = some k → w.heap.size < k) ∧ Below w.heap.size w w' ∧ At w' w.heap.size #[.bool false, .slice none 0 0, .int .i64 0, .int .i64 0, .int .i64 0, .bool false] 39 ∧ At w' w4.heap.size #[.int .i64 k, .int .i64 i, .int .i64 d, .bool r] 23) := by
          have hrl := hR.lt
          have hl4 := HLt.out
          refine Calls.mono (getLastTypes_any hR n (by omega)) ?_
          rintro e w' ⟨v', rfl, q1, q2, q3⟩
          refine ⟨v', rfl, q1, fun k hk => ?_, hB.trans (q3.below (B := w.heap.size) (by omega) hB.size), hS.only q3 (by omega), hX.only q3 ?_⟩
          · have := q2 k hk; simp at this; omega
          · have h9 : w.heap.size + 1 + 1 ≠ w4.heap.size := by
              intro h9
              obtain ⟨_, _, sv, hh, _, _⟩ := hR
              have hx := hX
              unfold At at hx
              rw [← h9, hh] at hx
              simp at hx
            omega
        have HL2 : Hid (sgR bs = if (lastTs bs (getTs bs n at_)).2 ≠ 0 then (noS, (lastTs bs (getTs bs n at_)).2) else ((c == 32, (lastTs bs (getTs bs n at_)).1, (k, i, d, r)), 0)) := by show _ = _; rw [HL.out]; simp [sgX]
        clear HR HL hR hX hS hB sc sm
        generalize lastTs bs (getTs bs n at_) = x at *
        obtain ⟨ts, er⟩ := x
        simp only at HL2 HLs
        go_wp2_with fail
        refine Calls.mono HLs.out ?_
        rintro e w5 ⟨v5, rfl, hts, hown, hB, hS, hX⟩
        clear HLs
        have sc := hS.cell
        have sm := hS.melt
        have xc := hX.cell
        by_cases hx : er = 0
        · subst hx
          have HL3 : Hid (sgR bs = ((c == 32, ts, (k, i, d, r)), 0)) := by show _ = _; rw [HL2.out, if_neg (by simp)]
          have e32 : ((c : Int) == 32) = (c == 32) := by rw [Bool.eq_iff_iff]; simp only [beq_iff_eq]; omega
          have HF := (hS.set6 (.bool (c == 32)) v5 (.int .i64 k) (.int .i64 i) (.int .i64 d) (.bool r)).cell
          have HB := below_set6 hB (Nat.le_refl _) (.bool (c == 32)) v5 (.int .i64 k) (.int .i64 i) (.int .i64 d) (.bool r)
          have HTs : Hid (Ts ((((((w5.setCell ⟨w.heap.size, 0, none⟩ (.bool (c == 32))).setCell ⟨w.heap.size, 1, none⟩ v5).setCell ⟨w.heap.size, 2, none⟩ (.int .i64 k)).setCell ⟨w.heap.size, 3, none⟩ (.int .i64 i)).setCell ⟨w.heap.size, 4, none⟩ (.int .i64 d)).setCell ⟨w.heap.size, 5, none⟩ (.bool r)) v5 ts) := by
            refine hts.of_block (below_set6 (Below.refl 0 w5) (Nat.zero_le _) _ _ _ _ _ _).size fun k hk hlt => ?_
            have hne : k ≠ w.heap.size := by have := hown k hk; omega
            rw [Below.heap_setCell _ _ _ _ hne, Below.heap_setCell _ _ _ _ hne, Below.heap_setCell _ _ _ _ hne, Below.heap_setCell _ _ _ _ hne, Below.heap_setCell _ _ _ _ hne, Below.heap_setCell _ _ _ _ hne]
          have HOw : Hid (∀ k, v5.ownBlock = some k → w.heap.size ≤ k) := fun k hk => by have := hown k hk; omega
          obtain ⟨a5, c5, rfl, _, _, _⟩ := id hts
          clear hS hX hB hts hown HL2 hbad
          go_wp2
          exact bodyPost_ret (v := .tuple #[.agg #[.bool (c == 32), .slice a5 ts.length c5, .int .i64 k, .int .i64 i, .int .i64 d, .bool r], .int .i64 0]) (by simp [results, Try.results20, go_sem, HF]) rfl (by rw [HL3.out]; exact ⟨_, rfl, HTs.out, HOw.out, HB⟩)
        · have HL3 : Hid (sgR bs = (noS, er)) := by show _ = _; rw [HL2.out, if_pos hx]
          have hx2 : ((er : Int) != 0) = true := by rw [bne_iff_ne]; omega
          have HBd := hbad w5 er hS hB
          have HF := HBd.out.1.cell
          clear hS hX hB hts hown HL2 hbad hx
          go_wp2
          exact bodyPost_ret (v := .tuple #[.agg #[.bool false, .slice none 0 0, .int .i64 0, .int .i64 0, .int .i64 0, .bool false], .int .i64 (er : Int)]) (by simp [results, Try.results20, go_sem, HF]) rfl (by rw [HL3.out]; exact HBd.out.2)
      · have HL3 : Hid (sgR bs = (noS, er)) := by show _ = _; rw [HL.out]; simp [sgX, hg]
        have hg2 : ((er : Int) != 0) = true := by rw [bne_iff_ne]; omega
        have HBd := hbad _ er hS hB
        have HF := HBd.out.1.cell
        clear hS hX hB HL HR hbad hg
        go_wp2
        exact bodyPost_ret (v := .tuple #[.agg #[.bool false, .slice none 0 0, .int .i64 0, .int .i64 0, .int .i64 0, .bool false], .int .i64 (er : Int)]) (by simp [results, Try.results20, go_sem, HF]) rfl (by rw [HL3.out]; exact HBd.out.2)
    · have HL : Hid (sgR bs = (noS, cntE 6 (unp bs 1))) := by show _ = _; unfold sgR; rw [if_neg (by simpa using he), if_pos hc]
      have hc2 : ((cntE 6 (unp bs 1) : Int) != 0) = true := by rw [bne_iff_ne]; omega
      clear hc he k1
      generalize cntE 6 (unp bs 1) = er at *
      generalize cntV 6 (unp bs 1) = n at *
      have HBd := hbad w3 er k3 k2
      have HF := HBd.out.1.cell
      have sc := k3.cell
      have sm := k3.melt
      clear hbad k2 k3
      go_wp2
      exact bodyPost_ret (v := .tuple #[.agg #[.bool false, .slice none 0 0, .int .i64 0, .int .i64 0, .int .i64 0, .bool false], .int .i64 (er : Int)]) (by simp [results, Try.results20, go_sem, HF]) rfl (by rw [HL.out]; exact HBd.out.2)
  · have HL : Hid (sgR bs = (noS, hdE [0, 32] bs 0)) := by show _ = _; unfold sgR; rw [if_pos he]
    have he2 : ((hdE [0, 32] bs 0 : Int) != 0) = true := by rw [bne_iff_ne]; omega
    clear he k1
    generalize hdE [0, 32] bs 0 = er at *
    generalize hdV [0, 32] bs 0 = hv at *
    have HBd := hbad w2 er k3 k2
    have HF := HBd.out.1.cell
    have sc := k3.cell
    have sm := k3.melt
    clear hbad k2 k3
    go_wp2
    exact bodyPost_ret (v := .tuple #[.agg #[.bool false, .slice none 0 0, .int .i64 0, .int .i64 0, .int .i64 0, .bool false], .int .i64 (er : Int)]) (by simp [results, Try.results20, go_sem, HF]) rfl (by rw [HL.out]; exact HBd.out.2)

end Go.Proofs.Ytcjoidhbhffcgaa
