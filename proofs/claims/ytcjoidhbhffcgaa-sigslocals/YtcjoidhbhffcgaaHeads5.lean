
/- getHead, getCount; Get and GetField. -/
import Derived.Test.YtcjoidhbhffcgaaGets5
import Derived.Test.YtcjoidhbhffcgaaWakes
namespace Go.Proofs.Ytcjoidhbhffcgaa
set_option linter.unusedVariables false
set_option linter.unusedSimpArgs false
open Go.RowKit

def inB (xs : List UInt8) (c : Nat) : Bool := xs.any fun x => decide (x.toNat = c)
theorem in_iff (xs : List UInt8) (c : Nat) : inB xs c = true ↔ ∃ x ∈ xs, x.toNat = c := by simp [inB]

theorem contains5_any {v : Value} {xs : List UInt8} {w : World} (hv : Bs w v xs) (hm : xs.length ≤ 10) (c : Nat) (hc : c < 256) :
    Calls Try.prog 57 #[v, .int .u8 (c : Int)] w fun e w' => e = .returned (.bool (inB xs c)) ∧ w' = w := by
  have hi := in_iff xs c
  go_enter Try.func57, Try.ntmps57
  go_wp2_with fail
  refine (idx_any hv hm c hc).mono ?_
  rintro e wz ⟨⟨n, rfl, hn⟩, hz⟩
  subst wz
  have HI : Hid (decide (0 ≤ n) = inB xs c) := by show _ = _; rw [Bool.eq_iff_iff]; simp only [decide_eq_true_eq]; rw [hi]; exact hn
  clear hi hn
  go_wp2
  go_ret
  exact ⟨ret_bool HI.out, rfl⟩

/-- The first byte, one of the told ones; the error. -/
def hdE (xs bs : List UInt8) (a : Nat) : Nat := if a < bs.length then (if inB xs (byV bs a) = true then 0 else 2) else 1
def hdV (xs bs : List UInt8) (a : Nat) : Nat := if hdE xs bs a = 0 then byV bs a else 0

set_option maxHeartbeats 400000 in
theorem getHead_any {w : World} {rb : Nat} {bs : List UInt8} {a : Nat} (h : RdAt w rb bs a) {v : Value} {xs : List UInt8} (hv : Bs w v xs) (hm : xs.length ≤ 10) (hne : v.ownBlock ≠ some rb) :
    Calls Try.prog 36 #[.pointer (some ⟨rb, 0, none⟩), v] w fun e w' =>
      e = .returned (.tuple #[.int .u8 (hdV xs bs a : Int), .int .i64 (hdE xs bs a : Int)]) ∧ (hdE xs bs a = 0 → RdAt w' rb bs (a + 1)) ∧ Only rb w w' := by
  have HC : Hid (Calls Try.prog 56 #[.pointer (some ⟨rb, 0, none⟩), .int .i64 1] w fun e w' =>
      e = .returned (.tuple #[.int .u64 (byV bs a : Int), .int .i64 (byE bs a : Int)]) ∧ RdAt w' rb bs (a + (1 - byE bs a)) ∧ Only rb w w' ∧ Bs w' v xs) := by
    refine (num1_any h).mono ?_
    rintro e w' ⟨rfl, k1, k2⟩
    exact ⟨rfl, k1, k2, hv.only k2 fun _ => hne⟩
  clear h hv
  by_cases hl : a < bs.length
  · obtain ⟨v1, v2, v3⟩ := by_yes hl
    rw [v2] at HC
    by_cases hi : inB xs (byV bs a) = true
    · have HE : Hid (hdE xs bs a = 0 ∧ hdV xs bs a = byV bs a) := by
        have : hdE xs bs a = 0 := by simp [hdE, hl, hi]
        exact ⟨this, by simp [hdV, this]⟩
      clear v1 v2
      generalize byV bs a = c at *
      go_enter Try.func36, Try.ntmps36
      go_wp2_with fail
      refine Calls.mono HC.out ?_
      rintro e w1 ⟨rfl, k1, k2, k3⟩
      go_wp2_with (go_at_call 57; refine (contains5_any k3 hm c v3).mono ?_; rintro e wz ⟨rfl, hz⟩; subst wz)
      go_ret2
      exact ⟨by rw [HE.out.1, HE.out.2]; rfl, fun _ => k1, k2⟩
    · have hi' : inB xs (byV bs a) = false := by simpa using hi
      have HE : Hid (hdE xs bs a = 2 ∧ hdV xs bs a = 0) := by
        have : hdE xs bs a = 2 := by simp [hdE, hl, hi]
        exact ⟨this, by simp [hdV, this]⟩
      clear v1 v2 hi
      generalize byV bs a = c at *
      go_enter Try.func36, Try.ntmps36
      go_wp2_with fail
      refine Calls.mono HC.out ?_
      rintro e w1 ⟨rfl, k1, k2, k3⟩
      go_wp2_with (go_at_call 57; refine (contains5_any k3 hm c v3).mono ?_; rintro e wz ⟨rfl, hz⟩; subst wz)
      go_ret2
      exact ⟨by rw [HE.out.1, HE.out.2]; rfl, fun h => absurd h (by rw [HE.out.1]; decide), k2⟩
  · obtain ⟨v1, v2⟩ := by_no hl
    rw [v1, v2] at HC
    have HE : Hid (hdE xs bs a = 1 ∧ hdV xs bs a = 0) := by
      have : hdE xs bs a = 1 := by simp [hdE, hl]
      exact ⟨this, by simp [hdV, this]⟩
    clear v1 v2
    go_enter Try.func36, Try.ntmps36
    go_wp2_with fail
    refine Calls.mono HC.out ?_
    rintro e w1 ⟨rfl, k1, k2, k3⟩
    go_wp2
    go_ret2
    exact ⟨by rw [HE.out.1, HE.out.2]; rfl, fun h => absurd h (by rw [HE.out.1]; decide), k2⟩

/-- How many follow; the error. -/
def cntE (most : Nat) (u : Nat × Nat × Nat) : Nat := if u.2.2 ≠ 0 then u.2.2 else if most < u.1 then 4 else 0
def cntV (most : Nat) (u : Nat × Nat × Nat) : Nat := if cntE most u = 0 then u.1 else 0

theorem getCount_any {w : World} {rb : Nat} {bs : List UInt8} {a : Nat} (h : RdAt w rb bs a) (most : Nat) (hmost : most ≤ 100) :
    Calls Try.prog 38 #[.pointer (some ⟨rb, 0, none⟩), .int .i64 (most : Int)] w fun e w' =>
      e = .returned (.tuple #[.int .i64 (cntV most (unp bs a) : Int), .int .i64 (cntE most (unp bs a) : Int)]) ∧ RdAt w' rb bs (a + (unp bs a).2.1) ∧ Only rb w w' := by
  have HP : Hid (Calls Try.prog 59 #[.pointer (some ⟨rb, 0, none⟩)] w fun e w' => e = .returned (.tuple #[.int .i64 ((unp bs a).1 : Int), .int .i64 ((unp bs a).2.2 : Int)]) ∧ RdAt w' rb bs (a + (unp bs a).2.1) ∧ Only rb w w') := packed_any h
  clear h
  generalize unp bs a = u at *
  obtain ⟨n, ln, er⟩ := u
  simp only at *
  by_cases he : er = 0
  · subst he
    by_cases hn : most < n
    · have HE : Hid (cntE most (n, ln, 0) = 4 ∧ cntV most (n, ln, 0) = 0) := by show _ ∧ _; simp [cntE, cntV, hn]
      go_enter Try.func38, Try.ntmps38
      go_wp2_with fail
      refine Calls.mono HP.out ?_
      rintro e w1 ⟨rfl, g1, g2⟩
      go_wp2
      go_ret2
      exact ⟨by rw [HE.out.1, HE.out.2]; rfl, g1, g2⟩
    · have HE : Hid (cntE most (n, ln, 0) = 0 ∧ cntV most (n, ln, 0) = n) := by show _ ∧ _; simp [cntE, cntV, hn]
      go_enter Try.func38, Try.ntmps38
      go_wp2_with fail
      refine Calls.mono HP.out ?_
      rintro e w1 ⟨rfl, g1, g2⟩
      go_wp2
      go_ret2
      exact ⟨by rw [HE.out.1, HE.out.2]; rfl, g1, g2⟩
  · have HE : Hid (cntE most (n, ln, er) = er ∧ cntV most (n, ln, er) = 0) := by show _ ∧ _; simp [cntE, cntV, he]
    have he2 : ((er : Int) != 0) = true := by rw [bne_iff_ne]; omega
    clear he
    go_enter Try.func38, Try.ntmps38
    go_wp2_with fail
    refine Calls.mono HP.out ?_
    rintro e w1 ⟨rfl, g1, g2⟩
    go_wp2
    go_ret2
    exact ⟨by rw [HE.out.1, HE.out.2]; rfl, g1, g2⟩

/-- What a call that answers a type leaves. -/
def GotT (w w' : World) (g : Ty × Nat × Nat) (e : Ending) : Prop :=
  e = .returned (.tuple #[.agg #[.int .i64 g.1.1, .int .i64 g.1.2.1, .int .i64 g.1.2.2.1, .bool g.1.2.2.2], .int .i64 (g.2.2 : Int)]) ∧ Below w.heap.size w w'

set_option maxHeartbeats 400000 in
theorem get_any {w : World} {v : Value} {bs : List UInt8} (hv : Bs w v bs) (hn : bs.length ≤ 281474976710656) :
    Calls Try.prog 15 #[v] w fun e w' => GotT w w' (lastR 0 bs (getT bs 0)) e := by
  have hb0 : Below w.heap.size w (w.alloc (.cells #[.int .i64 0, .int .i64 0, .int .i64 0, .bool false] 23)) := (Below.refl _ _).alloc (Nat.le_refl _) _
  have hT0 := TyAt.made w 0 0 0 false
  have HC : Hid (Calls Try.prog 35 #[v] (w.alloc (.cells #[.int .i64 0, .int .i64 0, .int .i64 0, .bool false] 23)) fun e w' => e = .returned (.pointer (some ⟨w.heap.size + 1 + 1, 0, none⟩)) ∧ RdAt w' (w.heap.size + 1 + 1) bs 0 ∧ Below w.heap.size w w' ∧ TyAt w' w.heap.size 0 0 0 false) := by
    refine (new_any (hv.later hb0) hn).mono ?_
    rintro e w' ⟨rfl, k1, k2⟩
    refine ⟨by simp, by simpa using k1, hb0.trans (k2.mono (by simp)), hT0.later k2⟩
  clear hv hT0 hb0
  generalize hg : lastR 0 bs (getT bs 0) = g
  have HG : Hid (lastR 0 bs (getT bs 0) = g) := hg
  clear hg
  go_enter Try.func15, Try.ntmps15
  go_wp2_with fail
  refine Calls.mono HC.out ?_
  rintro e w1 ⟨rfl, k1, k2, k3⟩
  go_wp2_with fail
  refine (getLast_any rule_plain k1).mono ?_
  rintro e w2 hq
  rw [HG.out] at hq
  obtain ⟨rfl, q1, q2⟩ := hq
  have hT := k3.only q2 (by omega)
  have hB := k2.trans (q2.below (B := w.heap.size) (by omega) k2.size)
  obtain ⟨c0, c1, c2, c3⟩ := hT.cells
  have cf := hT.melt
  have HF := (hT.set4 g.1.1 g.1.2.1 g.1.2.2.1 g.1.2.2.2).cells
  have HB := below_set4 hB (Nat.le_refl _) (.int .i64 g.1.1) (.int .i64 g.1.2.1) (.int .i64 g.1.2.2.1) (.bool g.1.2.2.2)
  clear HC k1 k2 k3 q1 q2
  go_wp2
  exact bodyPost_ret (v := .tuple #[.agg #[.int .i64 g.1.1, .int .i64 g.1.2.1, .int .i64 g.1.2.2.1, .bool g.1.2.2.2], .int .i64 (g.2.2 : Int)]) (by simp [results, Try.results15, go_sem, HF]) rfl ⟨rfl, HB⟩

/-- A field's type of bytes. -/
def fieldR (bs : List UInt8) : Ty × Nat × Nat := if hdE [6] bs 0 ≠ 0 then badR (hdE [6] bs 0) else lastR 1 bs (getT bs 1)

set_option maxHeartbeats 1000000 in
theorem getField_any {w : World} {v : Value} {bs : List UInt8} (hv : Bs w v bs) (hn : bs.length ≤ 281474976710656) :
    Calls Try.prog 17 #[v] w fun e w' => GotT w w' (fieldR bs) e := by
  have hb0 : Below w.heap.size w (w.alloc (.cells #[.int .i64 0, .int .i64 0, .int .i64 0, .bool false] 23)) := (Below.refl _ _).alloc (Nat.le_refl _) _
  have hT0 := TyAt.made w 0 0 0 false
  have HC : Hid (Calls Try.prog 35 #[v] (w.alloc (.cells #[.int .i64 0, .int .i64 0, .int .i64 0, .bool false] 23)) fun e w' => e = .returned (.pointer (some ⟨w.heap.size + 1 + 1, 0, none⟩)) ∧ RdAt w' (w.heap.size + 1 + 1) bs 0 ∧ Below w.heap.size w w' ∧ TyAt w' w.heap.size 0 0 0 false) := by
    refine (new_any (hv.later hb0) hn).mono ?_
    rintro e w' ⟨rfl, k1, k2⟩
    refine ⟨by simp, by simpa using k1, hb0.trans (k2.mono (by simp)), hT0.later k2⟩
  clear hv hT0 hb0
  go_enter Try.func17, Try.ntmps17
  go_wp2_with fail
  refine Calls.mono HC.out ?_
  rintro e w1 ⟨rfl, k1, k2, k3⟩
  have hbl : Below w1.heap.size w1 (w1.alloc (.cells #[.int .u8 6] 5)) := (Below.refl _ _).alloc (Nat.le_refl _) _
  have hlit : Bs (w1.alloc (.cells #[.int .u8 6] 5)) (.slice (some ⟨w1.heap.size, 0, none⟩) 1 1) [6] := bs_lit w1 [6] _ _ _ rfl rfl (by decide)
  have hlt := k1.lt
  have HH : Hid (Calls Try.prog 36 #[.pointer (some ⟨w.heap.size + 1 + 1, 0, none⟩), .slice (some ⟨w1.heap.size, 0, none⟩) 1 1] (w1.alloc (.cells #[.int .u8 6] 5)) fun e w' =>
      e = .returned (.tuple #[.int .u8 (hdV [6] bs 0 : Int), .int .i64 (hdE [6] bs 0 : Int)]) ∧ (hdE [6] bs 0 = 0 → RdAt w' (w.heap.size + 1 + 1) bs 1) ∧ Below w.heap.size w w' ∧ TyAt w' w.heap.size 0 0 0 false) := by
    refine (getHead_any (k1.only hbl) hlit (by decide) (by simp [Value.ownBlock]; omega)).mono ?_
    rintro e w' ⟨rfl, q1, q2⟩
    refine ⟨rfl, q1, ?_, (k3.later hbl).only q2 (by omega)⟩
    exact (k2.trans (hbl.mono k2.size)).trans (q2.below (B := w.heap.size) (by omega) (by have := k2.size; simp; omega))
  clear HC k1 k2 k3 hbl hlit hlt
  go_wp2_with fail
  refine Calls.mono HH.out ?_
  rintro e w2 ⟨rfl, k1, k2, k3⟩
  generalize hdV [6] bs 0 = hv at *
  by_cases he : hdE [6] bs 0 = 0
  · have HG : Hid (fieldR bs = lastR 1 bs (getT bs 1)) := by show _ = _; unfold fieldR; rw [if_neg (by simpa using he)]
    have hR := k1 he
    rw [he]
    clear k1 HH he
    obtain ⟨g, hg⟩ : ∃ g, g = lastR 1 bs (getT bs 1) := ⟨_, rfl⟩
    have HG2 : Hid (lastR 1 bs (getT bs 1) = g) := hg.symm
    have HG3 : Hid (fieldR bs = g) := HG.out.trans hg.symm
    clear hg HG
    go_wp2_with fail
    refine (getLast_any rule_field hR).mono ?_
    rintro e w3 hq
    rw [HG2.out] at hq
    obtain ⟨rfl, q1, q2⟩ := hq
    have hT := k3.only q2 (by omega)
    have hB := k2.trans (q2.below (B := w.heap.size) (by omega) k2.size)
    obtain ⟨c0, c1, c2, c3⟩ := hT.cells
    have cf := hT.melt
    have HF := (hT.set4 g.1.1 g.1.2.1 g.1.2.2.1 g.1.2.2.2).cells
    have HB := below_set4 hB (Nat.le_refl _) (.int .i64 g.1.1) (.int .i64 g.1.2.1) (.int .i64 g.1.2.2.1) (.bool g.1.2.2.2)
    clear k2 k3 q1 q2 hR
    go_wp2
    exact bodyPost_ret (v := .tuple #[.agg #[.int .i64 g.1.1, .int .i64 g.1.2.1, .int .i64 g.1.2.2.1, .bool g.1.2.2.2], .int .i64 (g.2.2 : Int)]) (by simp [results, Try.results17, go_sem, HF]) rfl (by rw [HG3.out]; exact ⟨rfl, HB⟩)
  · have HG : Hid (fieldR bs = badR (hdE [6] bs 0)) := by show _ = _; unfold fieldR; rw [if_pos he]
    have he2 : ((hdE [6] bs 0 : Int) != 0) = true := by rw [bne_iff_ne]; omega
    generalize hdE [6] bs 0 = er at *
    obtain ⟨c0, c1, c2, c3⟩ := k3.cells
    have cf := k3.melt
    have HF := (k3.set4 0 0 0 false).cells
    have HB := below_set4 k2 (Nat.le_refl _) (.int .i64 0) (.int .i64 0) (.int .i64 0) (.bool false)
    clear k1 HH he
    go_wp2
    exact bodyPost_ret (v := .tuple #[.agg #[.int .i64 0, .int .i64 0, .int .i64 0, .bool false], .int .i64 (er : Int)]) (by simp [results, Try.results17, go_sem, HF]) rfl (by rw [HG.out]; exact ⟨rfl, HB⟩)

end Go.Proofs.Ytcjoidhbhffcgaa
