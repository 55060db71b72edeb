
/- Packed of the reader: a packed number, or why there is none. -/
import Derived.Test.YtcjoidhbhffcgaaRows
import Derived.Test.YtcjoidhbhffcgaaNum
namespace Go.Proofs.Ytcjoidhbhffcgaa
set_option linter.unusedVariables false
set_option linter.unusedSimpArgs false
open Go.RowKit

/-- Bytes behind a number, the highest first. -/
def beA (x : Nat) (l : List UInt8) : Nat := l.foldl (fun y b => 256 * y + b.toNat) x
theorem beA_snoc (x : Nat) (l : List UInt8) (b : UInt8) : beA x (l ++ [b]) = 256 * beA x l + b.toNat := by simp [beA]
theorem beA_lt (l : List UInt8) : ∀ (x m : Nat), x < 256 ^ m → beA x l < 256 ^ (m + l.length) := by
  induction l with
  | nil => intro x m h; simpa [beA] using h
  | cons b r ih =>
    intro x m h
    have hb := b.toNat_lt
    have := ih (256 * x + b.toNat) (m + 1) (by rw [Nat.pow_succ]; omega)
    rw [show m + (b :: r).length = m + 1 + r.length by simp; omega]
    exact this

set_option maxRecDepth 100000 in
set_option maxHeartbeats 1000000 in
theorem packed_go {w : World} {rb : Nat} {bs : List UInt8} {at_ : Nat} (h : RdAt w rb bs at_) (s mk : Nat) (hlt : at_ < bs.length) (hw : wantI (bs[at_].toNat : Int) = (s : Int)) (hm : markI (s : Int) = (mk : Int))
    (hs1 : 1 ≤ s) (hs4 : s ≤ 4) (hmk : mk ≤ bs[at_].toNat) (hn : at_ + s ≤ bs.length) (v : Nat) (hv : v = beA (bs[at_].toNat - mk) (seg bs (at_ + 1) (s - 1))) :
    Calls Try.prog 59 #[.pointer (some ⟨rb, 0, none⟩)] w fun e w' => (sizeI (v : Int) = (s : Int) → e = .returned (.tuple #[.int .i64 (v : Int), .int .i64 0]) ∧ RdAt w' rb bs (at_ + s)) ∧
      (sizeI (v : Int) ≠ (s : Int) → e = .returned (.tuple #[.int .i64 0, .int .i64 2]) ∧ RdAt w' rb bs at_) ∧ Only rb w w' := by
  obtain ⟨a, cap, c0, c1, f1, l1, l2, hb⟩ := h.cells
  have hle := h.le
  have hsm := h.small
  rcases hb with hb | ⟨b, off, rfl, hbl, hne, hc⟩
  · subst hb; simp at hlt
  have G : Hid (∀ k, RdAt ((w.setCell ⟨rb, 1, none⟩ (.int .i64 ((at_ + s : Nat) : Int))).drewN k) rb bs (at_ + s)) := fun k => (h.go s hn).drewN k
  have G0 : Hid (∀ k, RdAt (w.drewN k) rb bs at_) := fun k => h.drewN k
  have HC : Hid (∀ i (h : i < bs.length), w.cell? ⟨b, off + i, none⟩ = some (.int .u8 (bs[i].toNat : Int))) := hc
  have hca := hc at_ hlt
  clear hc
  have hcl := bs[at_].toNat_lt
  have HV : Hid (v = beA (bs[at_].toNat - mk) (seg bs (at_ + 1) (s - 1))) := hv
  clear hv
  have HL : Hid (∀ m, Calls Try.prog 64 #[.pointer (some ⟨rb, 0, none⟩)] (w.drewN m) fun e w' => e = .returned (.int .i64 ((bs.length : Int) - at_)) ∧ ∃ n, w' = w.drewN (m + n)) := by
    intro m
    refine (left_any (h.drewN m)).mono ?_
    rintro e w' ⟨rfl, n, rfl⟩
    exact ⟨rfl, n, by rw [World.drewN_drewN]⟩
  clear h
  generalize bs[at_].toNat = c at *
  have hs0 : ((s : Int) == 0) = false := by rw [beq_eq_false_iff_ne]; omega
  have hl0 : (((bs.length : Int) - at_) == 0) = false := by rw [beq_eq_false_iff_ne]; omega
  go_enter Try.func59, Try.ntmps59
  go_wp2_with fail
  refine (HL.out 0).mono ?_
  rintro e w' ⟨rfl, n1, rfl⟩
  go_wp2_with fail
  go_quiet ((go_at_call 68; go_must (exact quiet_on (wanted_any _ _))))
  go_wp2_with fail
  refine (HL.out _).mono ?_
  rintro e w' ⟨rfl, n2, rfl⟩
  go_wp2_with fail
  go_quiet (fail)
  go_wp2_with fail
  go_loopw [6, 48] (fun x i wr => ∃ k m : Nat, k ≤ s - 1 ∧ i = .int .i64 k ∧ wr = w.drewN m ∧ x = .int .i64 (beA (c - mk) (seg bs (at_ + 1) k) : Int)) (fun _ i _ => s - 1 - (intOf i).toNat)
  case atStart => exact ⟨0, _, Nat.zero_le _, rfl, rfl, by simp [seg, beA]; omega⟩
  case round =>
    obtain ⟨k, m, hk, rfl, rfl, rfl⟩ := hrel
    have hx := beA_lt (seg bs (at_ + 1) k) (c - mk) 1 (by omega)
    rw [seg_length bs (at_ + 1) k (by omega)] at hx
    by_cases hkn : k < s - 1
    · have hcell := HC.out (at_ + 1 + k) (by omega)
      have hb2 := bs[at_ + 1 + k].toNat_lt
      have hx2 : beA (c - mk) (seg bs (at_ + 1) k) < 256 ^ 3 := Nat.lt_of_lt_of_le hx (Nat.pow_le_pow_right (by omega) (by omega))
      clear hx
      have HS : Hid (beA (c - mk) (seg bs (at_ + 1) (k + 1)) = 256 * beA (c - mk) (seg bs (at_ + 1) k) + bs[at_ + 1 + k].toNat) := by
        show _ = _
        rw [seg_succ bs (at_ + 1) k (by omega), beA_snoc]
      generalize bs[at_ + 1 + k].toNat = d at *
      generalize beA (c - mk) (seg bs (at_ + 1) k) = x at *
      go_wp2
      go_quiet (fail)
      go_wp2
      go_roundw
      case rel => exact ⟨k + 1, m + nq, by omega, by go_num, rfl, by rw [or_low x d hx2 (by omega), HS.out]⟩
      case measure => simp [intOf]; omega
    · have hkk : k = s - 1 := by omega
      subst hkk
      rw [← HV.out]
      clear hx HV
      go_wp2_with fail
      refine (size_any _ _).mono ?_
      rintro e wz ⟨rfl, hz'⟩
      subst wz
      by_cases hz : sizeI (v : Int) = (s : Int)
      · have HZ : Hid (sizeI (v : Int) = (s : Int)) := hz
        go_wp2
        go_ret2
        exact ⟨fun _ => ⟨rfl, G.out _⟩, fun h => absurd HZ.out h, ((Only.refl _ _).setCell _ _).drewN _⟩
      · have HZ : Hid (¬ sizeI (v : Int) = (s : Int)) := hz
        have hz2 : (sizeI (v : Int) != (s : Int)) = true := by rw [bne_iff_ne]; exact hz
        clear hz
        go_wp2
        go_ret2
        exact ⟨fun h => absurd h HZ.out, fun _ => ⟨rfl, G0.out _⟩, (Only.refl _ _).drewN _⟩

theorem packed_end {w : World} {rb : Nat} {bs : List UInt8} {at_ : Nat} (h : RdAt w rb bs at_) (he : at_ = bs.length) :
    Calls Try.prog 59 #[.pointer (some ⟨rb, 0, none⟩)] w fun e w' => e = .returned (.tuple #[.int .i64 0, .int .i64 1]) ∧ ∃ n, w' = w.drewN n := by
  have hl0 : (((bs.length : Int) - at_) == 0) = true := by rw [beq_iff_eq]; omega
  have HL : Hid (Calls Try.prog 64 #[.pointer (some ⟨rb, 0, none⟩)] w fun e w' => e = .returned (.int .i64 ((bs.length : Int) - at_)) ∧ ∃ n, w' = w.drewN n) := left_any h
  clear h he
  go_enter Try.func59, Try.ntmps59
  go_wp2_with fail
  refine HL.out.mono ?_
  rintro e w' ⟨rfl, n1, rfl⟩
  go_wp2
  go_ret2
  exact ⟨rfl, _, rfl⟩

set_option maxRecDepth 100000 in
set_option maxHeartbeats 1000000 in
theorem packed_none {w : World} {rb : Nat} {bs : List UInt8} {at_ : Nat} (h : RdAt w rb bs at_) (hlt : at_ < bs.length) (s : Nat) (hw : wantI (bs[at_].toNat : Int) = (s : Int)) (hs : s = 0 ∨ bs.length < at_ + s) :
    Calls Try.prog 59 #[.pointer (some ⟨rb, 0, none⟩)] w fun e w' => e = .returned (.tuple #[.int .i64 0, .int .i64 (if s = 0 then 2 else 1)]) ∧ ∃ n, w' = w.drewN n := by
  obtain ⟨a, cap, c0, c1, f1, l1, l2, hb⟩ := h.cells
  have hle := h.le
  have hsm := h.small
  rcases hb with hb | ⟨b, off, rfl, hbl, hne, hc⟩
  · subst hb; simp at hlt
  have hca := hc at_ hlt
  clear hc
  have hcl := bs[at_].toNat_lt
  have HL : Hid (∀ m, Calls Try.prog 64 #[.pointer (some ⟨rb, 0, none⟩)] (w.drewN m) fun e w' => e = .returned (.int .i64 ((bs.length : Int) - at_)) ∧ ∃ n, w' = w.drewN (m + n)) := by
    intro m
    refine (left_any (h.drewN m)).mono ?_
    rintro e w' ⟨rfl, n, rfl⟩
    exact ⟨rfl, n, by rw [World.drewN_drewN]⟩
  clear h
  generalize bs[at_].toNat = c at *
  have hl0 : (((bs.length : Int) - at_) == 0) = false := by rw [beq_eq_false_iff_ne]; omega
  by_cases hs0 : s = 0
  · subst hs0
    clear hs
    rw [if_pos rfl]
    go_enter Try.func59, Try.ntmps59
    go_wp2_with fail
    refine (HL.out 0).mono ?_
    rintro e w' ⟨rfl, n1, rfl⟩
    go_wp2_with fail
    go_quiet ((go_at_call 68; go_must (exact quiet_on (wanted_any _ _))))
    go_wp2_with fail
    go_ret2
    exact ⟨rfl, _, rfl⟩
  · have hs1 : ((s : Int) == 0) = false := by rw [beq_eq_false_iff_ne]; omega
    have hs2 : bs.length < at_ + s := by omega
    rw [if_neg hs0]
    clear hs
    go_enter Try.func59, Try.ntmps59
    go_wp2_with fail
    refine (HL.out 0).mono ?_
    rintro e w' ⟨rfl, n1, rfl⟩
    go_wp2_with fail
    go_quiet ((go_at_call 68; go_must (exact quiet_on (wanted_any _ _))))
    go_wp2_with fail
    refine (HL.out _).mono ?_
    rintro e w' ⟨rfl, n2, rfl⟩
    go_wp2_with fail
    go_ret2
    exact ⟨rfl, _, rfl⟩

/-- What stands at a place, as a packed number that begins with c, wants s bytes and bears the mark mk: the number, how many bytes it has, the error. -/
def unpS (bs : List UInt8) (at_ c s mk : Nat) : Nat × Nat × Nat :=
  if s = 0 then (0, 0, 2) else if bs.length < at_ + s then (0, 0, 1) else if sizeI (beA (c - mk) (seg bs (at_ + 1) (s - 1)) : Int) = (s : Int) then (beA (c - mk) (seg bs (at_ + 1) (s - 1)), s, 0) else (0, 0, 2)
def wantN (c : Nat) : Nat := (wantI (c : Int)).toNat
def markN (s : Nat) : Nat := (markI (s : Int)).toNat
def unp (bs : List UInt8) (at_ : Nat) : Nat × Nat × Nat :=
  if h : at_ < bs.length then unpS bs at_ bs[at_].toNat (wantN bs[at_].toNat) (markN (wantN bs[at_].toNat)) else (0, 0, 1)

theorem want_facts (c : Nat) (_hc : c < 256) : wantI (c : Int) = (wantN c : Int) ∧ wantN c ≤ 4 ∧ markI (wantN c : Int) = (markN (wantN c) : Int) ∧ markN (wantN c) ≤ c := by
  unfold wantN markN
  by_cases h1 : (c : Int) < 128
  · simp [wantI, markI, h1]
  · by_cases h2 : (c : Int) < 192
    · simp [wantI, markI, h1, h2]; omega
    · by_cases h3 : (c : Int) < 224
      · simp [wantI, markI, h1, h2, h3]; omega
      · simp [wantI, markI, h1, h2, h3]

theorem packed_s {w : World} {rb : Nat} {bs : List UInt8} {at_ : Nat} (h : RdAt w rb bs at_) (hlt : at_ < bs.length) (s mk : Nat) (f1 : wantI (bs[at_].toNat : Int) = (s : Int)) (f2 : s ≤ 4) (f3 : markI (s : Int) = (mk : Int)) (f4 : mk ≤ bs[at_].toNat) :
    Calls Try.prog 59 #[.pointer (some ⟨rb, 0, none⟩)] w fun e w' => e = .returned (.tuple #[.int .i64 ((unpS bs at_ bs[at_].toNat s mk).1 : Int), .int .i64 ((unpS bs at_ bs[at_].toNat s mk).2.2 : Int)]) ∧ RdAt w' rb bs (at_ + (unpS bs at_ bs[at_].toNat s mk).2.1) ∧ Only rb w w' := by
  unfold unpS
  by_cases hs0 : s = 0
  · rw [if_pos hs0]
    refine (packed_none h hlt s f1 (.inl hs0)).mono ?_
    rintro e w' ⟨rfl, n, rfl⟩
    rw [if_pos hs0]
    exact ⟨rfl, h.drewN n, (Only.refl _ _).drewN n⟩
  · rw [if_neg hs0]
    by_cases hl : bs.length < at_ + s
    · rw [if_pos hl]
      refine (packed_none h hlt s f1 (.inr hl)).mono ?_
      rintro e w' ⟨rfl, n, rfl⟩
      rw [if_neg hs0]
      exact ⟨rfl, h.drewN n, (Only.refl _ _).drewN n⟩
    · rw [if_neg hl]
      refine (packed_go h s mk hlt f1 f3 (by omega) f2 f4 (by omega) _ rfl).mono ?_
      rintro e w' ⟨g1, g2, g3⟩
      by_cases hz : sizeI (beA (bs[at_].toNat - mk) (seg bs (at_ + 1) (s - 1)) : Int) = (s : Int)
      · rw [if_pos hz]
        obtain ⟨rfl, g4⟩ := g1 hz
        exact ⟨rfl, g4, g3⟩
      · rw [if_neg hz]
        obtain ⟨rfl, g4⟩ := g2 hz
        exact ⟨rfl, g4, g3⟩

theorem packed_any {w : World} {rb : Nat} {bs : List UInt8} {at_ : Nat} (h : RdAt w rb bs at_) :
    Calls Try.prog 59 #[.pointer (some ⟨rb, 0, none⟩)] w fun e w' => e = .returned (.tuple #[.int .i64 ((unp bs at_).1 : Int), .int .i64 ((unp bs at_).2.2 : Int)]) ∧ RdAt w' rb bs (at_ + (unp bs at_).2.1) ∧ Only rb w w' := by
  unfold unp
  by_cases hlt : at_ < bs.length
  · obtain ⟨f1, f2, f3, f4⟩ := want_facts bs[at_].toNat bs[at_].toNat_lt
    rw [dif_pos hlt]
    exact packed_s h hlt _ _ f1 f2 f3 f4
  · have hle := h.le
    rw [dif_neg hlt]
    refine (packed_end h (by omega)).mono ?_
    rintro e w' ⟨rfl, n, rfl⟩
    exact ⟨rfl, h.drewN n, (Only.refl _ _).drewN n⟩

end Go.Proofs.Ytcjoidhbhffcgaa
