
/- Num of the references, and Take of the reader. -/
import Derived.Test.YtfgjlljbpcombaaRows
import Derived.Test.YtfgjlljbpcombaaPackMath
import Derived.Test.YtfgjlljbpcombaaAppend
namespace Go.Proofs.Ytfgjlljbpcombaa
set_option linter.unusedVariables false
set_option linter.unusedSimpArgs false
open Go.RowKit

theorem leN_seg_step (bs : List UInt8) (at_ k m : Nat) (h : at_ + k < bs.length) : leN (seg bs (at_ + k) (m + 1)) = 256 * leN (seg bs (at_ + k + 1) m) + bs[at_ + k].toNat := by
  rw [seg_cons bs (at_ + k) m h]; simp [leN]; omega

set_option maxRecDepth 100000 in
set_option maxHeartbeats 1000000 in
theorem refNum_any {v : Value} {bs : List UInt8} {w : World} (hv : Bs w v bs) (at_ n : Nat) (hn1 : 1 ≤ n) (hn8 : n ≤ 8) (hn : at_ + n ≤ bs.length) :
    Calls Try.prog 28 #[v, .int .i64 (at_ : Int), .int .i64 (n : Int)] w fun e w' => e = .returned (.int .u64 (leN (seg bs at_ n) : Int)) ∧ w' = w := by
  obtain ⟨a, cap, rfl, h1, h2, h3⟩ := hv
  obtain ⟨b, off, rfl, hbl, hc⟩ := h3 (by intro e; subst e; simp at hn; omega)
  clear h3
  unfold maxLen at h2
  have HC : Hid (∀ i (h : i < bs.length), w.cell? ⟨b, off + i, none⟩ = some (.int .u8 (bs[i].toNat : Int))) := hc
  clear hc
  go_enter Try.func28, Try.ntmps28
  go_wp2
  go_loop [7, 8] (fun x i => ∃ k : Nat, k ≤ n ∧ i = .int .i64 ((k : Int) - 1) ∧ x = .int .u64 (leN (seg bs (at_ + k) (n - k)) : Int)) (fun _ i => (intOf i + 1).toNat)
  case atStart => exact ⟨n, Nat.le_refl _, rfl, by simp [seg_zero, leN]⟩
  case round =>
    obtain ⟨k, hk, rfl, rfl⟩ := hrel
    by_cases hk0 : 0 < k
    · obtain ⟨j, rfl⟩ : ∃ j, k = j + 1 := ⟨k - 1, by omega⟩
      have hcell := HC.out (at_ + j) (by omega)
      have hb2 := bs[at_ + j].toNat_lt
      have HS : Hid (leN (seg bs (at_ + j) (n - j)) = 256 * leN (seg bs (at_ + (j + 1)) (n - (j + 1))) + bs[at_ + j].toNat) := by
        show _ = _
        have := leN_seg_step bs at_ j (n - (j + 1)) (by omega)
        rw [show n - (j + 1) + 1 = n - j by omega] at this
        exact this
      have hx := leN_lt (seg bs (at_ + (j + 1)) (n - (j + 1)))
      rw [seg_length bs _ _ (by omega)] at hx
      have hx2 : leN (seg bs (at_ + (j + 1)) (n - (j + 1))) < 256 ^ 7 := Nat.lt_of_lt_of_le hx (Nat.pow_le_pow_right (by omega) (by omega))
      clear hx
      generalize bs[at_ + j].toNat = c at *
      generalize leN (seg bs (at_ + (j + 1)) (n - (j + 1))) = x at *
      have hj : ((j + 1 : Nat) : Int) - 1 = (j : Int) := by omega
      rw [hj]
      clear hj
      go_wp2
      go_round
      case rel => exact ⟨j, by omega, rfl, by rw [HS.out]; go_num⟩
      case measure => simp [intOf]
    · have hkk : k = 0 := by omega
      subst hkk
      go_wp2
      go_ret
      exact ⟨by simp, rfl⟩

set_option maxRecDepth 100000 in
set_option maxHeartbeats 1000000 in
/-- Take, with the place of what it hands back. -/
theorem take_new {w : World} {rb : Nat} {bs : List UInt8} {at_ : Nat} (h : RdAt w rb bs at_) (n : Nat) (hn : at_ + n ≤ bs.length) :
    Calls Try.prog 45 #[.pointer (some ⟨rb, 0, none⟩), .int .i64 (n : Int)] w fun e w' => ∃ v, e = .returned (.tuple #[v, .int .i64 0]) ∧ Bs w' v (seg bs at_ n) ∧ RdAt w' rb bs (at_ + n) ∧ Only rb w w' ∧ ∀ k, v.ownBlock = some k → w.heap.size ≤ k := by
  have hle := h.le
  have hsm := h.small
  have H : Hid (RdAt w rb bs at_) := h
  clear h
  go_enter Try.func45, Try.ntmps45
  go_wp2_with fail
  refine (at_any H.out).mono ?_
  rintro e wz ⟨rfl, hz⟩
  subst wz
  go_wp2_with fail
  refine (skip_any H.out (n : Int)).mono ?_
  have e1 : skipE bs.length at_ (n : Int) = 0 := by unfold skipE; rw [if_neg (by omega), if_neg (by omega)]
  have e2 : skipN bs.length at_ (n : Int) = n := by unfold skipN; rw [if_neg (by omega), if_neg (by omega)]; omega
  rw [e1, e2]
  clear e1 e2
  rintro e w1 ⟨rfl, hr1, ho1⟩
  obtain ⟨a, cap, c0, hBs⟩ : ∃ a cap, w1.cell? ⟨rb, 0, none⟩ = some (.slice a bs.length cap) ∧ Bs w1 (.slice a bs.length cap) bs := by
    obtain ⟨g1, g2, sv, g3, g4, g5⟩ := hr1
    obtain ⟨a, cap, rfl, r⟩ := g4
    exact ⟨a, cap, by simp [World.cell?, g3], a, cap, rfl, r⟩
  obtain ⟨a', cap', hsl, hBt, _⟩ := slice_bs (P := Try.prog) hBs at_ n hn 22 5 Try.underlying22 sizeU8
  have HBt : Hid (Bs w1 (.slice a' n cap') (seg bs at_ n)) := hBt
  have HR1 : Hid (RdAt w1 rb bs (at_ + n)) := hr1
  have HO1 : Hid (Only rb w w1) := ho1
  have hlen := seg_length bs at_ n hn
  clear hr1 ho1 hBs hBt
  go_wp2_with fail
  have he := extend_any HBt.out 0 (by omega)
  rw [hlen, ext_zero] at he
  refine he.mono ?_
  rintro e w2 ⟨rfl, hz2⟩
  have hb2 : Below w1.heap.size w1 w2 := by rw [hz2]; exact (Below.refl _ _).alloc (Nat.le_refl _) _
  have HB2 : Hid (Bs w2 (.slice (some ⟨w1.heap.size, 0, none⟩) n n) (seg bs at_ n)) := by
    have := Bs.made w1 (seg bs at_ n) 5 (by unfold maxLen; omega)
    rw [hlen] at this
    rw [hz2]; exact this
  have HR2 : Hid (RdAt w2 rb bs (at_ + n)) := HR1.out.only hb2
  have HO2 : Hid (Only rb w w2) := HO1.out.trans (Only.of_below hb2)
  clear hz2 hb2 hsl he
  go_wp2
  go_ret2
  exact ⟨_, rfl, HB2.out, HR2.out, HO2.out, fun k hk => by simp [Value.ownBlock] at hk; have := HO1.out.size; omega⟩
theorem take_any {w : World} {rb : Nat} {bs : List UInt8} {at_ : Nat} (h : RdAt w rb bs at_) (n : Nat) (hn : at_ + n ≤ bs.length) :
    Calls Try.prog 45 #[.pointer (some ⟨rb, 0, none⟩), .int .i64 (n : Int)] w fun e w' => ∃ v, e = .returned (.tuple #[v, .int .i64 0]) ∧ Bs w' v (seg bs at_ n) ∧ RdAt w' rb bs (at_ + n) ∧ Only rb w w' :=
  (take_new h n hn).mono fun _ _ ⟨v, a, b, c, d, _⟩ => ⟨v, a, b, c, d⟩

theorem take_no {w : World} {rb : Nat} {bs : List UInt8} {at_ : Nat} (h : RdAt w rb bs at_) (n : Int) (c : Int) (hc : skipE bs.length at_ n = c) (hc0 : (c != 0) = true) :
    Calls Try.prog 45 #[.pointer (some ⟨rb, 0, none⟩), .int .i64 n] w fun e w' => e = .returned (.tuple #[.slice none 0 0, .int .i64 c]) ∧ RdAt w' rb bs at_ ∧ Only rb w w' := by
  have H : Hid (RdAt w rb bs at_) := h
  have hN : skipN bs.length at_ n = 0 := by
    unfold skipE at hc; unfold skipN
    split
    · rfl
    · split
      · rfl
      · rename_i a b; rw [if_neg a, if_neg b] at hc; subst hc; simp at hc0
  have HS : Hid (Calls Try.prog 48 #[.pointer (some ⟨rb, 0, none⟩), .int .i64 n] w fun e w' => e = .returned (.int .i64 c) ∧ RdAt w' rb bs at_ ∧ Only rb w w') := by
    have := skip_any h n
    rw [hN, hc] at this
    exact this
  clear h hN hc
  go_enter Try.func45, Try.ntmps45
  go_wp2_with fail
  refine (at_any H.out).mono ?_
  rintro e wz ⟨rfl, hz⟩
  subst wz
  go_wp2_with fail
  refine HS.out.mono ?_
  rintro e w1 ⟨rfl, hr1, ho1⟩
  have HR1 : Hid (RdAt w1 rb bs at_) := hr1
  clear hr1
  go_wp2
  go_ret2
  exact ⟨rfl, HR1.out, ho1⟩

end Go.Proofs.Ytfgjlljbpcombaa
