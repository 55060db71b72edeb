
/- Unpack of the references. -/
import Derived.Test.YtcjoidhbhffcgaaRows
import Derived.Test.YtcjoidhbhffcgaaPackMath
import Derived.Test.YtcjoidhbhffcgaaRefNum
import Derived.BigRegion
namespace Go.Proofs.Ytcjoidhbhffcgaa
set_option linter.unusedVariables false
set_option linter.unusedSimpArgs false
open Go.RowKit

set_option maxRecDepth 100000 in
set_option maxHeartbeats 1000000 in
theorem unpack_end (a : Option Addr) (len cap at_ : Nat) (w : World) (h : len ≤ at_) (hm : at_ ≤ maxLen) :
    Calls Try.prog 43 #[.slice a len cap, .int .i64 (at_ : Int)] w fun e w' => e = .returned (.agg #[.int .i64 0, .int .i64 0, .int .i64 1]) ∧ Below w.heap.size w w' := by
  unfold maxLen at hm
  go_enter Try.func43, Try.ntmps43
  go_wp2
  exact bodyPost_ret (v := .agg #[.int .i64 0, .int .i64 0, .int .i64 1]) (by simp [results, Try.results43, go_sem]) rfl ⟨rfl, (Below.refl _ _).alloc (Nat.le_refl _) _⟩

theorem set_first (w : World) (R : Obj) (x y s z : Value) (t : TypeId) (m : Nat) : (((w.alloc R).alloc (.cells #[x, s, z] t)).drewN m).setCell ⟨w.heap.size + 1, 0, none⟩ y = ((w.alloc R).alloc (.cells #[y, s, z] t)).drewN m := by
  show (((w.alloc R).alloc (.cells #[x, s, z] t)).setCell ⟨w.heap.size + 1, 0, none⟩ y).drewN m = _
  rw [World.setCell_alloc_at _ _ _ _ _ (by simp)]
  rfl

set_option maxRecDepth 100000 in
set_option maxHeartbeats 1000000 in
theorem unpack_go {bs : List UInt8} {b off cap : Nat} {w : World} (at_ s mk : Nat) (hlt : at_ < bs.length) (h2 : bs.length ≤ maxLen)
    (hc : ∀ i (h : i < bs.length), w.cell? ⟨b, off + i, none⟩ = some (.int .u8 (bs[i].toNat : Int))) (hb : b < w.heap.size)
    (hcase : (s = 1 ∧ mk = 0 ∧ bs[at_].toNat < 128) ∨ (s = 2 ∧ mk = 128 ∧ 128 ≤ bs[at_].toNat ∧ bs[at_].toNat < 192) ∨ (s = 4 ∧ mk = 192 ∧ 192 ≤ bs[at_].toNat ∧ bs[at_].toNat < 224)) (hn : at_ + s ≤ bs.length) (v : Nat) (hv : v = beA (bs[at_].toNat - mk) (seg bs (at_ + 1) (s - 1))) :
    Calls Try.prog 43 #[.slice (some ⟨b, off, none⟩) bs.length cap, .int .i64 (at_ : Int)] w fun e w' => (sizeI (v : Int) = (s : Int) → e = .returned (.agg #[.int .i64 (v : Int), .int .i64 (s : Int), .int .i64 0])) ∧
      (sizeI (v : Int) ≠ (s : Int) → e = .returned (.agg #[.int .i64 0, .int .i64 0, .int .i64 2])) ∧ Below w.heap.size w w' := by
  unfold maxLen at h2
  have hca := hc at_ hlt
  have HC : Hid (∀ i (h : i < bs.length), w.cell? ⟨b, off + i, none⟩ = some (.int .u8 (bs[i].toNat : Int))) := hc
  have HV : Hid (v = beA (bs[at_].toNat - mk) (seg bs (at_ + 1) (s - 1))) := hv
  have hcl := bs[at_].toNat_lt
  clear hc hv
  generalize bs[at_].toNat = c at *
  rcases hcase with ⟨rfl, rfl, hr⟩ | ⟨rfl, rfl, hr, hr2⟩ | ⟨rfl, rfl, hr, hr2⟩
  · go_enter Try.func43, Try.ntmps43
    go_wp2_with fail
    go_loopw [7] (fun i wr => ∃ j m x : Nat, j + 1 ≤ 1 ∧ i = .int .i64 ((j : Int) + 1) ∧ x = beA (c - 0) (seg bs (at_ + 1) j) ∧ wr = ((w.alloc (.cells #[.int .i64 0, .int .i64 0, .int .i64 0] 74)).alloc (.cells #[.int .i64 (x : Int), .int .i64 1, .int .i64 0] 74)).drewN m) (fun i _ => 1 - (intOf i).toNat)
    case atStart => exact ⟨0, 0, c - 0, by omega, rfl, by simp [seg, beA], by first | (rw [World.drewN_zero]; done) | (rw [World.drewN_zero, show ((c - 0 : Nat) : Int) = (c : Int) - 0 by omega]; done) | (rw [World.drewN_zero, show ((c - 0 : Nat) : Int) = (c : Int) - 0 by omega]; rfl)⟩
    case round =>
      obtain ⟨j, m, x, hj, rfl, hx, rfl⟩ := hrel
      have hxl := beA_lt (seg bs (at_ + 1) j) (c - 0) 1 (by omega)
      rw [seg_length bs (at_ + 1) j (by omega), ← hx] at hxl
      by_cases hjs : j + 1 < 1
      · omega
      · have hjj : j = 1 - 1 := by omega
        subst hjj
        have HX : Hid (v = x) := by show _ = _; rw [HV.out, hx]
        clear hx hxl HV
        by_cases hz : sizeI (x : Int) = 1
        · have HZ : Hid (sizeI (x : Int) = 1) := hz
          go_wp2_with fail
          go_quiet ((go_at_call 51; go_must (exact quiet_on (refSize_any _ _))))
          go_wp2
          refine bodyPost_ret (v := .agg #[.int .i64 (x : Int), .int .i64 1, .int .i64 0]) (by simp [results, Try.results43, go_sem]) rfl ⟨fun _ => by rw [HX.out]; rfl, fun h => absurd (by rw [HX.out]; exact HZ.out) h, ?_⟩
          exact (((Below.drewN (((Below.refl _ _).alloc (Nat.le_refl _) _).alloc (by simp) _) _).setCell (Nat.le_refl _) _).setCell (Nat.le_refl _) _).setCell (Nat.le_refl _) _
        · have hz2 : (sizeI (x : Int) != 1) = true := by rw [bne_iff_ne]; exact hz
          have HZ : Hid (¬ sizeI (x : Int) = 1) := hz
          clear hz
          go_wp2_with fail
          go_quiet ((go_at_call 51; go_must (exact quiet_on (refSize_any _ _))))
          go_wp2
          refine bodyPost_ret (v := .agg #[.int .i64 0, .int .i64 0, .int .i64 2]) (by simp [results, Try.results43, go_sem]) rfl ⟨fun h => absurd (by rw [HX.out] at h; exact h) HZ.out, fun _ => rfl, ?_⟩
          exact (((Below.drewN (((Below.refl _ _).alloc (Nat.le_refl _) _).alloc (by simp) _) _).setCell (Nat.le_refl _) _).setCell (Nat.le_refl _) _).setCell (Nat.le_refl _) _
  · go_enter Try.func43, Try.ntmps43
    go_wp2_with fail
    go_loopw [7] (fun i wr => ∃ j m x : Nat, j + 1 ≤ 2 ∧ i = .int .i64 ((j : Int) + 1) ∧ x = beA (c - 128) (seg bs (at_ + 1) j) ∧ wr = ((w.alloc (.cells #[.int .i64 0, .int .i64 0, .int .i64 0] 74)).alloc (.cells #[.int .i64 (x : Int), .int .i64 2, .int .i64 0] 74)).drewN m) (fun i _ => 2 - (intOf i).toNat)
    case atStart => exact ⟨0, 0, c - 128, by omega, rfl, by simp [seg, beA], by first | (rw [World.drewN_zero]; done) | (rw [World.drewN_zero, show ((c - 128 : Nat) : Int) = (c : Int) - 128 by omega]; done) | (rw [World.drewN_zero, show ((c - 128 : Nat) : Int) = (c : Int) - 128 by omega]; rfl)⟩
    case round =>
      obtain ⟨j, m, x, hj, rfl, hx, rfl⟩ := hrel
      have hxl := beA_lt (seg bs (at_ + 1) j) (c - 128) 1 (by omega)
      rw [seg_length bs (at_ + 1) j (by omega), ← hx] at hxl
      by_cases hjs : j + 1 < 2
      · have hx2 : x < 256 ^ 3 := Nat.lt_of_lt_of_le hxl (Nat.pow_le_pow_right (by omega) (by omega))
        have hcell := HC.out (at_ + 1 + j) (by omega)
        have hb2 := bs[at_ + 1 + j].toNat_lt
        have HS : Hid (256 * x + bs[at_ + 1 + j].toNat = beA (c - 128) (seg bs (at_ + 1) (j + 1))) := by
          show _ = _
          rw [seg_succ bs (at_ + 1) j (by omega), beA_snoc, ← hx]
        clear hx hxl
        generalize bs[at_ + 1 + j].toNat = d at *
        have hcell2 : w.cell? ⟨b, off + (at_ + (j + 1)), none⟩ = some (.int .u8 (d : Int)) := by rw [← hcell]; congr 2; omega
        clear hcell
        go_wp2_with fail
        go_region
        go_wp2
        go_roundw
        case rel => exact ⟨j + 1, m + 1, 256 * x + d, by omega, by go_num, HS.out, by rw [set_first, show ((256 * x + d : Nat) : Int) = 256 * (x : Int) + d by omega]⟩
        case measure => simp [intOf]; omega
      · have hjj : j = 2 - 1 := by omega
        subst hjj
        have HX : Hid (v = x) := by show _ = _; rw [HV.out, hx]
        clear hx hxl HV
        by_cases hz : sizeI (x : Int) = 2
        · have HZ : Hid (sizeI (x : Int) = 2) := hz
          go_wp2_with fail
          go_quiet ((go_at_call 51; go_must (exact quiet_on (refSize_any _ _))))
          go_wp2
          refine bodyPost_ret (v := .agg #[.int .i64 (x : Int), .int .i64 2, .int .i64 0]) (by simp [results, Try.results43, go_sem]) rfl ⟨fun _ => by rw [HX.out]; rfl, fun h => absurd (by rw [HX.out]; exact HZ.out) h, ?_⟩
          exact (((Below.drewN (((Below.refl _ _).alloc (Nat.le_refl _) _).alloc (by simp) _) _).setCell (Nat.le_refl _) _).setCell (Nat.le_refl _) _).setCell (Nat.le_refl _) _
        · have hz2 : (sizeI (x : Int) != 2) = true := by rw [bne_iff_ne]; exact hz
          have HZ : Hid (¬ sizeI (x : Int) = 2) := hz
          clear hz
          go_wp2_with fail
          go_quiet ((go_at_call 51; go_must (exact quiet_on (refSize_any _ _))))
          go_wp2
          refine bodyPost_ret (v := .agg #[.int .i64 0, .int .i64 0, .int .i64 2]) (by simp [results, Try.results43, go_sem]) rfl ⟨fun h => absurd (by rw [HX.out] at h; exact h) HZ.out, fun _ => rfl, ?_⟩
          exact (((Below.drewN (((Below.refl _ _).alloc (Nat.le_refl _) _).alloc (by simp) _) _).setCell (Nat.le_refl _) _).setCell (Nat.le_refl _) _).setCell (Nat.le_refl _) _
  · go_enter Try.func43, Try.ntmps43
    go_wp2_with fail
    go_loopw [7] (fun i wr => ∃ j m x : Nat, j + 1 ≤ 4 ∧ i = .int .i64 ((j : Int) + 1) ∧ x = beA (c - 192) (seg bs (at_ + 1) j) ∧ wr = ((w.alloc (.cells #[.int .i64 0, .int .i64 0, .int .i64 0] 74)).alloc (.cells #[.int .i64 (x : Int), .int .i64 4, .int .i64 0] 74)).drewN m) (fun i _ => 4 - (intOf i).toNat)
    case atStart => exact ⟨0, 0, c - 192, by omega, rfl, by simp [seg, beA], by first | (rw [World.drewN_zero]; done) | (rw [World.drewN_zero, show ((c - 192 : Nat) : Int) = (c : Int) - 192 by omega]; done) | (rw [World.drewN_zero, show ((c - 192 : Nat) : Int) = (c : Int) - 192 by omega]; rfl)⟩
    case round =>
      obtain ⟨j, m, x, hj, rfl, hx, rfl⟩ := hrel
      have hxl := beA_lt (seg bs (at_ + 1) j) (c - 192) 1 (by omega)
      rw [seg_length bs (at_ + 1) j (by omega), ← hx] at hxl
      by_cases hjs : j + 1 < 4
      · have hx2 : x < 256 ^ 3 := Nat.lt_of_lt_of_le hxl (Nat.pow_le_pow_right (by omega) (by omega))
        have hcell := HC.out (at_ + 1 + j) (by omega)
        have hb2 := bs[at_ + 1 + j].toNat_lt
        have HS : Hid (256 * x + bs[at_ + 1 + j].toNat = beA (c - 192) (seg bs (at_ + 1) (j + 1))) := by
          show _ = _
          rw [seg_succ bs (at_ + 1) j (by omega), beA_snoc, ← hx]
        clear hx hxl
        generalize bs[at_ + 1 + j].toNat = d at *
        have hcell2 : w.cell? ⟨b, off + (at_ + (j + 1)), none⟩ = some (.int .u8 (d : Int)) := by rw [← hcell]; congr 2; omega
        clear hcell
        go_wp2_with fail
        go_region
        go_wp2
        go_roundw
        case rel => exact ⟨j + 1, m + 1, 256 * x + d, by omega, by go_num, HS.out, by rw [set_first, show ((256 * x + d : Nat) : Int) = 256 * (x : Int) + d by omega]⟩
        case measure => simp [intOf]; omega
      · have hjj : j = 4 - 1 := by omega
        subst hjj
        have HX : Hid (v = x) := by show _ = _; rw [HV.out, hx]
        clear hx hxl HV
        by_cases hz : sizeI (x : Int) = 4
        · have HZ : Hid (sizeI (x : Int) = 4) := hz
          go_wp2_with fail
          go_quiet ((go_at_call 51; go_must (exact quiet_on (refSize_any _ _))))
          go_wp2
          refine bodyPost_ret (v := .agg #[.int .i64 (x : Int), .int .i64 4, .int .i64 0]) (by simp [results, Try.results43, go_sem]) rfl ⟨fun _ => by rw [HX.out]; rfl, fun h => absurd (by rw [HX.out]; exact HZ.out) h, ?_⟩
          exact (((Below.drewN (((Below.refl _ _).alloc (Nat.le_refl _) _).alloc (by simp) _) _).setCell (Nat.le_refl _) _).setCell (Nat.le_refl _) _).setCell (Nat.le_refl _) _
        · have hz2 : (sizeI (x : Int) != 4) = true := by rw [bne_iff_ne]; exact hz
          have HZ : Hid (¬ sizeI (x : Int) = 4) := hz
          clear hz
          go_wp2_with fail
          go_quiet ((go_at_call 51; go_must (exact quiet_on (refSize_any _ _))))
          go_wp2
          refine bodyPost_ret (v := .agg #[.int .i64 0, .int .i64 0, .int .i64 2]) (by simp [results, Try.results43, go_sem]) rfl ⟨fun h => absurd (by rw [HX.out] at h; exact h) HZ.out, fun _ => rfl, ?_⟩
          exact (((Below.drewN (((Below.refl _ _).alloc (Nat.le_refl _) _).alloc (by simp) _) _).setCell (Nat.le_refl _) _).setCell (Nat.le_refl _) _).setCell (Nat.le_refl _) _

set_option maxRecDepth 100000 in
set_option maxHeartbeats 1000000 in
theorem unpack_no {bs : List UInt8} {b off cap : Nat} {w : World} (at_ s : Nat) (hlt : at_ < bs.length) (h2 : bs.length ≤ maxLen)
    (hc : ∀ i (h : i < bs.length), w.cell? ⟨b, off + i, none⟩ = some (.int .u8 (bs[i].toNat : Int))) (hb : b < w.heap.size)
    (hcase : (s = 0 ∧ 224 ≤ bs[at_].toNat) ∨ bs.length < at_ + s ∧ ((s = 1 ∧ bs[at_].toNat < 128) ∨ (s = 2 ∧ 128 ≤ bs[at_].toNat ∧ bs[at_].toNat < 192) ∨ (s = 4 ∧ 192 ≤ bs[at_].toNat ∧ bs[at_].toNat < 224))) :
    Calls Try.prog 43 #[.slice (some ⟨b, off, none⟩) bs.length cap, .int .i64 (at_ : Int)] w fun e w' => e = .returned (.agg #[.int .i64 0, .int .i64 0, .int .i64 (if s = 0 then 2 else 1)]) ∧ Below w.heap.size w w' := by
  unfold maxLen at h2
  have hca := hc at_ hlt
  have hcl := bs[at_].toNat_lt
  clear hc
  generalize bs[at_].toNat = c at *
  rcases hcase with ⟨rfl, hr⟩ | ⟨hsh, ⟨rfl, hr⟩ | ⟨rfl, hr, hr2⟩ | ⟨rfl, hr, hr2⟩⟩
  · rw [if_pos rfl]
    go_enter Try.func43, Try.ntmps43
    go_wp2_with fail
    refine bodyPost_ret (v := .agg #[.int .i64 0, .int .i64 0, .int .i64 2]) (by simp [results, Try.results43, go_sem]) rfl ⟨rfl, ?_⟩
    repeat (first | exact Below.refl _ _ | refine Below.alloc ?_ (by first | exact Nat.le_refl _ | simp) _ | refine Below.setCell ?_ (by first | exact Nat.le_refl _ | simp) _)
  · omega
  · rw [if_neg (by omega)]
    go_enter Try.func43, Try.ntmps43
    go_wp2_with fail
    refine bodyPost_ret (v := .agg #[.int .i64 0, .int .i64 0, .int .i64 1]) (by simp [results, Try.results43, go_sem]) rfl ⟨rfl, ?_⟩
    repeat (first | exact Below.refl _ _ | refine Below.alloc ?_ (by first | exact Nat.le_refl _ | simp) _ | refine Below.setCell ?_ (by first | exact Nat.le_refl _ | simp) _)
  · rw [if_neg (by omega)]
    go_enter Try.func43, Try.ntmps43
    go_wp2_with fail
    refine bodyPost_ret (v := .agg #[.int .i64 0, .int .i64 0, .int .i64 1]) (by simp [results, Try.results43, go_sem]) rfl ⟨rfl, ?_⟩
    repeat (first | exact Below.refl _ _ | refine Below.alloc ?_ (by first | exact Nat.le_refl _ | simp) _ | refine Below.setCell ?_ (by first | exact Nat.le_refl _ | simp) _)

theorem want_cases (c : Nat) : (wantN c = 1 ∧ markN 1 = 0 ∧ c < 128) ∨ (wantN c = 2 ∧ markN 2 = 128 ∧ 128 ≤ c ∧ c < 192) ∨ (wantN c = 4 ∧ markN 4 = 192 ∧ 192 ≤ c ∧ c < 224) ∨ (wantN c = 0 ∧ 224 ≤ c) := by
  have m1 : markN 1 = 0 := by simp [markN, markI]
  have m2 : markN 2 = 128 := by simp [markN, markI]
  have m4 : markN 4 = 192 := by simp [markN, markI]
  unfold wantN wantI
  by_cases h1 : (c : Int) < 128
  · rw [if_pos h1]; exact .inl ⟨rfl, m1, by omega⟩
  · rw [if_neg h1]
    by_cases h2 : (c : Int) < 192
    · rw [if_pos h2]; exact .inr (.inl ⟨rfl, m2, by omega, by omega⟩)
    · rw [if_neg h2]
      by_cases h3 : (c : Int) < 224
      · rw [if_pos h3]; exact .inr (.inr (.inl ⟨rfl, m4, by omega, by omega⟩))
      · rw [if_neg h3]; exact .inr (.inr (.inr ⟨rfl, by omega⟩))

theorem unpack_s {bs : List UInt8} {b off cap : Nat} {w : World} (at_ s mk : Nat) (hlt : at_ < bs.length) (h2 : bs.length ≤ maxLen)
    (hc : ∀ i (h : i < bs.length), w.cell? ⟨b, off + i, none⟩ = some (.int .u8 (bs[i].toNat : Int))) (hb : b < w.heap.size)
    (hcase : (s = 1 ∧ mk = 0 ∧ bs[at_].toNat < 128) ∨ (s = 2 ∧ mk = 128 ∧ 128 ≤ bs[at_].toNat ∧ bs[at_].toNat < 192) ∨ (s = 4 ∧ mk = 192 ∧ 192 ≤ bs[at_].toNat ∧ bs[at_].toNat < 224) ∨ (s = 0 ∧ 224 ≤ bs[at_].toNat)) :
    Calls Try.prog 43 #[.slice (some ⟨b, off, none⟩) bs.length cap, .int .i64 (at_ : Int)] w fun e w' =>
      e = .returned (.agg #[.int .i64 ((unpS bs at_ bs[at_].toNat s mk).1 : Int), .int .i64 ((unpS bs at_ bs[at_].toNat s mk).2.1 : Int), .int .i64 ((unpS bs at_ bs[at_].toNat s mk).2.2 : Int)]) ∧ Below w.heap.size w w' := by
  unfold unpS
  by_cases hs0 : s = 0
  · rw [if_pos hs0]
    refine (unpack_no at_ s hlt h2 hc hb (.inl ⟨hs0, by omega⟩)).mono ?_
    rw [if_pos hs0]
    rintro e w' ⟨rfl, hb'⟩
    exact ⟨rfl, hb'⟩
  · rw [if_neg hs0]
    by_cases hl : bs.length < at_ + s
    · rw [if_pos hl]
      refine (unpack_no at_ s hlt h2 hc hb (.inr ⟨hl, by omega⟩)).mono ?_
      rw [if_neg hs0]
      rintro e w' ⟨rfl, hb'⟩
      exact ⟨rfl, hb'⟩
    · rw [if_neg hl]
      refine (unpack_go at_ s mk hlt h2 hc hb (by omega) (by omega) _ rfl).mono ?_
      rintro e w' ⟨g1, g2, g3⟩
      by_cases hz : sizeI (beA (bs[at_].toNat - mk) (seg bs (at_ + 1) (s - 1)) : Int) = (s : Int)
      · rw [if_pos hz]
        exact ⟨g1 hz, g3⟩
      · rw [if_neg hz]
        exact ⟨g2 hz, g3⟩

theorem unpack_any {v : Value} {bs : List UInt8} {w : World} (hv : Bs w v bs) (at_ : Nat) (hm : at_ ≤ bs.length) :
    Calls Try.prog 43 #[v, .int .i64 (at_ : Int)] w fun e w' =>
      e = .returned (.agg #[.int .i64 ((unp bs at_).1 : Int), .int .i64 ((unp bs at_).2.1 : Int), .int .i64 ((unp bs at_).2.2 : Int)]) ∧ Below w.heap.size w w' := by
  obtain ⟨a, cap, rfl, h1, h2, h3⟩ := hv
  unfold unp
  by_cases hlt : at_ < bs.length
  · rw [dif_pos hlt]
    obtain ⟨b, off, rfl, hb, hc⟩ := h3 (by intro e; subst e; simp at hlt)
    refine unpack_s at_ _ _ hlt (by omega) hc hb ?_
    rcases want_cases bs[at_].toNat with ⟨e1, e2, e3⟩ | ⟨e1, e2, e3⟩ | ⟨e1, e2, e3⟩ | ⟨e1, e2⟩
    · rw [e1, e2]; exact .inl ⟨rfl, rfl, e3⟩
    · rw [e1, e2]; exact .inr (.inl ⟨rfl, rfl, e3⟩)
    · rw [e1, e2]; exact .inr (.inr (.inl ⟨rfl, rfl, e3⟩))
    · rw [e1]; exact .inr (.inr (.inr ⟨rfl, e2⟩))
  · rw [dif_neg hlt]
    exact unpack_end a bs.length cap at_ w (by omega) (by omega)

end Go.Proofs.Ytcjoidhbhffcgaa
