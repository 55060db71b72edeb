
/- The reader: unsigned, signed, row, way, nothing. -/
import Derived.Test.YtpgkjfjooogfmaaDoorRaw7
import Derived.Test.YtpgkjfjooogfmaaDoorNum
import Derived.Deep.RegionHeld3
import Derived.Deep.DrawnRows
import Derived.Laws.EntriesVeiled
namespace Go.Proofs.YtpgkjfjooogfmaaDoor
set_option linter.unusedVariables false
set_option linter.unusedSimpArgs false
open Go.RowKit
attribute [local go_sem ↓] Go.wp_at_zero Go.wp_at_succ

/-- In block rr lies a reader of instructions over the reader of bytes in block rb. -/
structure Rr (w : World) (rr rb : Nat) (bs : List UInt8) (a : Nat) : Prop where
  box : At w rr #[.pointer (some ⟨rb, 0, none⟩)] 66
  rd : RdAt w rb bs a
  ne : rr ≠ rb
theorem Rr.later {w w' : World} {rr rb a : Nat} {bs : List UInt8} (h : Rr w rr rb bs a) (hb : Below w.heap.size w w') : Rr w' rr rb bs a := ⟨h.box.later hb, h.rd.only hb, h.ne⟩
theorem Rr.drewN {w : World} {rr rb a : Nat} {bs : List UInt8} (h : Rr w rr rb bs a) (n : Nat) : Rr (w.drewN n) rr rb bs a := h.later (Below.drewN (Below.refl _ _) n)
theorem At.only7 {w w' : World} {g rb : Nat} {C : Array Value} {t : TypeId} (h : At w g C t) (ho : Only rb w w') (hg : g ≠ rb) : At w' g C t := by
  have := h.lt
  unfold At at h ⊢
  rw [ho.block g this hg]; exact h

/-- What is read of a number. -/
def i64n (n : Nat) : Int := if n < 9223372036854775808 then (n : Int) else (n : Int) - 18446744073709551616
theorem i64n_wrap (n : Nat) (h : n < 18446744073709551616) : IntKind.i64.wrap (n : Int) = i64n n := by
  unfold i64n
  simp [IntKind.wrap, IntKind.signed, IntKind.bits]
  split <;> omega

/-- What a way of reading leaves: the number y, if n bytes are left; else an error. -/
structure GotN (w w' : World) (rr rb : Nat) (bs : List UInt8) (a n : Nat) (y : Int) (e : Ending) : Prop where
  yes : a + n ≤ bs.length → e = .returned (.tuple #[.int .i64 y, .int .i64 0]) ∧ Rr w' rr rb bs (a + n)
  no : bs.length < a + n → (∃ z, e = .returned (.tuple #[.int .i64 z, .int .i64 1])) ∧ Rr w' rr rb bs a
  only : Only rb w w'

theorem leN_seg_lt (bs : List UInt8) (a n : Nat) (hn : n ≤ 8) : leN (seg bs a n) < 18446744073709551616 := by
  have h := leN_lt (seg bs a n)
  have hl : (seg bs a n).length ≤ n := by simp [seg]; omega
  calc leN (seg bs a n) < 256 ^ (seg bs a n).length := h
    _ ≤ 256 ^ 8 := Nat.pow_le_pow_right (by omega) (by omega)
    _ = 18446744073709551616 := by decide

set_option maxHeartbeats 1000000 in
theorem unsigned_any {w : World} {rr rb a : Nat} {bs : List UInt8} (h : Rr w rr rb bs a) (n : Nat) (hn : n = 1 ∨ n = 2 ∨ n = 4 ∨ n = 8) :
    Calls Tryd.prog 53 #[.pointer (some ⟨rr, 0, none⟩), .int .i64 (n : Int)] w fun e w' => GotN w w' rr rb bs a n (i64n (leN (seg bs a n))) e ∧ (bs.length < a + n → e = .returned (.tuple #[.int .i64 0, .int .i64 1])) := by
  obtain ⟨hbox, hrd, hne⟩ := h
  have HBX : Hid (At w rr #[.pointer (some ⟨rb, 0, none⟩)] 66) := hbox
  have tc := hbox.cell
  have hw : wideB (n : Int) = true := by rcases hn with rfl | rfl | rfl | rfl <;> rfl
  have hn8 : n ≤ 8 := by omega
  have hn0 : 0 < n := by omega
  have hlt := leN_seg_lt bs a n hn8
  have hwr := i64n_wrap _ hlt
  by_cases hs : a + n ≤ bs.length
  · have HN : Hid (Calls Tryd.prog 66 #[.pointer (some ⟨rb, 0, none⟩), .int .i64 (n : Int)] w fun e w' => e = .returned (.tuple #[.int .u64 (leN (seg bs a n) : Int), .int .i64 0]) ∧ RdAt w' rb bs (a + n) ∧ Only rb w w') := num_yes hrd n hw hn8 hs hn0
    clear hbox hrd hn hw hlt
    generalize leN (seg bs a n) = v at *
    go_enter Tryd.func53, Tryd.ntmps53
    go_wp2_with fail
    refine Calls.mono HN.out ?_
    rintro e w1 ⟨rfl, h1, h2⟩
    go_wp2
    go_ret2
    refine ⟨⟨fun _ => ⟨rfl, HBX.out.only7 h2 hne, h1, hne⟩, fun h => absurd h (by omega), h2⟩, fun h => absurd h (by omega)⟩
  · have HN : Hid (Calls Tryd.prog 66 #[.pointer (some ⟨rb, 0, none⟩), .int .i64 (n : Int)] w fun e w' => e = .returned (.tuple #[.int .u64 0, .int .i64 1]) ∧ Only rb w w' ∧ Rr w' rr rb bs a) := by
      refine (num_short hrd n hw (by omega)).mono ?_
      rintro e w' ⟨rfl, m, rfl⟩
      exact ⟨rfl, (Only.refl _ _).drewN m, Rr.drewN ⟨hbox, hrd, hne⟩ m⟩
    clear hbox hrd hn hw hlt hwr
    go_enter Tryd.func53, Tryd.ntmps53
    go_wp2_with fail
    refine Calls.mono HN.out ?_
    rintro e w1 ⟨rfl, h2, h3⟩
    have HR : Hid (Rr w1 rr rb bs a) := h3
    clear h3
    go_wp2
    go_ret2
    exact ⟨⟨fun h => absurd h hs, fun _ => ⟨⟨0, rfl⟩, HR.out⟩, h2⟩, fun _ => rfl⟩

/-- A number of so many bytes, two's complement. -/
def sgnN (v n : Nat) : Int := if v < 2 ^ (8 * n - 1) then (v : Int) else (v : Int) - (2 : Int) ^ (8 * n)

theorem i64n_small {v : Nat} (h : v < 9223372036854775808) : i64n v = (v : Int) := by unfold i64n; rw [if_pos h]
theorem shift2 (v : Nat) (h : v < 65536) : wrap64 ((v : Int) * 281474976710656) / 281474976710656 = sgnN v 2 := by
  unfold sgnN wrap64
  split <;> omega
theorem shift4 (v : Nat) (h : v < 4294967296) : wrap64 ((v : Int) * 4294967296) / 4294967296 = sgnN v 4 := by
  unfold sgnN wrap64
  split <;> omega
theorem sgn8 (v : Nat) : i64n v = sgnN v 8 := by
  unfold sgnN i64n
  simp

theorem seg_lt2 (bs : List UInt8) (a : Nat) : leN (seg bs a 2) < 65536 := by
  have h := leN_lt (seg bs a 2)
  have hl : (seg bs a 2).length ≤ 2 := by simp [seg]; omega
  have h2 : 256 ^ (seg bs a 2).length ≤ 256 ^ 2 := Nat.pow_le_pow_right (by omega) hl
  omega
theorem seg_lt4 (bs : List UInt8) (a : Nat) : leN (seg bs a 4) < 4294967296 := by
  have h := leN_lt (seg bs a 4)
  have hl : (seg bs a 4).length ≤ 4 := by simp [seg]; omega
  have h2 : 256 ^ (seg bs a 4).length ≤ 256 ^ 4 := Nat.pow_le_pow_right (by omega) hl
  omega

set_option maxHeartbeats 1000000 in
theorem signed2_any {w : World} {rr rb a : Nat} {bs : List UInt8} (h : Rr w rr rb bs a) :
    Calls Tryd.prog 52 #[.pointer (some ⟨rr, 0, none⟩), .int .i64 2] w fun e w' => GotN w w' rr rb bs a 2 (sgnN (leN (seg bs a 2)) 2) e := by
  have HU : Hid (Calls Tryd.prog 53 #[.pointer (some ⟨rr, 0, none⟩), .int .i64 2] w fun e w' => GotN w w' rr rb bs a 2 (i64n (leN (seg bs a 2))) e ∧ (bs.length < a + 2 → e = .returned (.tuple #[.int .i64 0, .int .i64 1]))) := unsigned_any h 2 (by omega)
  have hlt := seg_lt2 bs a
  rw [i64n_small (by omega)] at HU
  have HSH : Hid (wrap64 ((leN (seg bs a 2) : Int) * 281474976710656) / 281474976710656 = sgnN (leN (seg bs a 2)) 2) := shift2 _ hlt
  clear h hlt
  generalize leN (seg bs a 2) = v at *
  go_enter Tryd.func52, Tryd.ntmps52
  go_wp2_with fail
  refine Calls.mono HU.out ?_
  rintro e w1 ⟨⟨h1, h5, h3⟩, h2⟩
  by_cases hs : a + 2 ≤ bs.length
  · obtain ⟨rfl, h4⟩ := h1 hs
    have HR : Hid (Rr w1 rr rb bs (a + 2)) := h4
    clear h1 h2 h4 h5
    go_wp2
    go_ret2
    exact ⟨fun _ => ⟨ret_int2 HSH.out rfl, HR.out⟩, fun h => absurd h (by omega), h3⟩
  · obtain rfl := h2 (by omega)
    have HR : Hid (Rr w1 rr rb bs a) := (h5 (by omega)).2
    clear h1 h2 h5
    go_wp2
    go_ret2
    exact ⟨fun h => absurd h hs, fun _ => ⟨⟨_, rfl⟩, HR.out⟩, h3⟩

set_option maxHeartbeats 1000000 in
theorem signed4_any {w : World} {rr rb a : Nat} {bs : List UInt8} (h : Rr w rr rb bs a) :
    Calls Tryd.prog 52 #[.pointer (some ⟨rr, 0, none⟩), .int .i64 4] w fun e w' => GotN w w' rr rb bs a 4 (sgnN (leN (seg bs a 4)) 4) e := by
  have HU : Hid (Calls Tryd.prog 53 #[.pointer (some ⟨rr, 0, none⟩), .int .i64 4] w fun e w' => GotN w w' rr rb bs a 4 (i64n (leN (seg bs a 4))) e ∧ (bs.length < a + 4 → e = .returned (.tuple #[.int .i64 0, .int .i64 1]))) := unsigned_any h 4 (by omega)
  have hlt := seg_lt4 bs a
  rw [i64n_small (by omega)] at HU
  have HSH : Hid (wrap64 ((leN (seg bs a 4) : Int) * 4294967296) / 4294967296 = sgnN (leN (seg bs a 4)) 4) := shift4 _ hlt
  clear h hlt
  generalize leN (seg bs a 4) = v at *
  go_enter Tryd.func52, Tryd.ntmps52
  go_wp2_with fail
  refine Calls.mono HU.out ?_
  rintro e w1 ⟨⟨h1, h5, h3⟩, h2⟩
  by_cases hs : a + 4 ≤ bs.length
  · obtain ⟨rfl, h4⟩ := h1 hs
    have HR : Hid (Rr w1 rr rb bs (a + 4)) := h4
    clear h1 h2 h4 h5
    go_wp2
    go_ret2
    exact ⟨fun _ => ⟨ret_int2 HSH.out rfl, HR.out⟩, fun h => absurd h (by omega), h3⟩
  · obtain rfl := h2 (by omega)
    have HR : Hid (Rr w1 rr rb bs a) := (h5 (by omega)).2
    clear h1 h2 h5
    go_wp2
    go_ret2
    exact ⟨fun h => absurd h hs, fun _ => ⟨⟨_, rfl⟩, HR.out⟩, h3⟩

theorem i64n_fits (v : Nat) (h : v < 18446744073709551616) : -9223372036854775808 ≤ i64n v ∧ i64n v < 9223372036854775808 := by
  unfold i64n; split <;> omega
set_option maxHeartbeats 1000000 in
theorem signed8_any {w : World} {rr rb a : Nat} {bs : List UInt8} (h : Rr w rr rb bs a) :
    Calls Tryd.prog 52 #[.pointer (some ⟨rr, 0, none⟩), .int .i64 8] w fun e w' => GotN w w' rr rb bs a 8 (sgnN (leN (seg bs a 8)) 8) e := by
  have HU : Hid (Calls Tryd.prog 53 #[.pointer (some ⟨rr, 0, none⟩), .int .i64 8] w fun e w' => GotN w w' rr rb bs a 8 (i64n (leN (seg bs a 8))) e ∧ (bs.length < a + 8 → e = .returned (.tuple #[.int .i64 0, .int .i64 1]))) := unsigned_any h 8 (by omega)
  have hfit := i64n_fits _ (leN_seg_lt bs a 8 (by omega))
  have HS : Hid (i64n (leN (seg bs a 8)) = sgnN (leN (seg bs a 8)) 8) := sgn8 _
  clear h
  generalize i64n (leN (seg bs a 8)) = v at *
  have hsh : IntKind.i64.wrap v = v := by simp [IntKind.wrap, IntKind.signed, IntKind.bits]; omega
  go_enter Tryd.func52, Tryd.ntmps52
  go_wp2_with fail
  refine Calls.mono HU.out ?_
  rintro e w1 ⟨⟨h1, h5, h3⟩, h2⟩
  by_cases hs : a + 8 ≤ bs.length
  · obtain ⟨rfl, h4⟩ := h1 hs
    have HR : Hid (Rr w1 rr rb bs (a + 8)) := h4
    clear h1 h2 h4 h5
    go_wp2
    go_ret2
    exact ⟨fun _ => ⟨by rw [← HS.out]; rfl, HR.out⟩, fun h => absurd h (by omega), h3⟩
  · obtain rfl := h2 (by omega)
    have HR : Hid (Rr w1 rr rb bs a) := (h5 (by omega)).2
    clear h1 h2 h5
    go_wp2
    go_ret2
    exact ⟨fun h => absurd h hs, fun _ => ⟨⟨_, rfl⟩, HR.out⟩, h3⟩

theorem nothingR_any {w : World} {rr rb a : Nat} {bs : List UInt8} (h : Rr w rr rb bs a) :
    Calls Tryd.prog 51 #[.pointer (some ⟨rr, 0, none⟩), .int .i64 0] w fun e w' => GotN w w' rr rb bs a 0 0 e := by
  have hle := h.rd.le
  have HR : Hid (Rr w rr rb bs (a + 0)) := h
  clear h
  go_enter Tryd.func51, Tryd.ntmps51
  go_wp2
  go_ret2
  exact ⟨fun _ => ⟨rfl, HR.out⟩, fun h => absurd h (by omega), Only.refl _ _⟩

set_option maxHeartbeats 1000000 in
theorem rowR_any {w : World} {rr rb a : Nat} {bs : List UInt8} (h : Rr w rr rb bs a) :
    Calls Tryd.prog 55 #[.pointer (some ⟨rr, 0, none⟩), .int .i64 2] w fun e w' => GotN w w' rr rb bs a 2 ((leN (seg bs a 2) : Int) - 1) e := by
  have HU : Hid (Calls Tryd.prog 53 #[.pointer (some ⟨rr, 0, none⟩), .int .i64 2] w fun e w' => GotN w w' rr rb bs a 2 (i64n (leN (seg bs a 2))) e ∧ (bs.length < a + 2 → e = .returned (.tuple #[.int .i64 0, .int .i64 1]))) := unsigned_any h 2 (by omega)
  have hlt := seg_lt2 bs a
  rw [i64n_small (by omega)] at HU
  clear h
  generalize leN (seg bs a 2) = v at *
  go_enter Tryd.func55, Tryd.ntmps55
  go_wp2_with fail
  refine Calls.mono HU.out ?_
  rintro e w1 ⟨⟨h1, h5, h3⟩, h2⟩
  by_cases hs : a + 2 ≤ bs.length
  · obtain ⟨rfl, h4⟩ := h1 hs
    have HR : Hid (Rr w1 rr rb bs (a + 2)) := h4
    clear h1 h2 h4 h5
    go_wp2
    go_ret2
    exact ⟨fun _ => ⟨rfl, HR.out⟩, fun h => absurd h (by omega), h3⟩
  · obtain rfl := h2 (by omega)
    have HR : Hid (Rr w1 rr rb bs a) := (h5 (by omega)).2
    clear h1 h2 h5
    go_wp2
    go_ret2
    exact ⟨fun h => absurd h hs, fun _ => ⟨⟨_, rfl⟩, HR.out⟩, h3⟩

theorem sgn2_rng (v : Nat) (h : v < 65536) : -32768 ≤ sgnN v 2 ∧ sgnN v 2 ≤ 32767 := by
  unfold sgnN
  split <;> omega

set_option maxHeartbeats 1000000 in
theorem wayR_any {w : World} {rr rb a : Nat} {bs : List UInt8} (h : Rr w rr rb bs a) (hl : bs.length ≤ 100000) :
    Calls Tryd.prog 54 #[.pointer (some ⟨rr, 0, none⟩), .int .i64 2] w fun e w' => GotN w w' rr rb bs a 2 (((a + 2 : Nat) : Int) + sgnN (leN (seg bs a 2)) 2) e := by
  have HU : Hid (Calls Tryd.prog 52 #[.pointer (some ⟨rr, 0, none⟩), .int .i64 2] w fun e w' => GotN w w' rr rb bs a 2 (sgnN (leN (seg bs a 2)) 2) e) := signed2_any h
  have hle := h.rd.le
  obtain ⟨hr1, hr2⟩ := sgn2_rng _ (seg_lt2 bs a)
  clear h
  generalize sgnN (leN (seg bs a 2)) 2 = v at *
  go_enter Tryd.func54, Tryd.ntmps54
  go_wp2_with fail
  refine Calls.mono HU.out ?_
  rintro e w1 ⟨h1, h5, h3⟩
  by_cases hs : a + 2 ≤ bs.length
  · obtain ⟨rfl, h4⟩ := h1 hs
    have HR : Hid (Rr w1 rr rb bs (a + 2)) := h4
    have tc := h4.box.cell
    have HA : Hid (Calls Tryd.prog 43 #[.pointer (some ⟨rb, 0, none⟩)] w1 fun e w' => e = .returned (.int .i64 ((a + 2 : Nat) : Int)) ∧ w' = w1) := at_any h4.rd
    clear h1 h4 h5
    go_wp2_with fail
    refine Calls.mono HA.out ?_
    rintro e wz ⟨rfl, hz⟩
    subst wz
    go_wp2
    go_ret2
    exact ⟨fun _ => ⟨ret_int2 rfl rfl, HR.out⟩, fun h => absurd h (by omega), h3⟩
  · obtain ⟨⟨z, rfl⟩, h4⟩ := h5 (by omega)
    have HR : Hid (Rr w1 rr rb bs a) := h4
    have tc := h4.box.cell
    have HA : Hid (Calls Tryd.prog 43 #[.pointer (some ⟨rb, 0, none⟩)] w1 fun e w' => e = .returned (.int .i64 (a : Int)) ∧ w' = w1) := at_any h4.rd
    clear h1 h4 h5
    go_wp2_with fail
    refine Calls.mono HA.out ?_
    rintro e wz ⟨rfl, hz⟩
    subst wz
    go_wp2
    go_ret2
    exact ⟨fun h => absurd h hs, fun _ => ⟨⟨_, rfl⟩, HR.out⟩, h3⟩

end Go.Proofs.YtpgkjfjooogfmaaDoor
