
/- The search in a row of numbers that rise. -/
import Derived.Test.YtpgkjfjooogfmaaDoorInts7
namespace Go.Proofs.YtpgkjfjooogfmaaDoor
set_option linter.unusedVariables false
set_option linter.unusedSimpArgs false
open Go.RowKit

theorem isNaNc_any (x : Int) (w : World) : Calls Tryd.prog 67 #[.int .i64 x] w fun e w' => e = .returned (.bool false) ∧ w' = w := by
  have h : (x != x) = false := by simp
  go_enter Tryd.func67, Tryd.ntmps67
  go_wp2
  go_ret
  exact ⟨rfl, rfl⟩
theorem isNaNs_any (x : Int) (w : World) : Calls Tryd.prog 57 #[.int .i64 x] w fun e w' => e = .returned (.bool false) ∧ w' = w := by
  have h : (x != x) = false := by simp
  go_enter Tryd.func57, Tryd.ntmps57
  go_wp2
  go_ret
  exact ⟨rfl, rfl⟩
theorem less_any (x y : Int) (w : World) : Calls Tryd.prog 56 #[.int .i64 x, .int .i64 y] w fun e w' => e = .returned (.bool (decide (x < y))) ∧ w' = w := by
  go_enter Tryd.func56, Tryd.ntmps56
  go_wp2_with (go_at_call 67; refine (isNaNc_any _ _).mono ?_; rintro e wz ⟨rfl, hz⟩; subst wz)
  go_ret
  exact ⟨rfl, rfl⟩

/-- The numbers rise. -/
def Rise (L : List Int) : Prop := ∀ i j (hi : i < L.length) (hj : j < L.length), i < j → L[i] < L[j]

set_option maxHeartbeats 2000000 in
theorem search_some {g off cap : Nat} {L : List Int} {w : World} (hR : Rise L) (hl : L.length ≤ 1000) (x : Int) (hc : ∀ i (hi : i < L.length), w.cell? ⟨g, off + i, none⟩ = some (.int .i64 L[i])) :
    Calls Tryd.prog 45 #[.slice (some ⟨g, off, none⟩) L.length cap, .int .i64 x] w fun e w' => (∃ (k : Nat) (f : Bool), e = .returned (.tuple #[.int .i64 (k : Int), .bool f]) ∧ (f = true → ∃ h : k < L.length, L[k] = x) ∧ (f = false → ∀ i (h : i < L.length), L[i] ≠ x)) ∧ w' = w := by
  have HC : Hid (∀ i (hi : i < L.length), w.cell? ⟨g, off + i, none⟩ = some (.int .i64 L[i])) := hc
  have HR : Hid (Rise L) := hR
  clear hc hR
  go_enter Tryd.func45, Tryd.ntmps45
  go_wp2_with fail
  go_loopw [7, 8, 9] (fun a b _ wr => ∃ i j : Nat, i ≤ j ∧ j ≤ L.length ∧ a = .int .i64 (i : Int) ∧ b = .int .i64 (j : Int) ∧ wr = w ∧ (∀ m (h : m < L.length), m < i → L[m] < x) ∧ (∀ m (h : m < L.length), j ≤ m → x ≤ L[m])) (fun a b _ _ => (intOf b).toNat - (intOf a).toNat)
  case atStart => exact ⟨0, L.length, Nat.zero_le _, Nat.le_refl _, rfl, rfl, rfl, fun m h h2 => absurd h2 (by omega), fun m h h2 => absurd h2 (by omega)⟩
  case round =>
    obtain ⟨i, j, hij, hj, rfl, rfl, rfl, hlo, hhi⟩ := hrel
    have HLo : Hid (∀ m (h : m < L.length), m < i → L[m] < x) := hlo
    have HHi : Hid (∀ m (h : m < L.length), j ≤ m → x ≤ L[m]) := hhi
    clear hlo hhi
    by_cases hlt : i < j
    · have hm : (i + j) / 2 < L.length := by omega
      have hcell := HC.out ((i + j) / 2) hm
      have hsh : ((i : Int) + (j : Int)) / 2 = (((i + j) / 2 : Nat) : Int) := by omega
      have HL : Hid (L[(i + j) / 2] < x → ∀ m (h : m < L.length), m < (i + j) / 2 + 1 → L[m] < x) := fun h m h1 h2 => by
        by_cases he : m = (i + j) / 2
        · subst he; exact h
        · have := HR.out m ((i + j) / 2) h1 hm (by omega); omega
      have HH : Hid (¬ L[(i + j) / 2] < x → ∀ m (h : m < L.length), (i + j) / 2 ≤ m → x ≤ L[m]) := fun h m h1 h2 => by
        by_cases he : m = (i + j) / 2
        · subst he; omega
        · have := HR.out ((i + j) / 2) m hm h1 (by omega); omega
      have hd1 : i ≤ (i + j) / 2 := by omega
      have hd2 : (i + j) / 2 < j := by omega
      generalize hdd : (i + j) / 2 = h at *
      clear hdd
      generalize L[h] = y at *
      go_wp2_with fail
      refine (less_any y x _).mono ?_
      rintro e wz ⟨rfl, hz⟩
      subst wz
      by_cases hy : y < x
      · have H1 : Hid (∀ m (h_1 : m < L.length), m < h + 1 → L[m] < x) := HL.out hy
        have hyd : decide (y < x) = true := decide_eq_true hy
        clear HL HH
        go_wp2
        go_roundw
        case rel => exact ⟨h + 1, j, by omega, hj, by go_num, rfl, by trivial, H1.out, HHi.out⟩
        case measure => simp [intOf]; omega
      · have H1 : Hid (∀ m (h_1 : m < L.length), h ≤ m → x ≤ L[m]) := HH.out (by omega)
        have hyd : decide (y < x) = false := decide_eq_false hy
        clear HL HH
        go_wp2
        go_roundw
        case rel => exact ⟨i, h, by omega, by omega, rfl, rfl, by trivial, HLo.out, H1.out⟩
        case measure => simp [intOf]; omega
    · have hij2 : i = j := by omega
      subst hij2
      by_cases hil : i < L.length
      · have hcell := HC.out i hil
        by_cases he : L[i] = x
        · have HE : Hid (∃ h : i < L.length, L[i] = x) := ⟨hil, he⟩
          rw [he] at hcell
          have hxx : (x == x) = true := by simp
          clear he
          go_wp2_with fail
          go_ret2
          exact ⟨⟨i, true, rfl, fun _ => HE.out, (fun h => by cases h)⟩, rfl⟩
        · have HE : Hid (∀ m (h : m < L.length), L[m] ≠ x) := fun m h e => by
            rcases Nat.lt_trichotomy m i with hm | hm | hm
            · have := HLo.out m h hm; omega
            · subst hm; exact he e
            · have h1 := HR.out i m hil h hm
              have h2 := HHi.out i hil (Nat.le_refl _)
              omega
          have hne : (L[i] == x) = false := by rw [beq_eq_false_iff_ne]; exact he
          clear he
          generalize L[i] = y at *
          go_wp2_with (go_at_call 57; refine (isNaNs_any _ _).mono ?_; rintro e wz ⟨rfl, hz⟩; subst wz)
          go_ret2
          exact ⟨⟨i, false, rfl, (fun h => by cases h), fun _ => HE.out⟩, rfl⟩
      · have HE : Hid (∀ m (h : m < L.length), L[m] ≠ x) := fun m h e => by
          have := HLo.out m h (by omega); omega
        go_wp2_with fail
        go_ret2
        exact ⟨⟨i, false, rfl, (fun h => by cases h), fun _ => HE.out⟩, rfl⟩

theorem search_none (a : Option Addr) (cap : Nat) (x : Int) (w : World) :
    Calls Tryd.prog 45 #[.slice a 0 cap, .int .i64 x] w fun e w' => e = .returned (.tuple #[.int .i64 0, .bool false]) ∧ w' = w := by
  go_enter Tryd.func45, Tryd.ntmps45
  go_wp2
  refine wp_loop_rounds 1 ?_; rw [rounds_succ]
  go_wp2
  go_ret2
  exact ⟨rfl, rfl⟩

theorem search_any {v : Value} {L : List Int} {w : World} (hI : Is w v L) (hR : Rise L) (hl : L.length ≤ 1000) (x : Int) :
    Calls Tryd.prog 45 #[v, .int .i64 x] w fun e w' => (∃ (k : Nat) (f : Bool), e = .returned (.tuple #[.int .i64 (k : Int), .bool f]) ∧ (f = true → ∃ h : k < L.length, L[k] = x) ∧ (f = false → ∀ i (h : i < L.length), L[i] ≠ x)) ∧ w' = w := by
  obtain ⟨a, c, rfl, h1, h2, h3⟩ := hI
  rw [i64s_length]
  by_cases hne : L = []
  · subst hne
    refine (search_none a c x w).mono ?_
    rintro e w' ⟨rfl, rfl⟩
    exact ⟨⟨0, false, rfl, (fun h => by cases h), fun _ i h => absurd h (Nat.not_lt_zero _)⟩, rfl⟩
  · obtain ⟨g, off, rfl, hg, hc⟩ := h3 (by simpa [i64s] using hne)
    exact search_some hR hl x (fun i hi => by rw [hc i (by rw [i64s_length]; exact hi)]; simp [i64s])

end Go.Proofs.YtpgkjfjooogfmaaDoor
