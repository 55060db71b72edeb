
/- Named. -/
import Derived.Test.YtacegnomecagdaaOf6
namespace Go.Proofs.Ytacegnomecagdaa
set_option linter.unusedVariables false
set_option linter.unusedSimpArgs false
open Go.RowKit

/-- The first of that name, from nought on. -/
def nmF (s : ByteArray) : Option Nat := (List.range 75).find? fun k => (opS ((k : Int) + 1)).toList == s.toList
def nmI (s : ByteArray) : Int := match nmF s with | some k => (k : Int) + 1 | none => 0
def nmE (s : ByteArray) : Int := match nmF s with | some _ => 0 | none => 18

theorem nmF_some {s : ByteArray} {k : Nat} (hk : k < 75) (h : ((opS ((k : Int) + 1)).toList == s.toList) = true) (hl : ∀ j : Nat, j < k → ((opS ((j : Int) + 1)).toList == s.toList) = false) : nmF s = some k := by
  unfold nmF
  rw [List.find?_range_eq_some]
  exact ⟨h, by simpa using hk, fun j hj => by rw [hl j hj]; rfl⟩
theorem nmF_none {s : ByteArray} (hl : ∀ j : Nat, j < 75 → ((opS ((j : Int) + 1)).toList == s.toList) = false) : nmF s = none := by
  unfold nmF
  rw [List.find?_eq_none]
  intro j hj
  rw [hl j (by simpa using hj)]; simp

theorem field_name (W : World) (s : ByteArray) (p f : Int) : (Instr.field 24 (.agg #[.string s, .int .i64 p, .int .i64 f]) 0).run Try.prog W = .ok (.string s) W := by
  simp [Instr.field, run_underlying Try.underlying24, go_sem]
  rfl

set_option maxHeartbeats 1000000 in
theorem named_any (s : ByteArray) (w : World) :
    Calls Try.prog 11 #[.string s] w fun e w' => e = .returned (.tuple #[.int .i64 (nmI s), .int .i64 (nmE s)]) ∧ Below w.heap.size w w' := by
  have HB0 : Hid (Below w.heap.size w w) := Below.refl _ _
  have hfl := field_name
  go_enter Try.func11, Try.ntmps11
  go_wp2_with (go_at_call 15; refine (many_any _).mono ?_; rintro e wz ⟨rfl, hz⟩; subst wz)
  go_loopw [6] (fun i wr => ∃ k : Nat, k ≤ 75 ∧ i = .int .i64 (k : Int) ∧ (∀ j : Nat, j < k → ((opS ((j : Int) + 1)).toList == s.toList) = false) ∧ Below w.heap.size w wr) (fun i _ => 75 - (intOf i).toNat)
  case atStart => exact ⟨0, Nat.zero_le _, rfl, fun j hj => absurd hj (Nat.not_lt_zero _), HB0.out⟩
  case round =>
    obtain ⟨k, hk, rfl, hl, hb⟩ := hrel
    have HL : Hid (∀ j : Nat, j < k → ((opS ((j : Int) + 1)).toList == s.toList) = false) := hl
    have HBr : Hid (Below w.heap.size w wr) := hb
    clear hl hb
    by_cases hlt : k < 75
    · go_wp2_with fail
      refine (infoOf_any ((k : Int) + 1) _).mono ?_
      rintro e w1 ⟨rfl, hb⟩
      have HB1 : Hid (Below w.heap.size w w1) := HBr.out.trans (hb.mono HBr.out.size)
      clear hb
      cases hq : ((opS ((k : Int) + 1)).toList == s.toList) with
      | true =>
        have HF : Hid (nmF s = some k) := nmF_some hlt hq HL.out
        go_wp2_with fail
        go_ret2
        exact ⟨ret_int2 (by unfold nmI; rw [HF.out]) (by unfold nmE; rw [HF.out]), HB1.out⟩
      | false =>
        have HL1 : Hid (∀ j : Nat, j < k + 1 → ((opS ((j : Int) + 1)).toList == s.toList) = false) := fun j hj => by
          by_cases e : j = k
          · subst e; exact hq
          · exact HL.out j (by omega)
        go_wp2_with fail
        go_roundw
        case rel => exact ⟨k + 1, by omega, by go_num, HL1.out, HB1.out⟩
        case measure => simp [intOf]; omega
    · have e : k = 75 := by omega
      subst e
      have HF : Hid (nmF s = none) := nmF_none HL.out
      go_wp2_with fail
      go_ret2
      exact ⟨ret_int2 (by unfold nmI; rw [HF.out]) (by unfold nmE; rw [HF.out]), HBr.out⟩

/-- Each is led back to by its name: no two have one name. -/
theorem nm_all : ∀ k : Nat, k < 75 → ∀ j : Nat, j < 75 → (opI ((j : Int) + 1)).1 = (opI ((k : Int) + 1)).1 → j = k := by decide +kernel
theorem nmF_op {n : Int} (h1 : 1 ≤ n) (h2 : n ≤ 75) : nmF (opS n) = some (n - 1).toNat := by
  have hn : (((n - 1).toNat : Int) + 1) = n := by omega
  refine nmF_some (by omega) (by rw [hn]; simp) fun j hj => ?_
  rw [beq_eq_false_iff_ne]
  intro e
  rw [Lib.toList_data, Lib.toList_data] at e
  have := nm_all (n - 1).toNat (by omega) j (by omega) (by rw [hn]; simpa [opS] using e)
  omega

end Go.Proofs.Ytacegnomecagdaa
