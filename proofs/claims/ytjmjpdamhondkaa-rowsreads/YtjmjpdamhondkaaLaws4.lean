
/- Write as the statements use it; what layer 4's statements ask first. -/
import Derived.Test.YtjmjpdamhondkaaWriteYes4
namespace Go.Proofs.Ytjmjpdamhondkaa
set_option linter.unusedVariables false
set_option linter.unusedSimpArgs false
open Go.RowKit Go.Maps

theorem write_any {w : World} {v : Value} {T : List (List (List Int))} (entry : Int) (hv : In3 w v T) (hsm : SmallT T) (hen : entry < 9223372036854775808) :
    Calls Try.prog 14 #[.agg #[.int .i64 entry, v]] w fun e w' => ∃ bv, e = .returned (.tuple #[bv, .int .i64 ((writeR ⟨entry, T⟩).2 : Int)]) ∧ Bs w' bv (writeR ⟨entry, T⟩).1 ∧ Below w.heap.size w w' := by
  unfold writeR
  by_cases h1 : T.length ≠ 6 ∨ shaped 0 T = false
  · rw [if_pos h1]
    refine (write_arg entry hv ?_).mono ?_
    · rcases h1 with h | h
      · simp [h]
      · simp [h]
    · rintro e w' ⟨rfl, hb⟩
      exact ⟨_, rfl, Bs.nil w', hb⟩
  · rw [if_neg h1]
    have h6 : T.length = 6 := by
      rcases Nat.decEq T.length 6 with e | e
      · exact absurd (.inl e) h1
      · exact e
    have hsh : shaped 0 T = true := by
      cases e : shaped 0 T with
      | false => exact absurd (.inr e) h1
      | true => rfl
    by_cases h2 : fitsR entry 2 = false ∨ fitting 0 T = false
    · rw [if_pos h2]
      refine (write_rng entry hv h6 hsh hsm hen ?_).mono ?_
      · rcases h2 with h | h
        · simp [h]
        · simp [h]
      · rintro e w' ⟨rfl, hb⟩
        exact ⟨_, rfl, Bs.nil w', hb⟩
    · rw [if_neg h2]
      have he : fitsR entry 2 = true := by
        cases e : fitsR entry 2 with
        | false => exact absurd (.inl e) h2
        | true => rfl
      have hf : fitting 0 T = true := by
        cases e : fitting 0 T with
        | false => exact absurd (.inr e) h2
        | true => rfl
      exact write_yes entry hv h6 hsh he hf hsm

/-- Write, where it is known what it answers. -/
theorem write_of {w : World} {v : Value} {T : List (List (List Int))} (entry : Int) (hv : In3 w v T) (hsm : SmallT T) (hen : entry < 9223372036854775808) {b : List UInt8} {c : Nat} (h : writeR ⟨entry, T⟩ = (b, c)) (y : Int) (hy : y = c) :
    Calls Try.prog 14 #[.agg #[.int .i64 entry, v]] w fun e w' => ∃ a cp, e = .returned (.tuple #[.slice a b.length cp, .int .i64 y]) ∧ Bs w' (.slice a b.length cp) b ∧ Below w.heap.size w w' := by
  refine (write_any entry hv hsm hen).mono ?_
  rw [h]
  rintro e w' ⟨bv, rfl, hb, hbl⟩
  have hb' := hb
  obtain ⟨a, cp, rfl, -⟩ := hb
  subst hy
  exact ⟨a, cp, rfl, hb', hbl⟩

/-- Six tables without rows. -/
theorem six_none (w : World) (e : TypeId) : In3 (w.alloc (Obj.cells #[.slice none 0 0, .slice none 0 0, .slice none 0 0, .slice none 0 0, .slice none 0 0, .slice none 0 0] e)) (.slice (some ⟨w.heap.size, 0, none⟩) 6 6) [[], [], [], [], [], []] := by
  refine ⟨[.slice none 0 0, .slice none 0 0, .slice none 0 0, .slice none 0 0, .slice none 0 0, .slice none 0 0], rfl, Sl.made w _ _ e 6 rfl rfl (by decide), fun i h g => ?_⟩
  have h6 : i < 6 := by simpa using h
  have : i = 0 ∨ i = 1 ∨ i = 2 ∨ i = 3 ∨ i = 4 ∨ i = 5 := by omega
  rcases this with rfl | rfl | rfl | rfl | rfl | rfl <;> exact Ns.nil _ _

theorem Try.infoTab : (Try.prog.info? 65).map (fun i => (i.zero, i.size, i.bytes)) = some (some (.slice none 0 0), 1, 24) := by kernel_rfl
theorem run_make_six (w : World) :
    (Instr.makeSlice 24 (.int .i64 6) (.int .i64 6)).run Try.prog w = .ok (.slice (some ⟨w.heap.size, 0, none⟩) 6 6) (w.alloc (.cells #[.slice none 0 0, .slice none 0 0, .slice none 0 0, .slice none 0 0, .slice none 0 0, .slice none 0 0] 65)) := by
  obtain ⟨i, hi, hz0, hz1, hz2⟩ := info_parts Try.infoTab
  have := run_make (P := Try.prog) w 24 65 i (.slice none 0 0) Try.underlying24 hi hz0 .i64 .i64 6 6 (by omega) (by omega) (by rw [hz2]; omega) (by omega)
  rw [this, hz1]
  have e : madeCells (Value.slice none 0 0).cells (Int.toNat 6 * 1) = #[.slice none 0 0, .slice none 0 0, .slice none 0 0, .slice none 0 0, .slice none 0 0, .slice none 0 0] := by
    apply Array.ext
    · simp [madeCells]
    · intro i h1 h2
      have h6 : i < 6 := by simpa using h2
      have : i = 0 ∨ i = 1 ∨ i = 2 ∨ i = 3 ∨ i = 4 ∨ i = 5 := by omega
      rcases this with rfl | rfl | rfl | rfl | rfl | rfl <;> simp [madeCells, Value.cells]
  rw [e]
  rfl

set_option maxHeartbeats 1000000 in
theorem wakes4_any (w : World) :
    Calls Try.prog 8 #[] w fun e w' => e = .returned (.bool true) ∧ Below w.heap.size w w' := by
  have HW : Hid (writeR ⟨0, [[], [], [], [], [], []]⟩ = ([0, 0, 0, 0], 0)) := by show _ = _; decide
  have HSM : Hid (SmallT [[], [], [], [], [], []]) := by
    intro l hl row hr
    simp at hl; subst hl; simp at hr
  go_enter Try.func8, Try.ntmps8
  have hmk := run_make_six w
  go_wp2_with fail
  refine (write_of 0 (six_none w _) HSM.out (by omega) HW.out 0 rfl).mono ?_
  rintro e w1 ⟨a, cp, rfl, hb, hbl⟩
  have hcv : (convert 22 9 (.slice a 4 cp)).run Try.prog w1 = .ok (.string ⟨#[0, 0, 0, 0]⟩) w1 := convert_bs hb
  have HB1 : Hid (Below w.heap.size w w1) := ((Below.refl _ _).alloc (Nat.le_refl _) _).trans (hbl.mono (by simp))
  clear hb hbl hmk
  have HCD : Hid (∀ W, Calls Try.prog 17 #[.int .i64 4, .int .i64 2] W fun e w' => e = .returned (.tuple #[.int .i64 10, .int .i64 0]) ∧ w' = W) := fun W => code_any 4 2 W
  go_wp2_with (go_at_call 17; refine (HCD.out _).mono ?_; rintro e wz ⟨rfl, hz⟩; subst wz)
  go_ret
  exact ⟨rfl, HB1.out⟩

end Go.Proofs.Ytjmjpdamhondkaa
