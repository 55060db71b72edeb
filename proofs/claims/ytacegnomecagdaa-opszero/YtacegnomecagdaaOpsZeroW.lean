
/- OpsZero: the walk. -/
import Derived.Test.YtacegnomecagdaaWakes6
import Derived.Test.YtacegnomecagdaaOpenT
namespace Go.Proofs.Ytacegnomecagdaa
set_option linter.unusedVariables false
set_option linter.unusedSimpArgs false
open Go.RowKit

theorem fitE_ok {op n k i d : Int} {r : Bool} (h : fitE op n k i d r = 0) : (1 ≤ op ∧ op ≤ 75) ∧ fitB (opP op) n k i d r = true := by
  unfold fitE at h
  split at h
  · rename_i hin
    split at h
    · rename_i hf; exact ⟨hin, hf⟩
    · simp at h
  · simp at h
/-- An instruction with a type fits with no number. -/
theorem fitE_arg {op k i d : Int} {r : Bool} (hin : 1 ≤ op ∧ op ≤ 75) (h8 : opP op = 8) : fitE op 1 k i d r = 17 := by
  unfold fitE
  rw [if_pos hin, if_neg]
  unfold fitB
  rw [h8, show bHi 8 = 0 from rfl]
  simp
/-- One without fits with none. -/
theorem fitE_type {op n k i d : Int} {r : Bool} (hin : 1 ≤ op ∧ op ≤ 75) (h8 : ¬ opP op = 8) (hz : zeroB k i d r = false) : fitE op n k i d r = 17 := by
  unfold fitE
  rw [if_pos hin, if_neg]
  unfold fitB
  rw [if_neg h8, hz]
  simp

set_option maxHeartbeats 4000000 in
theorem opsZero_walk (v : Value) (x : Ins) (v1 : Value) (t : Ty) (w : World) (hv : v = iv x) (hv1 : v1 = tv t) :
    Calls Try.prog 6 #[v, v1] w fun e w' => e = .returned (.bool true) ∧ Below w.heap.size w w' := by
  subst hv hv1
  obtain ⟨op, n, k, i, d, r⟩ := x
  obtain ⟨k', i', d', r'⟩ := t
  unfold iv tv
  simp only
  have hz : ∀ W : World, (binOp .eql 37 (.agg #[.int .i64 k', .int .i64 i', .int .i64 d', .bool r']) (.agg #[.int .i64 0, .int .i64 0, .int .i64 0, .bool false])).run Try.prog W = .ok (.bool (zeroB k' i' d' r')) W := fun W => by
    rw [eq_ty]; cases r' <;> rfl
  have hb0 : Below w.heap.size w (w.alloc (.cells #[.int .i64 op, .int .i64 n, .int .i64 k, .int .i64 i, .int .i64 d, .bool r] 39)) := (Below.refl _ _).alloc (Nat.le_refl _) _
  have hA0 := At.made w #[.int .i64 op, .int .i64 n, .int .i64 k, .int .i64 i, .int .i64 d, .bool r] 39
  have hb1 : Below (w.alloc (.cells #[.int .i64 op, .int .i64 n, .int .i64 k, .int .i64 i, .int .i64 d, .bool r] 39)).heap.size (w.alloc (.cells #[.int .i64 op, .int .i64 n, .int .i64 k, .int .i64 i, .int .i64 d, .bool r] 39)) ((w.alloc (.cells #[.int .i64 op, .int .i64 n, .int .i64 k, .int .i64 i, .int .i64 d, .bool r] 39)).alloc (.cells #[.int .i64 k', .int .i64 i', .int .i64 d', .bool r'] 37)) := (Below.refl _ _).alloc (Nat.le_refl _) _
  have hA1 := hA0.later hb1
  have hT1 := At.made (w.alloc (.cells #[.int .i64 op, .int .i64 n, .int .i64 k, .int .i64 i, .int .i64 d, .bool r] 39)) #[.int .i64 k', .int .i64 i', .int .i64 d', .bool r'] 37
  simp only [World.size_alloc] at hT1
  have hB1 := hb0.trans (hb1.mono hb0.size)
  clear hb0 hA0 hb1
  go_enter Try.func6, Try.ntmps6
  go_wp2_with fail
  refine (wakes6_any _).mono ?_
  rintro e w1 ⟨rfl, hb⟩
  have hA2 := hA1.later hb
  have hT2 := hT1.later hb
  have hB2 := hB1.trans (hb.mono hB1.size)
  clear hb hA1 hT1 hB1
  have hbx : Below w1.heap.size w1 (w1.alloc (.cells #[.int .i64 0, .int .i64 0, .int .i64 0, .bool false] 37)) := (Below.refl _ _).alloc (Nat.le_refl _) _
  have hA3 := hA2.later hbx
  have hT3 := hT2.later hbx
  have hZ3 := At.made w1 #[.int .i64 0, .int .i64 0, .int .i64 0, .bool false] 37
  have hB3 := hB2.trans (hbx.mono hB2.size)
  clear hbx hA2 hT2 hB2
  have ac := hA3.cell
  go_wp2_with fail
  refine (fits_any op n k i d r _).mono ?_
  rintro e w2 ⟨rfl, hb⟩
  have hA4 := hA3.later hb
  have hT4 := hT3.later hb
  have hZ4 := hZ3.later hb
  have hB4 := hB3.trans (hb.mono hB3.size)
  clear hb hA3 hT3 hZ3 hB3 ac
  have ac := hA4.cell
  have am := hA4.melt
  have tc := hT4.cell
  have zc := hZ4.cell
  by_cases hf : fitE op n k i d r = 0
  · obtain ⟨hin, hfb⟩ := fitE_ok hf
    rw [hf]
    have HA : Hid (opP op = 8 → ∀ W, Calls Try.prog 13 #[.agg #[.int .i64 op, .int .i64 1, .int .i64 k, .int .i64 i, .int .i64 d, .bool r]] W fun e w' => e = .returned (.int .i64 17) ∧ Below W.heap.size W w') := fun h8 W => by
      have := fits_any op 1 k i d r W
      rwa [fitE_arg hin h8] at this
    have HT : Hid (¬ opP op = 8 → zeroB k' i' d' r' = false → ∀ W, Calls Try.prog 13 #[.agg #[.int .i64 op, .int .i64 n, .int .i64 k', .int .i64 i', .int .i64 d', .bool r']] W fun e w' => e = .returned (.int .i64 17) ∧ Below W.heap.size W w') := fun h8 hz W => by
      have := fits_any op n k' i' d' r' W
      rwa [fitE_type hin h8 hz] at this
    clear hf hfb
    obtain ⟨h1, h2⟩ := hin
    cases hzz : zeroB k' i' d' r' with
    | true =>
      go_wp2_with fail
      go_ret
      exact ⟨rfl, hB4⟩
    | false =>
      go_wp2_with fail
      refine (of_in op h1 h2 _).mono ?_
      rintro e w5 ⟨rfl, hb⟩
      have hA5 := hA4.later hb
      have hT5 := hT4.later hb
      have hB5 := hB4.trans (hb.mono hB4.size)
      have hby : Below w5.heap.size w5 (w5.alloc (.cells #[.string (opS op), .int .i64 (opP op), .int .i64 (opW op)] 24)) := (Below.refl _ _).alloc (Nat.le_refl _) _
      have hA6 := hA5.later hby
      have hT6 := hT5.later hby
      have hX6 := At.made w5 #[.string (opS op), .int .i64 (opP op), .int .i64 (opW op)] 24
      have hB6 := hB5.trans (hby.mono hB5.size)
      clear hb hby hA4 hT4 hZ4 hB4 ac am tc zc hA5 hT5 hB5
      have ac := hA6.cell
      have am := hA6.melt
      have tc := hT6.cell
      have xc := hX6.cell
      generalize opP op = p at *
      generalize opW op = q at *
      generalize opS op = s at *
      by_cases h8 : p = 8
      · have HC : Hid (∀ W, Calls Try.prog 13 #[.agg #[.int .i64 op, .int .i64 1, .int .i64 k, .int .i64 i, .int .i64 d, .bool r]] W fun e w' => e = .returned (.int .i64 17) ∧ Below W.heap.size W w') := HA.out h8
        subst h8
        clear HA HT
        have hA7 := hA6.set 1 (.int .i64 1)
        simp only [List.setIfInBounds_toArray, List.set_cons_succ, List.set_cons_zero] at hA7
        have hB7 := hB6.setCell (p := ⟨w.heap.size, 1, none⟩) (Nat.le_refl _) (.int .i64 1)
        have ac7 := hA7.cell
        clear hA6 hT6 hX6 hB6 tc
        go_wp2_with fail
        refine (HC.out _).mono ?_
        rintro e w8 ⟨rfl, hb⟩
        have hB8 := hB7.trans (hb.mono hB7.size)
        clear hb hB7 ac ac7 am xc
        go_wp2_with fail
        go_ret
        exact ⟨rfl, hB8⟩
      · have h8' : (p == 8) = false := by simpa using h8
        have HC : Hid (∀ W, Calls Try.prog 13 #[.agg #[.int .i64 op, .int .i64 n, .int .i64 k', .int .i64 i', .int .i64 d', .bool r']] W fun e w' => e = .returned (.int .i64 17) ∧ Below W.heap.size W w') := HT.out h8 hzz
        clear HA HT h8
        have hA7 := (((hA6.set 2 (.int .i64 k')).set 3 (.int .i64 i')).set 4 (.int .i64 d')).set 5 (.bool r')
        simp only [List.setIfInBounds_toArray, List.set_cons_succ, List.set_cons_zero] at hA7
        have hB7 := (((hB6.setCell (p := ⟨w.heap.size, 2, none⟩) (Nat.le_refl _) (.int .i64 k')).setCell (p := ⟨w.heap.size, 3, none⟩) (Nat.le_refl _) (.int .i64 i')).setCell (p := ⟨w.heap.size, 4, none⟩) (Nat.le_refl _) (.int .i64 d')).setCell (p := ⟨w.heap.size, 5, none⟩) (Nat.le_refl _) (.bool r')
        have ac7 := hA7.cell
        clear hA6 hT6 hX6 hB6
        go_wp2_with fail
        refine (HC.out _).mono ?_
        rintro e w8 ⟨rfl, hb⟩
        have hB8 := hB7.trans (hb.mono hB7.size)
        clear hb hB7 ac ac7 am xc tc
        go_wp2_with fail
        go_ret
        exact ⟨rfl, hB8⟩
  · have hf' : (fitE op n k i d r != 0) = true := by simpa using hf
    clear hf
    go_wp2_with fail
    go_ret
    exact ⟨rfl, hB4⟩

end Go.Proofs.Ytacegnomecagdaa
