
/- SigsTypes: the walk. -/
import Derived.Test.YtcjoidhbhffcgaaWakes5
import Derived.Test.YtcjoidhbhffcgaaSigMath
import Derived.Test.YtcjoidhbhffcgaaSame
import Derived.Test.YtcjoidhbhffcgaaOpen5
namespace Go.Proofs.Ytcjoidhbhffcgaa
set_option linter.unusedVariables false
set_option linter.unusedSimpArgs false
open Go.RowKit

theorem Own.shape {w : World} {base : Nat} {e : TypeId} {v : Value} {xs : List UInt8} (h : Own w base e v xs) : ∃ a c, v = .slice a xs.length c ∧ xs.length ≤ c ∧ c ≤ maxLen := by
  obtain ⟨a, c, h1, h2, h3, _⟩ := h.bs
  exact ⟨a, c, h1, h2, h3⟩

/-- What is put is got: a type by itself, and a field's. -/
theorem get_put (t : Ty) (hp : plainT t = true) : lastR 0 (encT t) (getT (encT t) 0) = (t, (encT t).length, 0) := by
  have h := get_enc (encT t) [] t 0 (Nat.zero_le _) hp (by simp)
  rw [h]
  unfold lastR
  simp only [Nat.zero_add, ne_eq, not_true_eq_false, if_false, Nat.lt_irrefl]
  rw [if_pos (by rw [may0]; exact hp)]
theorem field_put (t : Ty) (hp : plainT t = true) (hm : mayT 1 t = true) : fieldR (6 :: encT t) = (t, 1 + (encT t).length, 0) := by
  have h := get_enc (6 :: encT t) [] t 1 (by simp) hp (by simp)
  have he : hdE [6] (6 :: encT t) 0 = 0 := by simp [hdE, inB, byV]
  unfold fieldR
  rw [if_neg (by simpa using he), h]
  unfold lastR
  simp only [ne_eq, not_true_eq_false, if_false]
  rw [if_neg (by simp; omega), if_pos hm]

set_option maxHeartbeats 4000000 in
set_option maxRecDepth 100000 in
theorem sigsTypes_walk (v : Value) (t : Ty) (w : World) (hv : v = tv t) :
    Calls Try.prog 3 #[v] w fun e w' => e = .returned (.bool true) ∧ Below w.heap.size w w' := by
  subst hv
  obtain ⟨k, i, d, r⟩ := t
  unfold tv
  simp only
  have hb0 : Below w.heap.size w (w.alloc (.cells #[.int .i64 k, .int .i64 i, .int .i64 d, .bool r] 23)) := (Below.refl _ _).alloc (Nat.le_refl _) _
  have hT0 := At.made w #[.int .i64 k, .int .i64 i, .int .i64 d, .bool r] 23
  have HKP : Hid (∀ W, At W w.heap.size #[.int .i64 k, .int .i64 i, .int .i64 d, .bool r] 23 → W.cell? ⟨w.heap.size, 0, none⟩ = some (.int .i64 k) ∧ W.cell? ⟨w.heap.size, 1, none⟩ = some (.int .i64 i) ∧ W.cell? ⟨w.heap.size, 2, none⟩ = some (.int .i64 d) ∧ W.cell? ⟨w.heap.size, 3, none⟩ = some (.bool r)) := fun W hW => by
    simp [hW.cell]
  go_enter Try.func3, Try.ntmps3
  go_wp2_with fail
  go_region_held3 (fun w' => w'.cell? ⟨w.heap.size, 0, none⟩ = some (.int .i64 k) ∧ w'.cell? ⟨w.heap.size, 1, none⟩ = some (.int .i64 i) ∧ w'.cell? ⟨w.heap.size, 2, none⟩ = some (.int .i64 d) ∧ w'.cell? ⟨w.heap.size, 3, none⟩ = some (.bool r)) (first | go_keep | (exact HKP.out _ hA1) | (exact HKP.out _ hA2) | (exact HKP.out _ hA3))
    (first
      | (go_at_call 8; refine (wakes5_any _).mono ?_; rintro e w1 ⟨rfl, hb1⟩; have hA1 := (hT0.drewN 1).later hb1)
      | (go_at_call 9; refine (plain_any k i d r _).mono ?_; rintro e w2 ⟨rfl, hb2⟩; have hA2 := hA1.later hb2)
      | (go_at_call 10; refine (refPlain_any k i d r _).mono ?_; rintro e w3 ⟨rfl, hb3⟩; have hA3 := hA2.later hb3))
  rename_i hheld
  clear hheld
  have hz1 := hb1.size
  simp at hz1
  have hz2 := hb2.size
  have hB3 : Below w.heap.size w w3 := (Below.drewN hb0 1).trans ((hb1.mono (by simp)).trans ((hb2.mono (by omega)).trans (hb3.mono (by omega))))
  clear hb0 hT0 hA1 hA2 hb1 hb2 hb3 hz1 hz2 HKP
  have tc3 := hA3.cell
  by_cases hp : plainB k i d r = true
  · have HP : Hid (plainT (k, i, d, r) = true) := hp
    have HEl : Hid ((encB k i d r).length ≤ 10) := enc_len (k, i, d, r) hp
    have HGP : Hid (lastR 0 (encB k i d r) (getT (encB k i d r) 0) = ((k, i, d, r), (encB k i d r).length, 0)) := get_put (k, i, d, r) hp
    have HFP : Hid (mayB 1 k i d r = true → fieldR (6 :: encB k i d r) = ((k, i, d, r), 1 + (encB k i d r).length, 0)) := fun h => field_put (k, i, d, r) hp h
    have HPut : Hid (∀ W, Calls Try.prog 11 #[.agg #[.int .i64 k, .int .i64 i, .int .i64 d, .bool r]] W fun e w' => ∃ v, e = .returned (.tuple #[v, .int .i64 0]) ∧ Own w' W.heap.size 5 v (encB k i d r) ∧ Below W.heap.size W w') := fun W => put_yes k i d r W hp
    have HRP : Hid (∀ W, Calls Try.prog 14 #[.agg #[.int .i64 k, .int .i64 i, .int .i64 d, .bool r]] W fun e w' => ∃ v, e = .returned v ∧ Own w' W.heap.size 5 v (encB k i d r) ∧ Below W.heap.size W w') := fun W => refPut5_any k i d r W hp
    go_wp2_with fail
    refine (HPut.out _).mono ?_
    rintro e w4 ⟨v4, rfl, ho4, hb4⟩
    have hA4 := hA3.later hb4
    have hB4 := hB3.trans (hb4.mono hB3.size)
    obtain ⟨a4, c4, rfl, h41, h42⟩ := ho4.shape
    have HB4 : Hid (Bs w4 (.slice a4 (encB k i d r).length c4) (encB k i d r)) := ho4.bs
    clear hb4 ho4 hA3 hB3 tc3 HPut
    have tc4 := hA4.cell
    by_cases hm : mayB 1 k i d r = true
    · have HPF : Hid (∀ W, Calls Try.prog 12 #[.agg #[.int .i64 k, .int .i64 i, .int .i64 d, .bool r]] W fun e w' => ∃ v, e = .returned (.tuple #[v, .int .i64 0]) ∧ Own w' W.heap.size 5 v (6 :: encB k i d r) ∧ Below W.heap.size W w') := fun W => putField_yes k i d r W hm
      have HFP2 : Hid (fieldR (6 :: encB k i d r) = ((k, i, d, r), 1 + (encB k i d r).length, 0)) := HFP.out hm
      clear HFP
      go_wp2_with fail
      refine (HPF.out _).mono ?_
      rintro e w5 ⟨v5, rfl, ho5, hb5⟩
      have hA5 := hA4.later hb5
      have hB5 := hB4.trans (hb5.mono hB4.size)
      obtain ⟨a5, c5, rfl, h51, h52⟩ := ho5.shape
      have HB5 : Hid (Bs w5 (.slice a5 (6 :: encB k i d r).length c5) (6 :: encB k i d r)) := ho5.bs
      have HB45 : Hid (Bs w5 (.slice a4 (encB k i d r).length c4) (encB k i d r)) := HB4.out.later hb5
      clear hb5 ho5 hA4 hB4 tc4 HPF HB4
      have tc5 := hA5.cell
      go_wp2_with fail
      refine (refPlain_any k i d r _).mono ?_
      rintro e w6 ⟨rfl, hb6⟩
      have hA6 := hA5.later hb6
      have hB6 := hB5.trans (hb6.mono hB5.size)
      have HB56 : Hid (Bs w6 (.slice a5 (6 :: encB k i d r).length c5) (6 :: encB k i d r)) := HB5.out.later hb6
      have HB46 : Hid (Bs w6 (.slice a4 (encB k i d r).length c4) (encB k i d r)) := HB45.out.later hb6
      clear hb6 hA5 hB5 tc5 HB5 HB45
      have tc6 := hA6.cell
      go_wp2_with fail
      refine (HRP.out _).mono ?_
      rintro e w7 ⟨v7, rfl, ho7, hb7⟩
      have hA7 := hA6.later hb7
      have hB7 := hB6.trans (hb7.mono hB6.size)
      have HB57 : Hid (Bs w7 (.slice a5 (6 :: encB k i d r).length c5) (6 :: encB k i d r)) := HB56.out.later hb7
      have HB47 : Hid (Bs w7 (.slice a4 (encB k i d r).length c4) (encB k i d r)) := HB46.out.later hb7
      have HSm : Hid (Calls Try.prog 13 #[.slice a4 (encB k i d r).length c4, v7] w7 fun e w' => e = .returned (.bool true) ∧ ∃ n, w' = w7.drewN n) := by
        have := same_any HB47.out ho7.bs
        rw [decide_eq_true rfl] at this
        exact this
      clear hb7 ho7 hA6 hB6 tc6 HB56 HB46 HRP
      go_wp2_with fail
      refine Calls.mono HSm.out ?_
      rintro e w8 ⟨rfl, n8, rfl⟩
      have tc7 := hA7.cell
      have HGet : Hid (Calls Try.prog 15 #[.slice a4 (encB k i d r).length c4] (w7.drewN n8) fun e w' => GotT (w7.drewN n8) w' ((k, i, d, r), (encB k i d r).length, 0) e) := by
        have := get_any (HB47.out.drewN n8) (by have := HEl.out; omega)
        rw [HGP.out] at this
        exact this
      go_wp2_with fail
      refine Calls.mono HGet.out ?_
      rintro e w9 ⟨rfl, hb9⟩
      simp only
      have hA9 := (hA7.drewN n8).later hb9
      have hB9 := (Below.drewN hB7 n8).trans (hb9.mono hB7.size)
      have hX := At.made w9 #[.int .i64 k, .int .i64 i, .int .i64 d, .bool r] 23
      have hbx : Below w9.heap.size w9 (w9.alloc (.cells #[.int .i64 k, .int .i64 i, .int .i64 d, .bool r] 23)) := (Below.refl _ _).alloc (Nat.le_refl _) _
      have hA10 := hA9.later hbx
      have hB10 := hB9.trans (hbx.mono hB9.size)
      have HB5x : Hid (Bs (w9.alloc (.cells #[.int .i64 k, .int .i64 i, .int .i64 d, .bool r] 23)) (.slice a5 (6 :: encB k i d r).length c5) (6 :: encB k i d r)) := ((HB57.out.drewN n8).later hb9).later hbx
      clear hb9 hA7 hB7 HB57 HB47 HSm HGet tc7 hA9 hB9 hbx
      have xc := hX.cell
      have tc10 := hA10.cell
      go_wp2_with fail
      refine (where1_any k i d r _).mono ?_
      rintro e w11 ⟨rfl, hb11⟩
      have hA11 := hA10.later hb11
      have hB11 := hB10.trans (hb11.mono hB10.size)
      have HGF : Hid (Calls Try.prog 17 #[.slice a5 (6 :: encB k i d r).length c5] w11 fun e w' => GotT w11 w' ((k, i, d, r), 1 + (encB k i d r).length, 0) e) := by
        have := getField_any (HB5x.out.later hb11) (by have := HEl.out; simp; omega)
        rw [HFP2.out] at this
        exact this
      clear hb11 hA10 hB10 hX xc tc10 HB5x
      go_wp2_with fail
      refine Calls.mono HGF.out ?_
      rintro e w12 ⟨rfl, hb12⟩
      simp only
      have hA12 := hA11.later hb12
      have hB12 := hB11.trans (hb12.mono hB11.size)
      have hY := At.made w12 #[.int .i64 k, .int .i64 i, .int .i64 d, .bool r] 23
      have hbx : Below w12.heap.size w12 (w12.alloc (.cells #[.int .i64 k, .int .i64 i, .int .i64 d, .bool r] 23)) := (Below.refl _ _).alloc (Nat.le_refl _) _
      have hA13 := hA12.later hbx
      have hB13 := hB12.trans (hbx.mono hB12.size)
      have hel := HEl.out
      clear hb12 hA11 hB11 hA12 hB12 hbx HGF
      have yc := hY.cell
      have tc13 := hA13.cell
      go_wp2
      go_ret
      exact ⟨rfl, hB13⟩
    · have hm' : mayB 1 k i d r = false := by simpa using hm
      have HPF : Hid (∀ W, Calls Try.prog 12 #[.agg #[.int .i64 k, .int .i64 i, .int .i64 d, .bool r]] W fun e w' => e = .returned (.tuple #[.slice none 0 0, .int .i64 17]) ∧ Below W.heap.size W w') := fun W => putField_no k i d r W hm'
      clear HFP hm
      go_wp2_with fail
      refine (HPF.out _).mono ?_
      rintro e w5 ⟨rfl, hb5⟩
      have hA5 := hA4.later hb5
      have hB5 := hB4.trans (hb5.mono hB4.size)
      have HB45 : Hid (Bs w5 (.slice a4 (encB k i d r).length c4) (encB k i d r)) := HB4.out.later hb5
      clear hb5 hA4 hB4 tc4 HPF HB4
      have tc5 := hA5.cell
      go_wp2_with fail
      refine (refPlain_any k i d r _).mono ?_
      rintro e w6 ⟨rfl, hb6⟩
      have hA6 := hA5.later hb6
      have hB6 := hB5.trans (hb6.mono hB5.size)
      have HB46 : Hid (Bs w6 (.slice a4 (encB k i d r).length c4) (encB k i d r)) := HB45.out.later hb6
      clear hb6 hA5 hB5 tc5 HB45
      have tc6 := hA6.cell
      go_wp2_with fail
      refine (HRP.out _).mono ?_
      rintro e w7 ⟨v7, rfl, ho7, hb7⟩
      have hA7 := hA6.later hb7
      have hB7 := hB6.trans (hb7.mono hB6.size)
      have HB47 : Hid (Bs w7 (.slice a4 (encB k i d r).length c4) (encB k i d r)) := HB46.out.later hb7
      have HSm : Hid (Calls Try.prog 13 #[.slice a4 (encB k i d r).length c4, v7] w7 fun e w' => e = .returned (.bool true) ∧ ∃ n, w' = w7.drewN n) := by
        have := same_any HB47.out ho7.bs
        rw [decide_eq_true rfl] at this
        exact this
      clear hb7 ho7 hA6 hB6 tc6 HB46 HRP
      go_wp2_with fail
      refine Calls.mono HSm.out ?_
      rintro e w8 ⟨rfl, n8, rfl⟩
      have tc7 := hA7.cell
      have HGet : Hid (Calls Try.prog 15 #[.slice a4 (encB k i d r).length c4] (w7.drewN n8) fun e w' => GotT (w7.drewN n8) w' ((k, i, d, r), (encB k i d r).length, 0) e) := by
        have := get_any (HB47.out.drewN n8) (by have := HEl.out; omega)
        rw [HGP.out] at this
        exact this
      go_wp2_with fail
      refine Calls.mono HGet.out ?_
      rintro e w9 ⟨rfl, hb9⟩
      simp only
      have hA9 := (hA7.drewN n8).later hb9
      have hB9 := (Below.drewN hB7 n8).trans (hb9.mono hB7.size)
      have hX := At.made w9 #[.int .i64 k, .int .i64 i, .int .i64 d, .bool r] 23
      have hbx : Below w9.heap.size w9 (w9.alloc (.cells #[.int .i64 k, .int .i64 i, .int .i64 d, .bool r] 23)) := (Below.refl _ _).alloc (Nat.le_refl _) _
      have hA10 := hA9.later hbx
      have hB10 := hB9.trans (hbx.mono hB9.size)
      clear hb9 hA7 hB7 HB47 HSm HGet tc7 hA9 hB9 hbx
      have xc := hX.cell
      have tc10 := hA10.cell
      go_wp2_with fail
      refine (where1_any k i d r _).mono ?_
      rintro e w11 ⟨rfl, hb11⟩
      have hA11 := hA10.later hb11
      have hB11 := hB10.trans (hb11.mono hB10.size)
      clear hb11 hA10 hB10 hX xc tc10 hA11
      go_wp2
      go_ret
      exact ⟨rfl, hB11⟩
  · have hp' : plainB k i d r = false := by simpa using hp
    have hm' : mayB 1 k i d r = false := by simp [mayB, hp']
    have HPut : Hid (∀ W, Calls Try.prog 11 #[.agg #[.int .i64 k, .int .i64 i, .int .i64 d, .bool r]] W fun e w' => e = .returned (.tuple #[.slice none 0 0, .int .i64 17]) ∧ Below W.heap.size W w') := fun W => put_no k i d r W hp'
    have HPF : Hid (∀ W, Calls Try.prog 12 #[.agg #[.int .i64 k, .int .i64 i, .int .i64 d, .bool r]] W fun e w' => e = .returned (.tuple #[.slice none 0 0, .int .i64 17]) ∧ Below W.heap.size W w') := fun W => putField_no k i d r W hm'
    clear hp hm'
    go_wp2_with fail
    refine (HPut.out _).mono ?_
    rintro e w4 ⟨rfl, hb4⟩
    have hA4 := hA3.later hb4
    have hB4 := hB3.trans (hb4.mono hB3.size)
    clear hb4 hA3 hB3 tc3 HPut
    have tc4 := hA4.cell
    go_wp2_with fail
    refine (HPF.out _).mono ?_
    rintro e w5 ⟨rfl, hb5⟩
    have hA5 := hA4.later hb5
    have hB5 := hB4.trans (hb5.mono hB4.size)
    clear hb5 hA4 hB4 tc4 HPF
    have tc5 := hA5.cell
    go_wp2_with fail
    refine (refPlain_any k i d r _).mono ?_
    rintro e w6 ⟨rfl, hb6⟩
    have hB6 := hB5.trans (hb6.mono hB5.size)
    clear hb6 hB5 tc5 hA5
    go_wp2
    go_ret
    exact ⟨rfl, hB6⟩

end Go.Proofs.Ytcjoidhbhffcgaa
