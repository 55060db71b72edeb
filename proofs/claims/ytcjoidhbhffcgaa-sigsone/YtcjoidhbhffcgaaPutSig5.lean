
/- PutSig and PutLocals. -/
import Derived.Test.YtcjoidhbhffcgaaTList5
import Derived.Deep.RegionHeld3
namespace Go.Proofs.Ytcjoidhbhffcgaa
set_option linter.unusedVariables false
set_option linter.unusedSimpArgs false
open Go.RowKit

/-- A signature's first byte, its bytes, the error. -/
def hdN (this : Bool) : Nat := if this then 32 else 0
def sigL (this : Bool) (ts : List Ty) (ret : Ty) : List UInt8 := UInt8.ofNat (hdN this) :: UInt8.ofNat ts.length :: (encT ret ++ encs ts)
def sigE (ts : List Ty) (ret : Ty) : Nat := if 6 < ts.length then 4 else if mayT 3 ret = true ∧ ts.all (mayT 2) = true then 0 else 17
def locL (ts : List Ty) : List UInt8 := 7 :: UInt8.ofNat ts.length :: encs ts
def locE (ts : List Ty) : Nat := if 12 < ts.length then 4 else if ts.all (mayT 2) = true then 0 else 17

/-- What a call that answers bytes leaves. -/
def PutR (w w' : World) (bs : List UInt8) (er : Nat) (e : Ending) : Prop :=
  (er = 0 → ∃ v', e = .returned (.tuple #[v', .int .i64 0]) ∧ Own w' w.heap.size 5 v' bs) ∧ (er ≠ 0 → e = .returned (.tuple #[.slice none 0 0, .int .i64 (er : Int)])) ∧ Below w.heap.size w w'

set_option maxHeartbeats 2000000 in
set_option maxRecDepth 100000 in
theorem putSig_any {w : World} {pv : Value} {ts : List Ty} (hT : Ts w pv ts) (this : Bool) (k i d : Int) (r : Bool) :
    Calls Try.prog 26 #[.agg #[.bool this, pv, .int .i64 k, .int .i64 i, .int .i64 d, .bool r]] w fun e w' => PutR w w' (sigL this ts (k, i, d, r)) (sigE ts (k, i, d, r)) e := by
  obtain ⟨pa, pc, rfl, hp1, hp2, hp3⟩ := id hT
  unfold maxLen at hp2
  have hb0 : Below w.heap.size w (w.alloc (.cells #[.bool this, .slice pa ts.length pc, .int .i64 k, .int .i64 i, .int .i64 d, .bool r] 39)) := (Below.refl _ _).alloc (Nat.le_refl _) _
  have hS0 := At.made w #[.bool this, .slice pa ts.length pc, .int .i64 k, .int .i64 i, .int .i64 d, .bool r] 39
  by_cases h6 : 6 < ts.length
  · have HE : Hid (sigE ts (k, i, d, r) = 4) := by show _ = _; unfold sigE; rw [if_pos h6]
    clear hT hp3 hS0
    go_enter Try.func26, Try.ntmps26
    go_wp2
    go_ret2
    exact ⟨fun h => absurd h (by rw [HE.out]; decide), fun _ => by rw [HE.out]; rfl, hb0⟩
  · have HT : Hid (Ts w (.slice pa ts.length pc) ts) := hT
    have hlen : ts.length ≤ 6 := by omega
    have HPC : Hid (∀ W : World, w.heap.size ≤ W.heap.size → Calls Try.prog 45 #[.int .u8 (hdN this : Int), .slice pa ts.length pc] W fun e w' => ∃ v, e = .returned v ∧ Own w' w.heap.size 5 v [UInt8.ofNat (hdN this), UInt8.ofNat ts.length] ∧ Below W.heap.size W w') := fun W hW => by
      refine (putCount_any (hdN this) (by unfold hdN; split <;> omega) ts.length (by omega) pa pc W w.heap.size hW).mono ?_
      rintro e w' ⟨v, rfl, h1, h2⟩
      exact ⟨v, rfl, h1, h2⟩
    have HKP : Hid (∀ W, At W w.heap.size #[.bool this, .slice pa ts.length pc, .int .i64 k, .int .i64 i, .int .i64 d, .bool r] 39 → W.cell? ⟨w.heap.size, 1, none⟩ = some (.slice pa ts.length pc) ∧ W.cell? ⟨w.heap.size, 2, none⟩ = some (.int .i64 k) ∧ W.cell? ⟨w.heap.size, 3, none⟩ = some (.int .i64 i) ∧ W.cell? ⟨w.heap.size, 4, none⟩ = some (.int .i64 d) ∧ W.cell? ⟨w.heap.size, 5, none⟩ = some (.bool r)) := fun W hW => by
      simp [hW.cell]
    clear hT hp3
    by_cases hm : mayB 3 k i d r = true
    · have HPT : Hid (∀ (W : World) (v : Value), Own W w.heap.size 5 v [UInt8.ofNat (hdN this), UInt8.ofNat ts.length] → w.heap.size ≤ W.heap.size → Calls Try.prog 31 #[v, .agg #[.int .i64 k, .int .i64 i, .int .i64 d, .bool r], .func (.func 40) #[] #[]] W fun e w' => ∃ v', e = .returned (.tuple #[v', .int .i64 0]) ∧ Own w' w.heap.size 5 v' ([UInt8.ofNat (hdN this), UInt8.ofNat ts.length] ++ encB k i d r) ∧ Below w.heap.size W w' ∧ Keeps W w') :=
        fun W v hv hW => putType_yes rule_answer hv hW (by simp) k i d r hm
      have HL : Hid (([UInt8.ofNat (hdN this), UInt8.ofNat ts.length] ++ encB k i d r).length ≤ 1000) := by
        have := enc_len (k, i, d, r) (rule_answer.plainT (k, i, d, r) hm)
        have e : encT (k, i, d, r) = encB k i d r := rfl
        rw [e] at this
        show _ ≤ _
        simp; omega
      have HE1 : Hid (ts.all (mayT 2) = true → sigE ts (k, i, d, r) = 0) := fun h => by unfold sigE; rw [if_neg h6, if_pos ⟨hm, h⟩]
      have HE2 : Hid (ts.all (mayT 2) = false → sigE ts (k, i, d, r) = 17) := fun h => by unfold sigE; rw [if_neg h6, if_neg (by rw [h]; simp)]
      clear hm
      cases this with
      | true =>
        go_enter Try.func26, Try.ntmps26
        go_wp2_with fail
        go_region_held3 (fun w' => w'.cell? ⟨w.heap.size, 1, none⟩ = some (.slice pa ts.length pc) ∧ w'.cell? ⟨w.heap.size, 2, none⟩ = some (.int .i64 k) ∧ w'.cell? ⟨w.heap.size, 3, none⟩ = some (.int .i64 i) ∧ w'.cell? ⟨w.heap.size, 4, none⟩ = some (.int .i64 d) ∧ w'.cell? ⟨w.heap.size, 5, none⟩ = some (.bool r)) (first | go_keep | (exact HKP.out _ hA1) | (exact HKP.out _ hA2))
          (first
            | (go_at_call 45; refine (HPC.out _ (by simp)).mono ?_; rintro e w1 ⟨v1, rfl, ho1, hb1⟩; have hA1 := (hS0.drewN 1).later hb1)
            | (go_at_call 31; refine (HPT.out _ v1 ho1 (by have := hb1.size; simp at this; omega)).mono ?_; rintro e w2 ⟨v2, rfl, ho2, hb2, hk2⟩; have hA2 := hk2 _ _ _ (by decide) hA1))
        rename_i hheld
        clear hheld
        have hB2 : Below w.heap.size w w2 := (Below.drewN hb0 1).trans ((hb1.mono (by simp)).trans hb2)
        have tc := hA2.cell
        have HPs : Hid (Calls Try.prog 46 #[v2, .slice pa ts.length pc, .func (.func 42) #[] #[]] w2 fun e w' =>
            (ts.all (mayT 2) = true → ∃ v', e = .returned (.tuple #[v', .int .i64 0]) ∧ Own w' w.heap.size 5 v' ([UInt8.ofNat (hdN true), UInt8.ofNat ts.length] ++ encB k i d r ++ encs ts)) ∧ (ts.all (mayT 2) = false → e = .returned (.tuple #[.slice none 0 0, .int .i64 17])) ∧ Below w.heap.size w2 w' ∧ Keeps w2 w') :=
          putTypes_any rule_var ho2 hB2.size HL.out (HT.out.later hB2) (by omega) fun hne => HT.out.lt hne
        clear ho1 hb1 hA1 ho2 hb2 hk2 hA2 HPC HPT HKP hS0
        go_wp2_with fail
        refine Calls.mono HPs.out ?_
        rintro e w3 ⟨g1, g2, g3, g4⟩
        rcases hall : ts.all (mayT 2) with _ | _
        · obtain rfl := g2 hall
          have HA : Hid (sigE ts (k, i, d, r) = 17) := HE2.out hall
          clear g1 g2 hall
          go_wp2
          go_ret2
          exact ⟨fun h => absurd h (by rw [HA.out]; decide), fun _ => by rw [HA.out]; rfl, hB2.trans g3⟩
        · obtain ⟨v3, rfl, h3⟩ := g1 hall
          have HA : Hid (sigE ts (k, i, d, r) = 0) := HE1.out hall
          clear g1 g2 hall
          go_wp2
          go_ret2
          exact ⟨fun _ => ⟨_, rfl, by simpa [sigL, encT] using h3⟩, fun h => absurd HA.out h, hB2.trans g3⟩
      | false =>
        go_enter Try.func26, Try.ntmps26
        go_wp2_with fail
        go_region_held3 (fun w' => w'.cell? ⟨w.heap.size, 1, none⟩ = some (.slice pa ts.length pc) ∧ w'.cell? ⟨w.heap.size, 2, none⟩ = some (.int .i64 k) ∧ w'.cell? ⟨w.heap.size, 3, none⟩ = some (.int .i64 i) ∧ w'.cell? ⟨w.heap.size, 4, none⟩ = some (.int .i64 d) ∧ w'.cell? ⟨w.heap.size, 5, none⟩ = some (.bool r)) (first | go_keep | (exact HKP.out _ hA1) | (exact HKP.out _ hA2))
          (first
            | (go_at_call 45; refine (HPC.out _ (by simp)).mono ?_; rintro e w1 ⟨v1, rfl, ho1, hb1⟩; have hA1 := (hS0.drewN 1).later hb1)
            | (go_at_call 31; refine (HPT.out _ v1 ho1 (by have := hb1.size; simp at this; omega)).mono ?_; rintro e w2 ⟨v2, rfl, ho2, hb2, hk2⟩; have hA2 := hk2 _ _ _ (by decide) hA1))
        rename_i hheld
        clear hheld
        have hB2 : Below w.heap.size w w2 := (Below.drewN hb0 1).trans ((hb1.mono (by simp)).trans hb2)
        have tc := hA2.cell
        have HPs : Hid (Calls Try.prog 46 #[v2, .slice pa ts.length pc, .func (.func 42) #[] #[]] w2 fun e w' =>
            (ts.all (mayT 2) = true → ∃ v', e = .returned (.tuple #[v', .int .i64 0]) ∧ Own w' w.heap.size 5 v' ([UInt8.ofNat (hdN false), UInt8.ofNat ts.length] ++ encB k i d r ++ encs ts)) ∧ (ts.all (mayT 2) = false → e = .returned (.tuple #[.slice none 0 0, .int .i64 17])) ∧ Below w.heap.size w2 w' ∧ Keeps w2 w') :=
          putTypes_any rule_var ho2 hB2.size HL.out (HT.out.later hB2) (by omega) fun hne => HT.out.lt hne
        clear ho1 hb1 hA1 ho2 hb2 hk2 hA2 HPC HPT HKP hS0
        go_wp2_with fail
        refine Calls.mono HPs.out ?_
        rintro e w3 ⟨g1, g2, g3, g4⟩
        rcases hall : ts.all (mayT 2) with _ | _
        · obtain rfl := g2 hall
          have HA : Hid (sigE ts (k, i, d, r) = 17) := HE2.out hall
          clear g1 g2 hall
          go_wp2
          go_ret2
          exact ⟨fun h => absurd h (by rw [HA.out]; decide), fun _ => by rw [HA.out]; rfl, hB2.trans g3⟩
        · obtain ⟨v3, rfl, h3⟩ := g1 hall
          have HA : Hid (sigE ts (k, i, d, r) = 0) := HE1.out hall
          clear g1 g2 hall
          go_wp2
          go_ret2
          exact ⟨fun _ => ⟨_, rfl, by simpa [sigL, encT] using h3⟩, fun h => absurd HA.out h, hB2.trans g3⟩
    · have hm' : mayB 3 k i d r = false := by simpa using hm
      have HPT : Hid (∀ (W : World) (v : Value), Calls Try.prog 31 #[v, .agg #[.int .i64 k, .int .i64 i, .int .i64 d, .bool r], .func (.func 40) #[] #[]] W fun e w' => e = .returned (.tuple #[.slice none 0 0, .int .i64 17]) ∧ Below W.heap.size W w') :=
        fun W v => putType_no rule_answer W v k i d r hm'
      have HE : Hid (sigE ts (k, i, d, r) = 17) := by show _ = _; unfold sigE; rw [if_neg h6, if_neg (by simp [mayT, hm'])]
      clear hm hm'
      cases this with
      | true =>
        go_enter Try.func26, Try.ntmps26
        go_wp2_with fail
        go_region_held3 (fun w' => w'.cell? ⟨w.heap.size, 1, none⟩ = some (.slice pa ts.length pc) ∧ w'.cell? ⟨w.heap.size, 2, none⟩ = some (.int .i64 k) ∧ w'.cell? ⟨w.heap.size, 3, none⟩ = some (.int .i64 i) ∧ w'.cell? ⟨w.heap.size, 4, none⟩ = some (.int .i64 d) ∧ w'.cell? ⟨w.heap.size, 5, none⟩ = some (.bool r)) (first | go_keep | (exact HKP.out _ hA1) | (exact HKP.out _ hA2))
          (first
            | (go_at_call 45; refine (HPC.out _ (by simp)).mono ?_; rintro e w1 ⟨v1, rfl, ho1, hb1⟩; have hA1 := (hS0.drewN 1).later hb1)
            | (go_at_call 31; refine (HPT.out _ v1).mono ?_; rintro e w2 ⟨rfl, hb2⟩; have hA2 := hA1.later hb2))
        rename_i hheld
        clear hheld
        have hB2 : Below w.heap.size w w2 := (Below.drewN hb0 1).trans ((hb1.mono (by simp)).trans (hb2.mono (by have := hb1.size; simp at this; omega)))
        clear ho1 hb1 hA1 hb2 hA2 HPC HPT HKP hS0
        go_wp2
        go_ret2
        exact ⟨fun h => absurd h (by rw [HE.out]; decide), fun _ => by rw [HE.out]; rfl, hB2⟩
      | false =>
        go_enter Try.func26, Try.ntmps26
        go_wp2_with fail
        go_region_held3 (fun w' => w'.cell? ⟨w.heap.size, 1, none⟩ = some (.slice pa ts.length pc) ∧ w'.cell? ⟨w.heap.size, 2, none⟩ = some (.int .i64 k) ∧ w'.cell? ⟨w.heap.size, 3, none⟩ = some (.int .i64 i) ∧ w'.cell? ⟨w.heap.size, 4, none⟩ = some (.int .i64 d) ∧ w'.cell? ⟨w.heap.size, 5, none⟩ = some (.bool r)) (first | go_keep | (exact HKP.out _ hA1) | (exact HKP.out _ hA2))
          (first
            | (go_at_call 45; refine (HPC.out _ (by simp)).mono ?_; rintro e w1 ⟨v1, rfl, ho1, hb1⟩; have hA1 := (hS0.drewN 1).later hb1)
            | (go_at_call 31; refine (HPT.out _ v1).mono ?_; rintro e w2 ⟨rfl, hb2⟩; have hA2 := hA1.later hb2))
        rename_i hheld
        clear hheld
        have hB2 : Below w.heap.size w w2 := (Below.drewN hb0 1).trans ((hb1.mono (by simp)).trans (hb2.mono (by have := hb1.size; simp at this; omega)))
        clear ho1 hb1 hA1 hb2 hA2 HPC HPT HKP hS0
        go_wp2
        go_ret2
        exact ⟨fun h => absurd h (by rw [HE.out]; decide), fun _ => by rw [HE.out]; rfl, hB2⟩

set_option maxHeartbeats 1000000 in
set_option maxRecDepth 100000 in
theorem putLocals_any {w : World} {pv : Value} {ts : List Ty} (hT : Ts w pv ts) :
    Calls Try.prog 28 #[pv] w fun e w' => PutR w w' (locL ts) (locE ts) e := by
  obtain ⟨pa, pc, rfl, hp1, hp2, hp3⟩ := id hT
  unfold maxLen at hp2
  by_cases h12 : 12 < ts.length
  · have HE : Hid (locE ts = 4) := by show _ = _; unfold locE; rw [if_pos h12]
    clear hT hp3
    go_enter Try.func28, Try.ntmps28
    go_wp2
    go_ret2
    exact ⟨fun h => absurd h (by rw [HE.out]; decide), fun _ => by rw [HE.out]; rfl, Below.refl _ _⟩
  · have HE1 : Hid (ts.all (mayT 2) = true → locE ts = 0) := fun h => by unfold locE; rw [if_neg h12, if_pos h]
    have HE2 : Hid (ts.all (mayT 2) = false → locE ts = 17) := fun h => by unfold locE; rw [if_neg h12, if_neg (by rw [h]; simp)]
    have HPC : Hid (Calls Try.prog 45 #[.int .u8 7, .slice pa ts.length pc] w fun e w' => ∃ v, e = .returned v ∧ Own w' w.heap.size 5 v [7, UInt8.ofNat ts.length] ∧ Below w.heap.size w w') := putCount_any 7 (by omega) ts.length (by omega) pa pc w w.heap.size (Nat.le_refl _)
    have HT : Hid (Ts w (.slice pa ts.length pc) ts) := hT
    clear hT hp3
    go_enter Try.func28, Try.ntmps28
    go_wp2_with fail
    refine Calls.mono HPC.out ?_
    rintro e w1 ⟨v1, rfl, ho1, hb1⟩
    have HPs : Hid (Calls Try.prog 46 #[v1, .slice pa ts.length pc, .func (.func 42) #[] #[]] w1 fun e w' =>
        (ts.all (mayT 2) = true → ∃ v', e = .returned (.tuple #[v', .int .i64 0]) ∧ Own w' w.heap.size 5 v' ([7, UInt8.ofNat ts.length] ++ encs ts)) ∧ (ts.all (mayT 2) = false → e = .returned (.tuple #[.slice none 0 0, .int .i64 17])) ∧ Below w.heap.size w1 w' ∧ Keeps w1 w') :=
      putTypes_any rule_var ho1 hb1.size (by simp) (HT.out.later hb1) (by omega) fun hne => HT.out.lt hne
    clear ho1
    go_wp2_with fail
    refine Calls.mono HPs.out ?_
    rintro e w3 ⟨g1, g2, g3, g4⟩
    rcases hall : ts.all (mayT 2) with _ | _
    · obtain rfl := g2 hall
      have HA : Hid (locE ts = 17) := HE2.out hall
      clear g1 g2 hall
      go_wp2
      go_ret2
      exact ⟨fun h => absurd h (by rw [HA.out]; decide), fun _ => by rw [HA.out]; rfl, hb1.trans g3⟩
    · obtain ⟨v3, rfl, h3⟩ := g1 hall
      have HA : Hid (locE ts = 0) := HE1.out hall
      clear g1 g2 hall
      go_wp2
      go_ret2
      exact ⟨fun _ => ⟨_, rfl, by simpa [locL] using h3⟩, fun h => absurd HA.out h, hb1.trans g3⟩

end Go.Proofs.Ytcjoidhbhffcgaa
