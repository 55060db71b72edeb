/- Texts joined: PutSig5, ImSpec, Ints. -/
import Derived.Test.YtclmafoelibihaaGreatJ15
import Derived.Deep.RegionHeld3
import Derived.Test.YtclmafoelibihaaGreatJ06
import Derived.Test.YtclmafoelibihaaGreatJ07
import Derived.Test.YtclmafoelibihaaGreatJ01
import Derived.Test.YtclmafoelibihaaGreatJ05
import Derived.Test.YtclmafoelibihaaGreatRows
import Derived.Test.YtclmafoelibihaaGreatJ02
import Derived.Test.YtclmafoelibihaaGreatJ08
/- PutSig and PutLocals. -/
namespace Go.Proofs.YtclmafoelibihaaGreat
set_option linter.unusedVariables false
set_option linter.unusedSimpArgs false
open Go.RowKit

/-- A signature's first byte, its bytes, the error. -/
def hdN (this : Bool) : Nat := if this then 32 else 0
def sigL (this : Bool) (ts : List Ty) (ret : Ty) : List UInt8 := UInt8.ofNat (hdN this) :: UInt8.ofNat ts.length :: (encT ret ++ encs ts)
def sigE (ts : List Ty) (ret : Ty) : Nat := if 6 < ts.length then 4 else if mayT 3 ret = true ∧ ts.all (mayT 2) = true then 0 else 17
def locL (ts : List Ty) : List UInt8 := 7 :: UInt8.ofNat ts.length :: encs ts
def locE (ts : List Ty) : Nat := if 12 < ts.length then 4 else if ts.all (mayT 2) = true then 0 else 17

/-- What a call that answers bytes leaves. -/
def PutR (w w' : World) (bs : List UInt8) (er : Nat) (e : Ending) : Prop :=
  (er = 0 → ∃ v', e = .returned (.tuple #[v', .int .i64 0]) ∧ Own w' w.heap.size 5 v' bs) ∧ (er ≠ 0 → e = .returned (.tuple #[.slice none 0 0, .int .i64 (er : Int)])) ∧ Below w.heap.size w w'

set_option maxHeartbeats 2000000 in
set_option maxRecDepth 100000 in
theorem putSig_any {w : World} {pv : Value} {ts : List Ty} (hT : Ts w pv ts) (this : Bool) (k i d : Int) (r : Bool) :
    Calls Tryz.prog 123 #[.agg #[.bool this, pv, .int .i64 k, .int .i64 i, .int .i64 d, .bool r]] w fun e w' => PutR w w' (sigL this ts (k, i, d, r)) (sigE ts (k, i, d, r)) e := by
  obtain ⟨pa, pc, rfl, hp1, hp2, hp3⟩ := id hT
  unfold maxLen at hp2
  have hb0 : Below w.heap.size w (w.alloc (.cells #[.bool this, .slice pa ts.length pc, .int .i64 k, .int .i64 i, .int .i64 d, .bool r] 120)) := (Below.refl _ _).alloc (Nat.le_refl _) _
  have hS0 := At.made w #[.bool this, .slice pa ts.length pc, .int .i64 k, .int .i64 i, .int .i64 d, .bool r] 120
  by_cases h6 : 6 < ts.length
  · have HE : Hid (sigE ts (k, i, d, r) = 4) := by show _ = _; unfold sigE; rw [if_pos h6]
    clear hT hp3 hS0
    go_enter Tryz.func123, Tryz.ntmps123
    go_wp2
    go_ret2
    exact ⟨fun h => absurd h (by rw [HE.out]; decide), fun _ => by rw [HE.out]; rfl, hb0⟩
  · have HT : Hid (Ts w (.slice pa ts.length pc) ts) := hT
    have hlen : ts.length ≤ 6 := by omega
    have HPC : Hid (∀ W : World, w.heap.size ≤ W.heap.size → Calls Tryz.prog 148 #[.int .u8 (hdN this : Int), .slice pa ts.length pc] W fun e w' => ∃ v, e = .returned v ∧ Own w' w.heap.size 5 v [UInt8.ofNat (hdN this), UInt8.ofNat ts.length] ∧ Below W.heap.size W w') := fun W hW => by
      refine (putCount_any (hdN this) (by unfold hdN; split <;> omega) ts.length (by omega) pa pc W w.heap.size hW).mono ?_
      rintro e w' ⟨v, rfl, h1, h2⟩
      exact ⟨v, rfl, h1, h2⟩
    have HKP : Hid (∀ W, At W w.heap.size #[.bool this, .slice pa ts.length pc, .int .i64 k, .int .i64 i, .int .i64 d, .bool r] 120 → W.cell? ⟨w.heap.size, 1, none⟩ = some (.slice pa ts.length pc) ∧ W.cell? ⟨w.heap.size, 2, none⟩ = some (.int .i64 k) ∧ W.cell? ⟨w.heap.size, 3, none⟩ = some (.int .i64 i) ∧ W.cell? ⟨w.heap.size, 4, none⟩ = some (.int .i64 d) ∧ W.cell? ⟨w.heap.size, 5, none⟩ = some (.bool r)) := fun W hW => by
      simp [hW.cell]
    clear hT hp3
    by_cases hm : mayB 3 k i d r = true
    · have HPT : Hid (∀ (W : World) (v : Value), Own W w.heap.size 5 v [UInt8.ofNat (hdN this), UInt8.ofNat ts.length] → w.heap.size ≤ W.heap.size → Calls Tryz.prog 146 #[v, .agg #[.int .i64 k, .int .i64 i, .int .i64 d, .bool r], .func (.func 149) #[] #[]] W fun e w' => ∃ v', e = .returned (.tuple #[v', .int .i64 0]) ∧ Own w' w.heap.size 5 v' ([UInt8.ofNat (hdN this), UInt8.ofNat ts.length] ++ encB k i d r) ∧ Below w.heap.size W w' ∧ Keeps W w') :=
        fun W v hv hW => putType_yes rule_answer hv hW (by simp) k i d r hm
      have HL : Hid (([UInt8.ofNat (hdN this), UInt8.ofNat ts.length] ++ encB k i d r).length ≤ 1000) := by
        have := enc_len (k, i, d, r) (rule_answer.plainT (k, i, d, r) hm)
        have e : encT (k, i, d, r) = encB k i d r := rfl
        rw [e] at this
        show _ ≤ _
        simp; omega
      have HE1 : Hid (ts.all (mayT 2) = true → sigE ts (k, i, d, r) = 0) := fun h => by unfold sigE; rw [if_neg h6, if_pos ⟨hm, h⟩]
      have HE2 : Hid (ts.all (mayT 2) = false → sigE ts (k, i, d, r) = 17) := fun h => by unfold sigE; rw [if_neg h6, if_neg (by rw [h]; simp)]
      clear hm
      cases this with
      | true =>
        go_enter Tryz.func123, Tryz.ntmps123
        go_wp2_with fail
        go_region_held3 (fun w' => w'.cell? ⟨w.heap.size, 1, none⟩ = some (.slice pa ts.length pc) ∧ w'.cell? ⟨w.heap.size, 2, none⟩ = some (.int .i64 k) ∧ w'.cell? ⟨w.heap.size, 3, none⟩ = some (.int .i64 i) ∧ w'.cell? ⟨w.heap.size, 4, none⟩ = some (.int .i64 d) ∧ w'.cell? ⟨w.heap.size, 5, none⟩ = some (.bool r)) (first | go_keep | (exact HKP.out _ hA1) | (exact HKP.out _ hA2))
          (first
            | (go_at_call 148; refine (HPC.out _ (by simp)).mono ?_; rintro e w1 ⟨v1, rfl, ho1, hb1⟩; have hA1 := (hS0.drewN 1).later hb1)
            | (go_at_call 146; refine (HPT.out _ v1 ho1 (by have := hb1.size; simp at this; omega)).mono ?_; rintro e w2 ⟨v2, rfl, ho2, hb2, hk2⟩; have hA2 := hk2 _ _ _ (by decide) hA1))
        rename_i hheld
        clear hheld
        have hB2 : Below w.heap.size w w2 := (Below.drewN hb0 1).trans ((hb1.mono (by simp)).trans hb2)
        have tc := hA2.cell
        have HPs : Hid (Calls Tryz.prog 150 #[v2, .slice pa ts.length pc, .func (.func 151) #[] #[]] w2 fun e w' =>
            (ts.all (mayT 2) = true → ∃ v', e = .returned (.tuple #[v', .int .i64 0]) ∧ Own w' w.heap.size 5 v' ([UInt8.ofNat (hdN true), UInt8.ofNat ts.length] ++ encB k i d r ++ encs ts)) ∧ (ts.all (mayT 2) = false → e = .returned (.tuple #[.slice none 0 0, .int .i64 17])) ∧ Below w.heap.size w2 w' ∧ Keeps w2 w') :=
          putTypes_any rule_var ho2 hB2.size HL.out (HT.out.later hB2) (by omega) fun hne => HT.out.lt hne
        clear ho1 hb1 hA1 ho2 hb2 hk2 hA2 HPC HPT HKP hS0
        go_wp2_with fail
        refine Calls.mono HPs.out ?_
        rintro e w3 ⟨g1, g2, g3, g4⟩
        rcases hall : ts.all (mayT 2) with _ | _
        · obtain rfl := g2 hall
          have HA : Hid (sigE ts (k, i, d, r) = 17) := HE2.out hall
          clear g1 g2 hall
          go_wp2
          go_ret2
          exact ⟨fun h => absurd h (by rw [HA.out]; decide), fun _ => by rw [HA.out]; rfl, hB2.trans g3⟩
        · obtain ⟨v3, rfl, h3⟩ := g1 hall
          have HA : Hid (sigE ts (k, i, d, r) = 0) := HE1.out hall
          clear g1 g2 hall
          go_wp2
          go_ret2
          exact ⟨fun _ => ⟨_, rfl, by simpa [sigL, encT] using h3⟩, fun h => absurd HA.out h, hB2.trans g3⟩
      | false =>
        go_enter Tryz.func123, Tryz.ntmps123
        go_wp2_with fail
        go_region_held3 (fun w' => w'.cell? ⟨w.heap.size, 1, none⟩ = some (.slice pa ts.length pc) ∧ w'.cell? ⟨w.heap.size, 2, none⟩ = some (.int .i64 k) ∧ w'.cell? ⟨w.heap.size, 3, none⟩ = some (.int .i64 i) ∧ w'.cell? ⟨w.heap.size, 4, none⟩ = some (.int .i64 d) ∧ w'.cell? ⟨w.heap.size, 5, none⟩ = some (.bool r)) (first | go_keep | (exact HKP.out _ hA1) | (exact HKP.out _ hA2))
          (first
            | (go_at_call 148; refine (HPC.out _ (by simp)).mono ?_; rintro e w1 ⟨v1, rfl, ho1, hb1⟩; have hA1 := (hS0.drewN 1).later hb1)
            | (go_at_call 146; refine (HPT.out _ v1 ho1 (by have := hb1.size; simp at this; omega)).mono ?_; rintro e w2 ⟨v2, rfl, ho2, hb2, hk2⟩; have hA2 := hk2 _ _ _ (by decide) hA1))
        rename_i hheld
        clear hheld
        have hB2 : Below w.heap.size w w2 := (Below.drewN hb0 1).trans ((hb1.mono (by simp)).trans hb2)
        have tc := hA2.cell
        have HPs : Hid (Calls Tryz.prog 150 #[v2, .slice pa ts.length pc, .func (.func 151) #[] #[]] w2 fun e w' =>
            (ts.all (mayT 2) = true → ∃ v', e = .returned (.tuple #[v', .int .i64 0]) ∧ Own w' w.heap.size 5 v' ([UInt8.ofNat (hdN false), UInt8.ofNat ts.length] ++ encB k i d r ++ encs ts)) ∧ (ts.all (mayT 2) = false → e = .returned (.tuple #[.slice none 0 0, .int .i64 17])) ∧ Below w.heap.size w2 w' ∧ Keeps w2 w') :=
          putTypes_any rule_var ho2 hB2.size HL.out (HT.out.later hB2) (by omega) fun hne => HT.out.lt hne
        clear ho1 hb1 hA1 ho2 hb2 hk2 hA2 HPC HPT HKP hS0
        go_wp2_with fail
        refine Calls.mono HPs.out ?_
        rintro e w3 ⟨g1, g2, g3, g4⟩
        rcases hall : ts.all (mayT 2) with _ | _
        · obtain rfl := g2 hall
          have HA : Hid (sigE ts (k, i, d, r) = 17) := HE2.out hall
          clear g1 g2 hall
          go_wp2
          go_ret2
          exact ⟨fun h => absurd h (by rw [HA.out]; decide), fun _ => by rw [HA.out]; rfl, hB2.trans g3⟩
        · obtain ⟨v3, rfl, h3⟩ := g1 hall
          have HA : Hid (sigE ts (k, i, d, r) = 0) := HE1.out hall
          clear g1 g2 hall
          go_wp2
          go_ret2
          exact ⟨fun _ => ⟨_, rfl, by simpa [sigL, encT] using h3⟩, fun h => absurd HA.out h, hB2.trans g3⟩
    · have hm' : mayB 3 k i d r = false := by simpa using hm
      have HPT : Hid (∀ (W : World) (v : Value), Calls Tryz.prog 146 #[v, .agg #[.int .i64 k, .int .i64 i, .int .i64 d, .bool r], .func (.func 149) #[] #[]] W fun e w' => e = .returned (.tuple #[.slice none 0 0, .int .i64 17]) ∧ Below W.heap.size W w') :=
        fun W v => putType_no rule_answer W v k i d r hm'
      have HE : Hid (sigE ts (k, i, d, r) = 17) := by show _ = _; unfold sigE; rw [if_neg h6, if_neg (by simp [mayT, hm'])]
      clear hm hm'
      cases this with
      | true =>
        go_enter Tryz.func123, Tryz.ntmps123
        go_wp2_with fail
        go_region_held3 (fun w' => w'.cell? ⟨w.heap.size, 1, none⟩ = some (.slice pa ts.length pc) ∧ w'.cell? ⟨w.heap.size, 2, none⟩ = some (.int .i64 k) ∧ w'.cell? ⟨w.heap.size, 3, none⟩ = some (.int .i64 i) ∧ w'.cell? ⟨w.heap.size, 4, none⟩ = some (.int .i64 d) ∧ w'.cell? ⟨w.heap.size, 5, none⟩ = some (.bool r)) (first | go_keep | (exact HKP.out _ hA1) | (exact HKP.out _ hA2))
          (first
            | (go_at_call 148; refine (HPC.out _ (by simp)).mono ?_; rintro e w1 ⟨v1, rfl, ho1, hb1⟩; have hA1 := (hS0.drewN 1).later hb1)
            | (go_at_call 146; refine (HPT.out _ v1).mono ?_; rintro e w2 ⟨rfl, hb2⟩; have hA2 := hA1.later hb2))
        rename_i hheld
        clear hheld
        have hB2 : Below w.heap.size w w2 := (Below.drewN hb0 1).trans ((hb1.mono (by simp)).trans (hb2.mono (by have := hb1.size; simp at this; omega)))
        clear ho1 hb1 hA1 hb2 hA2 HPC HPT HKP hS0
        go_wp2
        go_ret2
        exact ⟨fun h => absurd h (by rw [HE.out]; decide), fun _ => by rw [HE.out]; rfl, hB2⟩
      | false =>
        go_enter Tryz.func123, Tryz.ntmps123
        go_wp2_with fail
        go_region_held3 (fun w' => w'.cell? ⟨w.heap.size, 1, none⟩ = some (.slice pa ts.length pc) ∧ w'.cell? ⟨w.heap.size, 2, none⟩ = some (.int .i64 k) ∧ w'.cell? ⟨w.heap.size, 3, none⟩ = some (.int .i64 i) ∧ w'.cell? ⟨w.heap.size, 4, none⟩ = some (.int .i64 d) ∧ w'.cell? ⟨w.heap.size, 5, none⟩ = some (.bool r)) (first | go_keep | (exact HKP.out _ hA1) | (exact HKP.out _ hA2))
          (first
            | (go_at_call 148; refine (HPC.out _ (by simp)).mono ?_; rintro e w1 ⟨v1, rfl, ho1, hb1⟩; have hA1 := (hS0.drewN 1).later hb1)
            | (go_at_call 146; refine (HPT.out _ v1).mono ?_; rintro e w2 ⟨rfl, hb2⟩; have hA2 := hA1.later hb2))
        rename_i hheld
        clear hheld
        have hB2 : Below w.heap.size w w2 := (Below.drewN hb0 1).trans ((hb1.mono (by simp)).trans (hb2.mono (by have := hb1.size; simp at this; omega)))
        clear ho1 hb1 hA1 hb2 hA2 HPC HPT HKP hS0
        go_wp2
        go_ret2
        exact ⟨fun h => absurd h (by rw [HE.out]; decide), fun _ => by rw [HE.out]; rfl, hB2⟩

set_option maxHeartbeats 1000000 in
set_option maxRecDepth 100000 in
theorem putLocals_any {w : World} {pv : Value} {ts : List Ty} (hT : Ts w pv ts) :
    Calls Tryz.prog 126 #[pv] w fun e w' => PutR w w' (locL ts) (locE ts) e := by
  obtain ⟨pa, pc, rfl, hp1, hp2, hp3⟩ := id hT
  unfold maxLen at hp2
  by_cases h12 : 12 < ts.length
  · have HE : Hid (locE ts = 4) := by show _ = _; unfold locE; rw [if_pos h12]
    clear hT hp3
    go_enter Tryz.func126, Tryz.ntmps126
    go_wp2
    go_ret2
    exact ⟨fun h => absurd h (by rw [HE.out]; decide), fun _ => by rw [HE.out]; rfl, Below.refl _ _⟩
  · have HE1 : Hid (ts.all (mayT 2) = true → locE ts = 0) := fun h => by unfold locE; rw [if_neg h12, if_pos h]
    have HE2 : Hid (ts.all (mayT 2) = false → locE ts = 17) := fun h => by unfold locE; rw [if_neg h12, if_neg (by rw [h]; simp)]
    have HPC : Hid (Calls Tryz.prog 148 #[.int .u8 7, .slice pa ts.length pc] w fun e w' => ∃ v, e = .returned v ∧ Own w' w.heap.size 5 v [7, UInt8.ofNat ts.length] ∧ Below w.heap.size w w') := putCount_any 7 (by omega) ts.length (by omega) pa pc w w.heap.size (Nat.le_refl _)
    have HT : Hid (Ts w (.slice pa ts.length pc) ts) := hT
    clear hT hp3
    go_enter Tryz.func126, Tryz.ntmps126
    go_wp2_with fail
    refine Calls.mono HPC.out ?_
    rintro e w1 ⟨v1, rfl, ho1, hb1⟩
    have HPs : Hid (Calls Tryz.prog 150 #[v1, .slice pa ts.length pc, .func (.func 151) #[] #[]] w1 fun e w' =>
        (ts.all (mayT 2) = true → ∃ v', e = .returned (.tuple #[v', .int .i64 0]) ∧ Own w' w.heap.size 5 v' ([7, UInt8.ofNat ts.length] ++ encs ts)) ∧ (ts.all (mayT 2) = false → e = .returned (.tuple #[.slice none 0 0, .int .i64 17])) ∧ Below w.heap.size w1 w' ∧ Keeps w1 w') :=
      putTypes_any rule_var ho1 hb1.size (by simp) (HT.out.later hb1) (by omega) fun hne => HT.out.lt hne
    clear ho1
    go_wp2_with fail
    refine Calls.mono HPs.out ?_
    rintro e w3 ⟨g1, g2, g3, g4⟩
    rcases hall : ts.all (mayT 2) with _ | _
    · obtain rfl := g2 hall
      have HA : Hid (locE ts = 17) := HE2.out hall
      clear g1 g2 hall
      go_wp2
      go_ret2
      exact ⟨fun h => absurd h (by rw [HA.out]; decide), fun _ => by rw [HA.out]; rfl, hb1.trans g3⟩
    · obtain ⟨v3, rfl, h3⟩ := g1 hall
      have HA : Hid (locE ts = 0) := HE1.out hall
      clear g1 g2 hall
      go_wp2
      go_ret2
      exact ⟨fun _ => ⟨_, rfl, by simpa [locL] using h3⟩, fun h => absurd HA.out h, hb1.trans g3⟩

end Go.Proofs.YtclmafoelibihaaGreat

/- Images by definition: what they are made of, what is formed. No function is named here. -/
namespace Go.Proofs.YtclmafoelibihaaGreat
set_option linter.unusedVariables false
set_option linter.unusedSimpArgs false
open Go.RowKit

/-- A type, a field, a method, an image: what they hold, and where their lists lie. -/
structure TD where
  nm : ByteArray
  fl : Int
  ex : Int
  fa : Option Addr
  fc : Nat
  fs : List Int
structure FD where
  nm : ByteArray
  ow : Int
  t : Ty
  st : Bool
structure MD where
  nm : ByteArray
  ow : Int
  fl : Int
  pa : Option Addr
  pc : Nat
  ps : List Ty
  rt : Ty
  la : Option Addr
  lc : Nat
  ls : List Ty
  mx : Int
  ca : Option Addr
  cc : Nat
  co : List Ins
  ka : Option Addr
  kc : Nat
  cl : List Cl
structure Img where
  ta : Option Addr
  tc : Nat
  ts : List TD
  fa : Option Addr
  fc : Nat
  fs : List FD
  ma : Option Addr
  mc : Nat
  ms : List MD
  en : Int

/-- The number of one of so many; from 0 to the last. -/
def numB (i : Int) (n : Nat) : Bool := decide (0 ≤ i) && decide (i < n)
def witB (i last : Int) : Bool := decide (0 ≤ i) && decide (i ≤ last)
/-- A type's number is one of so many types'. -/
def ownB (n : Nat) (t : Ty) : Bool := if t.1 = 5 ∨ t.1 = 6 then numB t.2.1 n else true
/-- As a field's type. -/
def fldB (n : Nat) (t : Ty) : Bool := mayT 1 t && ownB n t
/-- What an instruction names is there: of a code of so many, in an image of so many types, fields, methods. -/
def hasI (n nf nm len : Nat) (x : Ins) : Bool := if opP x.1 = 5 then numB x.2.1 len else if opP x.1 = 6 then numB x.2.1 nm else if opP x.1 = 7 then numB x.2.1 nf else if opP x.1 = 8 then ownB n x.2.2 else true
def fitI (x : Ins) : Int := fitE x.1 x.2.1 x.2.2.1 x.2.2.2.1 x.2.2.2.2.1 x.2.2.2.2.2
def insB (n nf nm len : Nat) (x : Ins) : Bool := decide (fitI x = 0) && hasI n nf nm len x
def catB (n : Nat) (c : Cl) : Bool := if c.k = 1 then fldB n (c.t0, c.t1, c.t2, c.t3) else c.t0 == 0 && c.t1 == 0 && c.t2 == 0 && !c.t3
instance (n : Int) (l : List Cl) : Decidable (RightL n l) := by unfold RightL; infer_instance
def rgtB (n : Int) (l : List Cl) : Bool := decide (RightL n l)
/-- Rising, or staying. -/
def risB : List Int → Bool
  | a :: b :: r => decide (a ≤ b) && risB (b :: r)
  | _ => true
def tdB (n : Nat) (x : TD) : Bool := fineB x.nm.data.toList && witB x.fl 31 && (decide (x.ex = -1) || numB x.ex n) && decide (x.fs.length ≤ 4) && x.fs.all (fun i => numB i n)
def fdB (n : Nat) (x : FD) : Bool := fineB x.nm.data.toList && numB x.ow n && fldB n x.t
def mdB (n nf nm : Nat) (x : MD) : Bool :=
  fineB x.nm.data.toList && numB x.ow n && witB x.fl 31 && witB x.mx 12 && (decide (sigE x.ps x.rt = 0) && ownB n x.rt && x.ps.all (ownB n)) && (decide (locE x.ls = 0) && x.ls.all (ownB n)) &&
    (decide (x.co.length ≤ 160) && x.co.all (insB n nf nm x.co.length)) && (rgtB x.co.length x.cl && x.cl.all (catB n))
/-- An image is formed. -/
def imB (g : Img) : Bool :=
  decide (g.ts.length ≤ 32) && decide (g.fs.length ≤ 64) && decide (g.ms.length ≤ 64) && g.ts.all (tdB g.ts.length) && (g.fs.all (fdB g.ts.length) && risB (g.fs.map (·.ow))) &&
    (g.ms.all (mdB g.ts.length g.fs.length g.ms.length) && risB (g.ms.map (·.ow))) && (decide (g.en = -1) || numB g.en g.ms.length)

/-- Alike: but for where lists lie. -/
def TD.like (x y : TD) : Prop := x.nm = y.nm ∧ x.fl = y.fl ∧ x.ex = y.ex ∧ x.fs = y.fs
def MD.like (x y : MD) : Prop := x.nm = y.nm ∧ x.ow = y.ow ∧ x.fl = y.fl ∧ x.ps = y.ps ∧ x.rt = y.rt ∧ x.ls = y.ls ∧ x.mx = y.mx ∧ x.co = y.co ∧ x.cl = y.cl
def Img.like (g h : Img) : Prop := g.ts.length = h.ts.length ∧ (∀ i (h1 : i < g.ts.length) (h2 : i < h.ts.length), (g.ts[i]).like (h.ts[i])) ∧ g.fs = h.fs ∧ g.ms.length = h.ms.length ∧ (∀ i (h1 : i < g.ms.length) (h2 : i < h.ms.length), (g.ms[i]).like (h.ms[i])) ∧ g.en = h.en

theorem ris_iff : ∀ l : List Int, risB l = true ↔ ∀ i (h : i + 1 < l.length), l[i] ≤ l[i + 1]
  | [] => by simp [risB]
  | [a] => by simp [risB]
  | a :: b :: r => by
    have ih := ris_iff (b :: r)
    simp only [risB, Bool.and_eq_true, decide_eq_true_eq, ih]
    constructor
    · rintro ⟨h1, h2⟩ i hi
      cases i with
      | zero => simpa using h1
      | succ j => exact h2 j (by simpa using hi)
    · intro h
      exact ⟨h 0 (by simp), fun i hi => h (i + 1) (by simpa using hi)⟩

end Go.Proofs.YtclmafoelibihaaGreat

/- SameInts and Long of the references; the lists that the statements make of texts. -/
namespace Go.Proofs.YtclmafoelibihaaGreat
set_option linter.unusedVariables false
set_option linter.unusedSimpArgs false
open Go.RowKit

def i64s (l : List Int) : List Value := l.map (Value.int .i64)
theorem i64s_length (l : List Int) : (i64s l).length = l.length := by simp [i64s]
def strs (l : List ByteArray) : List Value := l.map Value.string
theorem strs_length (l : List ByteArray) : (strs l).length = l.length := by simp [strs]
theorem strs_one (l : List ByteArray) : ∀ u ∈ strs l, u.oneCell' = true := fun u hu => by simp [strs] at hu; obtain ⟨x, _, rfl⟩ := hu; rfl
theorem i64s_one (l : List Int) : ∀ u ∈ i64s l, u.oneCell' = true := fun u hu => by simp [i64s] at hu; obtain ⟨x, _, rfl⟩ := hu; rfl

/-- The value is a slice of just these numbers; of these texts; of slices of these bytes. -/
def Is (w : World) (v : Value) (l : List Int) : Prop := Sl w v (i64s l)
def Ss (w : World) (v : Value) (l : List ByteArray) : Prop := Sl w v (strs l)
def Bss (w : World) (v : Value) (ls : List (List UInt8)) : Prop := ∃ vs, vs.length = ls.length ∧ Sl w v vs ∧ ∀ i (h : i < ls.length) (g : i < vs.length), Bs w vs[i] ls[i]

theorem sameI_len (va vb : Option Addr) (la lb ca cb : Nat) (w : World) (hne : la ≠ lb) (ha : la ≤ maxLen) (hb : lb ≤ maxLen) :
    Calls Tryz.prog 26 #[.slice va la ca, .slice vb lb cb] w fun e w' => e = .returned (.bool false) ∧ w' = w := by
  have h1 : ((la : Int) != (lb : Int)) = true := by rw [bne_iff_ne]; omega
  go_enter Tryz.func26, Tryz.ntmps26
  go_wp2
  go_ret
  exact ⟨rfl, rfl⟩

theorem sameI_empty (va vb : Option Addr) (ca cb : Nat) (w : World) :
    Calls Tryz.prog 26 #[.slice va 0 ca, .slice vb 0 cb] w fun e w' => e = .returned (.bool true) ∧ w' = w := by
  go_enter Tryz.func26, Tryz.ntmps26
  go_wp2
  refine wp_loop_rounds 1 ?_; rw [rounds_succ]
  go_wp2
  go_ret
  exact ⟨rfl, rfl⟩

theorem takeI_eq_succ {xs ys : List Int} {k : Nat} (h1 : k < xs.length) (h2 : k < ys.length) (h : xs.take k = ys.take k) (e : xs[k] = ys[k]) : xs.take (k + 1) = ys.take (k + 1) := by
  rw [List.take_succ_eq_append_getElem h1, List.take_succ_eq_append_getElem h2, h, e]

set_option maxHeartbeats 400000 in
theorem sameI_eq (a b : Nat) (oa ob ca cb : Nat) (xs ys : List Int) (w : World) (hl : xs.length = ys.length) (hm : xs.length ≤ maxLen)
    (ha : ∀ i (h : i < xs.length), w.cell? ⟨a, oa + i, none⟩ = some (.int .i64 xs[i]))
    (hb : ∀ i (h : i < ys.length), w.cell? ⟨b, ob + i, none⟩ = some (.int .i64 ys[i])) :
    Calls Tryz.prog 26 #[.slice (some ⟨a, oa, none⟩) xs.length ca, .slice (some ⟨b, ob, none⟩) xs.length cb] w fun e w' => e = .returned (.bool (decide (xs = ys))) ∧ ∃ n, w' = w.drewN n := by
  unfold maxLen at hm
  have h1 : ((xs.length : Int) != (xs.length : Int)) = false := by simp
  go_enter Tryz.func26, Tryz.ntmps26
  go_wp2
  go_loopw [5] (fun i wr => ∃ k n : Nat, k ≤ xs.length ∧ i = .int .i64 k ∧ wr = w.drewN n ∧ xs.take k = ys.take k) (fun i _ => xs.length - (intOf i).toNat)
  case atStart => exact ⟨0, 0, Nat.zero_le _, rfl, rfl, rfl⟩
  case round =>
    obtain ⟨k, n, hk, rfl, rfl, ht⟩ := hrel
    by_cases hlt : k < xs.length
    · have ca := ha k hlt
      have cb := hb k (by omega)
      have hlb : k < ys.length := by omega
      have HT : Hid (xs.take k = ys.take k) := ht
      clear ht ha hb
      by_cases he : xs[k] = ys[k]
      · have hq : (xs[k] != ys[k]) = false := by simp [he]
        have HE : Hid (xs.take (k + 1) = ys.take (k + 1)) := takeI_eq_succ hlt hlb HT.out he
        clear he
        generalize xs[k] = x at *
        generalize ys[k] = y at *
        go_wp2
        go_quiet (fail)
        go_wp2
        go_roundw
        case rel => exact ⟨k + 1, n + nq, by omega, by go_num, rfl, HE.out⟩
        case measure => simp [intOf]; omega
      · have hq : (xs[k] != ys[k]) = true := by
          rw [bne_iff_ne]; exact he
        have HE : Hid (¬ xs[k] = ys[k]) := he
        clear he
        go_wp2
        go_quiet (fail)
        go_wp2
        go_ret
        exact ⟨ret_bool (by have h := HE.out; symm; rw [decide_eq_false_iff_not]; intro e; subst e; exact h rfl), n + nq, by rw [World.drewN_drewN]⟩
    · go_wp2
      go_ret
      refine ⟨ret_bool ?_, n, rfl⟩
      symm; rw [decide_eq_true_iff]
      rwa [List.take_of_length_le (by omega), List.take_of_length_le (by omega)] at ht

/-- SameInts, of whatever two slices. -/
theorem sameI_any {va vb : Value} {xs ys : List Int} {w : World} (ha : Is w va xs) (hb : Is w vb ys) :
    Calls Tryz.prog 26 #[va, vb] w fun e w' => e = .returned (.bool (decide (xs = ys))) ∧ ∃ n, w' = w.drewN n := by
  obtain ⟨a, ca, rfl, h1, h2, h3⟩ := ha
  obtain ⟨b, cb, rfl, g1, g2, g3⟩ := hb
  rw [i64s_length] at h1 g1 ⊢
  rw [i64s_length]
  by_cases hl : xs.length = ys.length
  · by_cases hx : xs = []
    · subst hx
      have hy : ys = [] := List.eq_nil_of_length_eq_zero hl.symm
      subst hy
      refine (sameI_empty a b ca cb w).mono ?_
      rintro e w' ⟨rfl, rfl⟩
      exact ⟨ret_bool (by simp), 0, rfl⟩
    · obtain ⟨ba, oa, rfl, _, hca⟩ := h3 (by simpa [i64s] using hx)
      obtain ⟨bb, ob, rfl, _, hcb⟩ := g3 (by simp only [i64s, ne_eq, List.map_eq_nil_iff]; intro e; subst e; exact hx (List.eq_nil_of_length_eq_zero hl))
      rw [← hl]
      exact sameI_eq ba bb oa ob ca cb xs ys w hl (by omega) (fun i h => by rw [hca i (by rw [i64s_length]; exact h)]; simp [i64s]) (fun i h => by rw [hcb i (by rw [i64s_length]; exact h)]; simp [i64s])
  · refine (sameI_len a b _ _ ca cb w hl (by omega) (by omega)).mono ?_
    rintro e w' ⟨rfl, rfl⟩
    exact ⟨ret_bool (by symm; rw [decide_eq_false_iff_not]; intro e; subst e; exact hl rfl), 0, rfl⟩

/-- More texts, or longer ones, than a statement takes. -/
def longB (ls : List (List UInt8)) : Bool := decide (60 < ls.length) || ls.any fun l => decide (300 < l.length)

end Go.Proofs.YtclmafoelibihaaGreat
