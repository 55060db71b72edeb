
/- Instructions as bytes, by definition: places, bytes, errors. -/
import Derived.Test.YtpgkjfjooogfmaaDoorOpenT
import Derived.Test.YtpgkjfjooogfmaaDoorRefFits6
import Derived.Test.YtpgkjfjooogfmaaDoorPut
namespace Go.Proofs.YtpgkjfjooogfmaaDoor
set_option linter.unusedVariables false
set_option linter.unusedSimpArgs false
open Go.RowKit

theorem opP_rng (n : Int) : 0 ≤ opP n ∧ opP n ≤ 8 := by
  by_cases h : 1 ≤ n ∧ n ≤ 75
  · have := (digP_all (n - 1).toNat (by omega)).2
    rw [show ((n - 1).toNat : Int) + 1 = n by omega] at this
    exact this
  · rw [opP_out h]; omega
/-- The kind of an instruction's operand. -/
def opK (n : Int) : Nat := (opP n).toNat
theorem opK_at (n : Int) : opP n = (opK n : Int) := by have := opP_rng n; unfold opK; omega
theorem opK_le (n : Int) : opK n ≤ 8 := by have := opP_rng n; unfold opK; omega
/-- How many bytes tell an operand of a kind. -/
def widN : Nat → Nat
  | 0 => 0
  | 1 => 4
  | 2 => 8
  | 3 => 1
  | 4 => 1
  | _ => 2
theorem widN_le (p : Nat) : widN p ≤ 8 := by unfold widN; split <;> omega
def opw (x : Ins) : Nat := widN (opK x.1)
theorem opw_le (x : Ins) : opw x ≤ 8 := widN_le _
def zeroI : Ins := (0, 0, 0, 0, 0, false)
/-- Is it a raw instruction? -/
def rawB (x : Ins) : Bool := if opK x.1 = 8 then zeroB x.2.2.1 x.2.2.2.1 x.2.2.2.2.1 x.2.2.2.2.2 && decide (1 ≤ x.2.1) && decide (x.2.1 ≤ 16383) else fitE x.1 x.2.1 x.2.2.1 x.2.2.2.1 x.2.2.2.2.1 x.2.2.2.2.2 == 0

/-- How many bytes instructions have. -/
def szL : List Ins → Nat
  | [] => 0
  | x :: r => 1 + opw x + szL r
theorem szL_append (a b : List Ins) : szL (a ++ b) = szL a + szL b := by
  induction a with
  | nil => simp [szL]
  | cons x r ih => simp [szL, ih]; omega
theorem szL_succ (l : List Ins) (i : Nat) (h : i < l.length) : szL (l.take (i + 1)) = szL (l.take i) + 1 + opw l[i] := by
  rw [List.take_succ_eq_append_getElem h, szL_append]; simp [szL]; omega
theorem szL_le (l : List Ins) : szL l ≤ 9 * l.length := by
  induction l with
  | nil => simp [szL]
  | cons x r ih => have := opw_le x; simp [szL]; omega
theorem szL_ge (l : List Ins) : l.length ≤ szL l := by
  induction l with
  | nil => simp [szL]
  | cons x r ih => simp [szL]; omega
theorem szL_take_le (l : List Ins) (i : Nat) : szL (l.take i) ≤ 9 * l.length := by
  have := szL_le (l.take i)
  have h2 : (l.take i).length ≤ l.length := by simp; omega
  omega
theorem szL_mono (l : List Ins) (i j : Nat) (h : i ≤ j) : szL (l.take i) ≤ szL (l.take j) := by
  have e : l.take j = l.take i ++ (l.take j).drop i := by
    have := (List.take_append_drop i (l.take j)).symm
    rwa [List.take_take, Nat.min_eq_left h] at this
  rw [e, szL_append]; omega
theorem szL_lt (l : List Ins) (i j : Nat) (h : i < j) (hj : j ≤ l.length) : szL (l.take i) < szL (l.take j) := by
  have h1 := szL_succ l i (by omega)
  have h2 := szL_mono l (i + 1) j (by omega)
  omega
/-- Where each begins, and where they end. -/
def plcs (l : List Ins) : List Int := (List.range (l.length + 1)).map fun i => (szL (l.take i) : Int)
theorem plcs_length (l : List Ins) : (plcs l).length = l.length + 1 := by simp [plcs]
theorem plcs_get (l : List Ins) (i : Nat) (h : i < (plcs l).length) : (plcs l)[i] = (szL (l.take i) : Int) := by simp [plcs]
theorem plcs_nil : plcs [] = [0] := by simp [plcs, szL]
theorem plcs_snoc (l : List Ins) (x : Ins) : plcs (l ++ [x]) = plcs l ++ [((szL l + 1 + opw x : Nat) : Int)] := by
  unfold plcs
  rw [show (l ++ [x]).length + 1 = (l.length + 1) + 1 by simp, List.range_succ, List.map_append]
  congr 1
  · apply List.map_congr_left
    intro i hi
    have hi' : i ≤ l.length := by have := List.mem_range.1 hi; omega
    rw [List.take_append_of_le_length hi']
  · have e : (l ++ [x]).take (l.length + 1) = l ++ [x] := List.take_of_length_le (by simp)
    simp only [List.map_cons, List.map_nil, e, szL_append, szL]
    congr 2; omega
def plE (l : List Ins) : Int := if 160 < l.length then 4 else if l.all rawB = true then 0 else 17
def plL (l : List Ins) : List Int := if plE l = 0 then plcs l else []

/-- What the bytes of an operand tell. -/
def opnd (l : List Ins) (i : Nat) (x : Ins) : Int := if opK x.1 = 5 then (szL (l.take x.2.1.toNat) : Int) - (szL (l.take (i + 1)) : Int) else if opK x.1 = 6 ∨ opK x.1 = 7 then x.2.1 + 1 else x.2.1
def u64n (n : Int) : Nat := (n % 18446744073709551616).toNat
theorem u64n_lt (n : Int) : u64n n < 18446744073709551616 := by unfold u64n; omega
theorem u64n_wrap (n : Int) : IntKind.u64.wrap n = (u64n n : Int) := by
  unfold u64n
  show n % 2 ^ 64 = _
  rw [show ((2 : Int) ^ 64) = 18446744073709551616 by decide]
  omega
def encI (l : List Ins) (i : Nat) (x : Ins) : List UInt8 := UInt8.ofNat x.1.toNat :: leL (u64n (opnd l i x)) (opw x)
theorem encI_length (l : List Ins) (i : Nat) (x : Ins) : (encI l i x).length = 1 + opw x := by simp [encI, leL_length]; omega
def encTo (l : List Ins) : Nat → List UInt8
  | 0 => []
  | q + 1 => encTo l q ++ encI l q (l.getD q zeroI)
theorem encTo_succ (l : List Ins) (q : Nat) (h : q < l.length) : encTo l (q + 1) = encTo l q ++ encI l q l[q] := by
  show encTo l q ++ encI l q (l.getD q zeroI) = _
  rw [List.getD_eq_getElem?_getD, List.getElem?_eq_getElem h]; rfl
theorem encTo_length (l : List Ins) (q : Nat) (h : q ≤ l.length) : (encTo l q).length = szL (l.take q) := by
  induction q with
  | zero => simp [encTo, szL]
  | succ q ih => rw [encTo_succ l q (by omega), List.length_append, ih (by omega), encI_length, szL_succ l q (by omega)]; omega
/-- Its way leads behind the last one. -/
def behB (n : Nat) (x : Ins) : Bool := decide (opK x.1 = 5) && decide ((n : Int) ≤ x.2.1)
def encE (l : List Ins) : Int := if plE l = 0 then if l.any (behB l.length) = true then 11 else 0 else plE l
def encL (l : List Ins) : List UInt8 := if encE l = 0 then encTo l l.length else []

theorem plE_zero {l : List Ins} (h : plE l = 0) : l.length ≤ 160 ∧ l.all rawB = true := by
  unfold plE at h
  split at h
  · omega
  · split at h
    · exact ⟨by omega, ‹_›⟩
    · omega
theorem plE_of {l : List Ins} (h : l.length ≤ 160) (h2 : l.all rawB = true) : plE l = 0 := by unfold plE; rw [if_neg (by omega), if_pos h2]
theorem encE_zero {l : List Ins} (h : encE l = 0) : plE l = 0 ∧ l.any (behB l.length) = false := by
  unfold encE at h
  split at h
  · split at h
    · omega
    · rename_i h1 h2; exact ⟨h1, Bool.eq_false_iff.2 h2⟩
  · exact absurd h ‹_›
theorem encE_of {l : List Ins} (h : plE l = 0) (h2 : l.any (behB l.length) = false) : encE l = 0 := by unfold encE; rw [if_pos h, if_neg (by rw [h2]; decide)]

/-- What is raw is one that there is. -/
theorem raw_op {x : Ins} (h : rawB x = true) : 1 ≤ x.1 ∧ x.1 ≤ 75 := by
  by_cases hin : 1 ≤ x.1 ∧ x.1 ≤ 75
  · exact hin
  · have h0 : opK x.1 = 0 := by unfold opK; rw [opP_out hin]; rfl
    unfold rawB at h
    rw [if_neg (by omega)] at h
    unfold fitE at h
    rw [if_neg hin] at h
    simp at h

end Go.Proofs.YtpgkjfjooogfmaaDoor
