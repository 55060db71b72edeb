
/- Bodies as bytes, by definition. No program is named here. -/
import Derived.Test.YtfgjlljbpcombaaPut
import Derived.Test.YtfgjlljbpcombaaRaws8
namespace Go.Proofs.Ytfgjlljbpcombaa
set_option linter.unusedVariables false
set_option linter.unusedSimpArgs false
open Go.RowKit

/-- A clause's numbers, in the order of their bytes. -/
def numsR (r : Rw) : List Int := [r.1, r.2.1, r.2.2.1, r.2.2.2.1, r.2.2.2.2.1, r.2.2.2.2.2]
theorem numsR_length (r : Rw) : (numsR r).length = 6 := rfl
def fitN (x : Int) : Bool := decide (0 ≤ x) && decide (x ≤ 65535)
theorem fitN_iff (x : Int) : fitN x = true ↔ 0 ≤ x ∧ x ≤ 65535 := by simp [fitN]
def fitR (r : Rw) : Bool := (numsR r).all fitN
/-- Is a body right? -/
def lenB (n : Int) : Bool := decide (1 ≤ n) && decide (n ≤ 65535)
theorem lenB_iff (n : Int) : lenB n = true ↔ 1 ≤ n ∧ n ≤ 65535 := by simp [lenB]
def rightB (c : List UInt8) (l : List Rw) : Bool := lenB (c.length : Int) && decide (l.length ≤ 6) && l.all fitR
theorem rightB_iff (c : List UInt8) (l : List Rw) : rightB c l = true ↔ (1 ≤ c.length ∧ c.length ≤ 65535) ∧ l.length ≤ 6 ∧ l.all fitR = true := by
  simp only [rightB, Bool.and_eq_true, decide_eq_true_eq, lenB_iff]
  constructor
  · rintro ⟨⟨h1, h2⟩, h3⟩; exact ⟨by omega, h2, h3⟩
  · rintro ⟨h1, h2, h3⟩; exact ⟨⟨by omega, h2⟩, h3⟩

/-- The bytes of a clause, of clauses. -/
def clB (r : Rw) : List UInt8 := (numsR r).flatMap fun x => leL x.toNat 2
def clsB (l : List Rw) : List UInt8 := l.flatMap clB
theorem clB_length (r : Rw) : (clB r).length = 12 := by simp [clB, numsR, leL_length]
theorem clsB_length (l : List Rw) : (clsB l).length = 12 * l.length := by
  induction l with
  | nil => rfl
  | cons r t ih => simp only [clsB, List.flatMap_cons, List.length_append, clB_length, List.length_cons] at ih ⊢; omega
theorem clsB_snoc (l : List Rw) (r : Rw) : clsB (l ++ [r]) = clsB l ++ clB r := by simp [clsB]

/-- How many bytes are left up to a multiple of four. -/
def fillN (n : Nat) : Nat := (4 - n % 4) % 4
/-- Is it told the small way? -/
def smallB (c : List UInt8) (l : List Rw) : Bool := decide (c.length < 64) && decide (l.length = 0)
theorem smallB_iff (c : List UInt8) (l : List Rw) : smallB c l = true ↔ c.length < 64 ∧ l.length = 0 := by simp [smallB]
def mkN8 (l : List Rw) : Nat := if l.length = 0 then 3 else 11
def headW (c : List UInt8) (l : List Rw) : List UInt8 := leL (mkN8 l) 1 ++ List.replicate 3 0 ++ leL c.length 4 ++ c
def tabW (n : Nat) (l : List Rw) : List UInt8 := if l.length = 0 then [] else List.replicate (fillN n) 0 ++ leL 1 1 ++ leL l.length 1 ++ List.replicate 2 0 ++ clsB l
/-- The bytes of a body. -/
def wrL (c : List UInt8) (l : List Rw) : List UInt8 := if smallB c l = true then leL (4 * c.length + 2) 1 ++ c else headW c l ++ tabW (headW c l).length l
def writeL (c : List UInt8) (l : List Rw) : List UInt8 := if rightB c l = true then wrL c l else []
def writeE (c : List UInt8) (l : List Rw) : Int := if rightB c l = true then 0 else 17

theorem headW_length (c : List UInt8) (l : List Rw) : (headW c l).length = c.length + 8 := by
  simp [headW, leL_length]; omega
theorem wrL_length (c : List UInt8) (l : List Rw) : (wrL c l).length = if smallB c l = true then c.length + 1 else if l.length = 0 then c.length + 8 else (c.length + 11) / 4 * 4 + 4 + 12 * l.length := by
  unfold wrL
  split
  · simp [leL_length]; omega
  · unfold tabW
    split
    · simp [headW_length]
    · simp only [List.length_append, headW_length, leL_length, List.length_replicate, clsB_length, fillN]
      omega

/-- A reader's place and its error. -/
abbrev St := Nat × Int
/-- What is read of a number, and where the reader is then. -/
def nuV (bs : List UInt8) (s : St) (n : Nat) : Nat := if s.2 = 0 then (if s.1 + n ≤ bs.length then leN (seg bs s.1 n) else 0) else 0
def nuS (bs : List UInt8) (s : St) (n : Nat) : St := if s.2 = 0 then (if s.1 + n ≤ bs.length then (s.1 + n, 0) else (s.1, 1)) else s
/-- What is wanted. -/
def waS (s : St) (b : Bool) : St := if s.2 = 0 then (if b = true then s else (s.1, 2)) else s
/-- Bytes that must be 0. -/
def zeS (bs : List UInt8) (s : St) : Nat → St
  | 0 => s
  | k + 1 => waS (nuS bs (zeS bs s k) 1) (decide (nuV bs (zeS bs s k) 1 = 0))
/-- So many bytes of code. -/
def coS (bs : List UInt8) (s : St) (n : Nat) : St := if s.2 = 0 then (if lenB n = true then (if s.1 + n ≤ bs.length then (s.1 + n, 0) else (s.1, 1)) else (s.1, 2)) else s
def coL (bs : List UInt8) (s : St) (n : Nat) : List UInt8 := if s.2 = 0 then (if lenB n = true then (if s.1 + n ≤ bs.length then seg bs s.1 n else []) else []) else []
/-- The numbers of a clause. -/
def clS (bs : List UInt8) (s : St) : Nat → St
  | 0 => s
  | k + 1 => nuS bs (clS bs s k) 2
def clV (bs : List UInt8) (s : St) (k : Nat) : Int := (nuV bs (clS bs s k) 2 : Int)
def clR (bs : List UInt8) (s : St) : Rw := (clV bs s 0, clV bs s 1, clV bs s 2, clV bs s 3, clV bs s 4, clV bs s 5)
/-- Clauses, one behind the other. -/
def rsS (bs : List UInt8) (s : St) : Nat → St
  | 0 => s
  | k + 1 => clS bs (rsS bs s k) 6
def rsL (bs : List UInt8) (s : St) (n : Nat) : List Rw := (List.range n).map fun k => clR bs (rsS bs s k)
theorem rsL_length (bs : List UInt8) (s : St) (n : Nat) : (rsL bs s n).length = n := by simp [rsL]
theorem rsL_succ (bs : List UInt8) (s : St) (n : Nat) : rsL bs s (n + 1) = rsL bs s n ++ [clR bs (rsS bs s n)] := by simp [rsL, List.range_succ]
/-- What stands behind the code: up to the number of clauses, the number, up to the clauses. -/
def cs1 (bs : List UInt8) (s : St) : St := zeS bs s (fillN s.1)
def cs2 (bs : List UInt8) (s : St) : St := waS (nuS bs (cs1 bs s) 1) (decide (nuV bs (cs1 bs s) 1 = 1))
def csN (bs : List UInt8) (s : St) : Nat := nuV bs (cs2 bs s) 1
def cntB (n : Nat) : Bool := decide (1 ≤ n) && decide (n ≤ 6)
def cs3 (bs : List UInt8) (s : St) : St := waS (nuS bs (cs2 bs s) 1) (cntB (csN bs s))
def cs4 (bs : List UInt8) (s : St) : St := zeS bs (cs3 bs s) 2
def csS (bs : List UInt8) (s : St) : St := if (cs4 bs s).2 = 0 then rsS bs (cs4 bs s) (csN bs s) else cs4 bs s
def csL (bs : List UInt8) (s : St) : List Rw := if (cs4 bs s).2 = 0 then rsL bs (cs4 bs s) (csN bs s) else []
/-- A body that is not small: up to the length, the length, up to the end of the code. -/
def bo1 (bs : List UInt8) : St := nuS bs (0, 0) 1
def boF (bs : List UInt8) : Nat := nuV bs (0, 0) 1
def bo2 (bs : List UInt8) (al : Bool) : St := waS (waS (bo1 bs) (decide (boF bs = 3) || decide (boF bs = 11))) al
def bo3 (bs : List UInt8) (al : Bool) : St := zeS bs (bo2 bs al) 3
def boN (bs : List UInt8) (al : Bool) : Nat := nuV bs (bo3 bs al) 4
def bo4 (bs : List UInt8) (al : Bool) : St := nuS bs (bo3 bs al) 4
def bo5 (bs : List UInt8) (al : Bool) : St := coS bs (bo4 bs al) (boN bs al)
def boC (bs : List UInt8) (al : Bool) : List UInt8 := coL bs (bo4 bs al) (boN bs al)
def boK (bs : List UInt8) (al : Bool) : List Rw := if boF bs = 11 then csL bs (bo5 bs al) else []
def bo6 (bs : List UInt8) (al : Bool) : St := if boF bs = 11 then csS bs (bo5 bs al) else bo5 bs al
/-- What is read: the code, the clauses, the place behind and the error. -/
def rdC (bs : List UInt8) (al : Bool) : List UInt8 := if boF bs % 4 = 2 then coL bs (bo1 bs) (boF bs / 4) else boC bs al
def rdK (bs : List UInt8) (al : Bool) : List Rw := if boF bs % 4 = 2 then [] else boK bs al
def rdS (bs : List UInt8) (al : Bool) : St := if boF bs % 4 = 2 then coS bs (bo1 bs) (boF bs / 4) else waS (bo6 bs al) (!smallB (boC bs al) (boK bs al))

end Go.Proofs.Ytfgjlljbpcombaa
