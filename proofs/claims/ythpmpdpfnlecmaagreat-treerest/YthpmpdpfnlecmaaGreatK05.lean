/- Texts joined: OpenE9, Fine, OpSpec, InfoOf6, Of6. -/
import Derived.Test.YthpmpdpfnlecmaaGreatK01
import Derived.Test.YthpmpdpfnlecmaaGreatK04
import Derived.Test.YthpmpdpfnlecmaaGreatRows
import Derived.Deep.QuietTactic
import Derived.BigQuiet
import Derived.Lib.Strings
namespace Go.Proofs.YthpmpdpfnlecmaaGreat
set_option linter.unusedVariables false
set_option linter.unusedSimpArgs false
open Go.ChangeShapes Go.WideShapes Go.ChangeAt Go.RowKit
/-- A slice of elements that came in, if each one's cells can be told. -/
theorem openEs1 {α : Type} (E : Enc α) (dft : α) {P : Program} {H : Type} {enc : TypeId × Value → H} {W : World} {v : Value} {n : Nat} {y : DataW H × List MemPlace} (ts t : TypeId) (ht : P.underlying ts = some (.slice t)) (hcells : P.cellsOf t = E.size)
  (hel : ∀ (cs : List Value) (n : Nat) (y : DataW H × List MemPlace), cs.length = E.size → DataW.trod enc P W 0 (fun _ => true) true n t cs = some y → ∃ x, cs = E.cells x)
  (h : DataW.trod enc P W 0 (fun _ => true) true n ts [v] = some y) : ∃ l, Es E W v l := by
 haveI : Inhabited α := ⟨dft⟩
 rcases Go.Deep.open_slice ht h with ⟨hcs, _⟩ | ⟨a, len, cap, m, k, D, Pl, hcs, _, hl, hm, hmm, _, hx⟩
 ·simp at hcs
  subst hcs
  exact ⟨[], Es.nil E W⟩
 ·simp at hcs
  subst hcs
  simp only [if_true] at hmm
  rw [hcells] at hx
  obtain ⟨f, hf⟩ := Go.Deep.choose_lt (n := len) (p := fun i (x : α) => ∀ j u, (E.cells x)[j]? = some u → W.cell? (a.add (i * E.size + j)) = some u) fun i hi => by
   obtain ⟨cs', h1, h2⟩ := hx i (by omega)
   obtain ⟨_, hlen, h3⟩ := World.cells?_some h1
   obtain ⟨x, hxc⟩ := hel _ _ _ (by simpa using hlen) h2
   refine ⟨x, fun j u hj => ?_⟩
   have hjl : j < E.size := by rw [← E.len x]; exact (List.getElem?_eq_some_iff.1 hj).1
   have g := h3 j hjl
   rw [Go.Deep.add_add a (i * E.size) j] at g
   rw [g]
   have hx2 : cs'[j]? = some u := by
    have := congrArg (fun t => t[j]?) hxc
    rw [hj] at this
    simpa using this
   exact hx2
  refine ⟨(List.range len).map f, some a, cap, by simp, by simpa using hl, hm, fun hne => ?_⟩
  have hpos : 0 < len := by
   rcases Nat.eq_zero_or_pos len with h | h
   ·subst h; simp at hne
   ·exact h
  obtain ⟨u0, hu0⟩ : ∃ u, (E.cells (f 0))[0]? = some u := by
   have := E.pos
   rw [← E.len (f 0)] at this
   exact ⟨_, List.getElem?_eq_getElem this⟩
  have h0 := hf 0 hpos 0 u0 hu0
  obtain ⟨b, off, spot⟩ := a
  have hspot : spot = none := by simpa [Addr.add] using World.cell?_spot h0
  subst hspot
  have hplain : ∀ i, (⟨b, off, none⟩ : Addr).add i = ⟨b, off + i, none⟩ := fun i => by unfold Addr.add; split <;> simp_all
  have hb : b < W.heap.size := by have := World.block_lt_of_cell? W _ h0; simpa [Addr.add] using this
  have hes : Es E W (.slice (some ⟨b, off, none⟩) ((List.range len).map f).length cap) ((List.range len).map f) := by
   refine Es.of_parts (by simpa using hl) hm hb fun i hi j u hj => ?_
   simp only [List.length_map, List.length_range] at hi
   simp only [List.getElem_map, List.getElem_range] at hj
   have := hf i hi j u hj
   rw [hplain, ← Nat.add_assoc] at this
   exact this
  obtain ⟨_, _, he, _, _, h3⟩ := hes
  simp only [Value.slice.injEq] at he
  obtain ⟨rfl, _, _⟩ := he
  exact h3 hne

theorem list10 {α : Type} {cs : List α} (h : cs.length = 10) : ∃ c0 c1 c2 c3 c4 c5 c6 c7 c8 c9, cs = [c0, c1, c2, c3, c4, c5, c6, c7, c8, c9] := by
 match cs, h with
 | [c0, c1, c2, c3, c4, c5, c6, c7, c8, c9], _ => exact ⟨c0, c1, c2, c3, c4, c5, c6, c7, c8, c9, rfl⟩
theorem list7 {α : Type} {cs : List α} (h : cs.length = 7) : ∃ c0 c1 c2 c3 c4 c5 c6, cs = [c0, c1, c2, c3, c4, c5, c6] := by
 match cs, h with
 | [c0, c1, c2, c3, c4, c5, c6], _ => exact ⟨c0, c1, c2, c3, c4, c5, c6, rfl⟩
theorem Tryz.cellsClause : Tryz.prog.cellsOf 101 = 10 := by kernel_rfl

/-- The cells of a clause. -/
theorem clauseCells {H : Type} {enc : TypeId × Value → H} {W : World} (cs : List Value) (n : Nat) (y : DataW H × List MemPlace) (hl : cs.length = 10)
  (h : DataW.trod enc Tryz.prog W 0 (fun _ => true) true n 101 cs = some y) : ∃ x : Cl, cs = clC x := by
 obtain ⟨c0, c1, c2, c3, c4, c5, c6, c7, c8, c9, rfl⟩ := list10 hl
 obtain ⟨xs, m, _, _, _, hlen, hf⟩ := DataW.trod_struct Tryz.underlying101 h
 obtain ⟨y0, y1, y2, y3, y4, y5, y6, rfl⟩ := list7 (show xs.length = 7 from hlen)
 have h0 : DataW.trod enc Tryz.prog W 0 (fun _ => true) true m 3 [c0] = some y0 := by
  have := hf 0 _ rfl
  simpa [Tryz.cellsInt] using this
 have h1 : DataW.trod enc Tryz.prog W 0 (fun _ => true) true m 3 [c1] = some y1 := by
  have := hf 1 _ rfl
  simpa [Tryz.cellsInt] using this
 have h2 : DataW.trod enc Tryz.prog W 0 (fun _ => true) true m 3 [c2] = some y2 := by
  have := hf 2 _ rfl
  simpa [Tryz.cellsInt] using this
 have h3 : DataW.trod enc Tryz.prog W 0 (fun _ => true) true m 3 [c3] = some y3 := by
  have := hf 3 _ rfl
  simpa [Tryz.cellsInt] using this
 have h4 : DataW.trod enc Tryz.prog W 0 (fun _ => true) true m 3 [c4] = some y4 := by
  have := hf 4 _ rfl
  simpa [Tryz.cellsInt] using this
 have h5 : DataW.trod enc Tryz.prog W 0 (fun _ => true) true m 3 [c5] = some y5 := by
  have := hf 5 _ rfl
  simpa [Tryz.cellsInt] using this
 have h6 : DataW.trod enc Tryz.prog W 0 (fun _ => true) true m 51 [c6, c7, c8, c9] = some y6 := by
  have := hf 6 _ rfl
  simpa [Tryz.cellsInt, Tryz.cellsTy] using this
 obtain ⟨x0, e0, _, _⟩ := DataW.trod_int Tryz.underlying3 h0
 obtain ⟨x1, e1, _, _⟩ := DataW.trod_int Tryz.underlying3 h1
 obtain ⟨x2, e2, _, _⟩ := DataW.trod_int Tryz.underlying3 h2
 obtain ⟨x3, e3, _, _⟩ := DataW.trod_int Tryz.underlying3 h3
 obtain ⟨x4, e4, _, _⟩ := DataW.trod_int Tryz.underlying3 h4
 obtain ⟨x5, e5, _, _⟩ := DataW.trod_int Tryz.underlying3 h5
 obtain ⟨t, e6⟩ := tyCells h6
 simp only [List.cons.injEq, and_true] at e0 e1 e2 e3 e4 e5 e6
 obtain ⟨rfl, rfl, rfl, rfl⟩ := e6
 subst e0 e1 e2 e3 e4 e5
 exact ⟨⟨x0, x1, x2, x3, x4, x5, t.1, t.2.1, t.2.2.1, t.2.2.2⟩, rfl⟩
end Go.Proofs.YthpmpdpfnlecmaaGreat

namespace Go.Proofs.YthpmpdpfnlecmaaGreat
set_option linter.unusedVariables false
set_option linter.unusedSimpArgs false
open Go.RowKit
def okB (b : UInt8) : Bool := decide (33 ≤ b.toNat) && decide (b.toNat ≤ 126)
def fineB (l : List UInt8) : Bool := decide (1 ≤ l.length) && decide (l.length ≤ 24) && l.all okB

theorem toList_len (s : ByteArray) : s.data.toList.length = s.size := Array.length_toList
theorem fine_no {s : ByteArray} (h : s.size < 1 ∨ 24 < s.size) : fineB s.data.toList = false := by
 unfold fineB; rw [toList_len]
 rcases h with h | h
 ·have : decide (1 ≤ s.size) = false := decide_eq_false (by omega)
  rw [this]; rfl
 ·have : decide (s.size ≤ 24) = false := decide_eq_false (by omega)
  rw [this]; simp

theorem fine_short (s : ByteArray) (w : World) (h : s.size < 1) :
  Calls Tryz.prog 144 #[.string s] w fun e w' => e = .returned (.bool (fineB s.data.toList)) ∧ w' = w := by
 have hf : Hid (fineB s.data.toList = false) := fine_no (.inl h)
 go_enter Tryz.func144, Tryz.ntmps144
 go_wp2
 go_ret
 exact ⟨ret_bool hf.out.symm, rfl⟩

theorem fine_long (s : ByteArray) (w : World) (h : 24 < s.size) :
  Calls Tryz.prog 144 #[.string s] w fun e w' => e = .returned (.bool (fineB s.data.toList)) ∧ w' = w := by
 have hf : Hid (fineB s.data.toList = false) := fine_no (.inr h)
 go_enter Tryz.func144, Tryz.ntmps144
 go_wp2
 go_ret
 exact ⟨ret_bool hf.out.symm, rfl⟩

theorem str_get (s : ByteArray) (k : Nat) (h : k < s.size) : s.data.toList[k]'(by rw [toList_len]; exact h) = s[k] := by simp; rfl
theorem take_str_succ (s : ByteArray) (k : Nat) (h : k < s.size) : s.data.toList.take (k + 1) = s.data.toList.take k ++ [s[k]] := by
 rw [List.take_succ_eq_append_getElem (by rw [toList_len]; exact h), str_get s k h]
theorem ok_yes {s : ByteArray} {k : Nat} (h : k < s.size) (ht : (s.data.toList.take k).all okB = true) (a : 33 ≤ s[k].toNat) (b : s[k].toNat ≤ 126) : (s.data.toList.take (k + 1)).all okB = true := by
 rw [take_str_succ s k h, List.all_append, ht]; simp [okB, a, b]
theorem ok_no {s : ByteArray} {k : Nat} (h : k < s.size) (a : ¬ (33 ≤ s[k].toNat ∧ s[k].toNat ≤ 126)) : fineB s.data.toList = false := by
 have : s.data.toList.all okB = false := by
  rw [List.all_eq_false]
  refine ⟨s[k], ?_, ?_⟩
  ·rw [← str_get s k h]; exact List.getElem_mem _
  ·simp only [okB, Bool.and_eq_true, decide_eq_true_eq]; exact a
 unfold fineB; rw [this, Bool.and_false]
theorem ok_all {s : ByteArray} (ht : (s.data.toList.take s.size).all okB = true) : s.data.toList.all okB = true := by
 rwa [List.take_of_length_le (by rw [toList_len]; exact Nat.le_refl _)] at ht

theorem fine_in (s : ByteArray) (w : World) (h1 : 1 ≤ s.size) (h2 : s.size ≤ 24) :
  Calls Tryz.prog 144 #[.string s] w fun e w' => e = .returned (.bool (fineB s.data.toList)) ∧ w' = w := by
 go_enter Tryz.func144, Tryz.ntmps144
 go_wp2
 go_loopw [14] (fun i wr => ∃ k : Nat, k ≤ s.size ∧ i = .int .i64 k ∧ wr = w ∧ (s.data.toList.take k).all okB = true) (fun i _ => s.size - (intOf i).toNat)
 case atStart => exact ⟨0, Nat.zero_le _, rfl, rfl, by simp⟩
 case round =>
  obtain ⟨k, hk, rfl, rfl, ht⟩ := hrel
  have HT : Hid ((s.data.toList.take k).all okB = true) := ht
  clear ht
  by_cases hlt : k < s.size
  ·by_cases hb : 33 ≤ s[k].toNat ∧ s[k].toNat ≤ 126
   ·obtain ⟨b1, b2⟩ := hb
    go_wp2
    go_roundw
    case rel => exact ⟨k + 1, by omega, by go_num, by simp, ok_yes hlt HT.out b1 b2⟩
    case measure => simp [intOf]; omega
   ·have HF : Hid (fineB s.data.toList = false) := ok_no hlt hb
    by_cases c1 : s[k].toNat < 33
    ·clear hb
     go_wp2
     go_ret
     exact ⟨ret_bool HF.out.symm, rfl⟩
    ·have c2 : 126 < s[k].toNat := by omega
     clear hb
     go_wp2
     go_ret
     exact ⟨ret_bool HF.out.symm, rfl⟩
  ·have e : k = s.size := by omega
   subst e
   have HF : Hid (fineB s.data.toList = true) := by
    show _ = _
    unfold fineB; rw [toList_len, ok_all HT.out]; simp; omega
   go_wp2
   go_ret
   exact ⟨ret_bool HF.out.symm, rfl⟩

/-- Fine of the pool, of any text. -/
theorem fine_any (s : ByteArray) (w : World) :
  Calls Tryz.prog 144 #[.string s] w fun e w' => e = .returned (.bool (fineB s.data.toList)) ∧ w' = w := by
 by_cases h1 : s.size < 1
 ·exact fine_short s w h1
 ·by_cases h2 : 24 < s.size
  ·exact fine_long s w h2
  ·exact fine_in s w (by omega) (by omega)

/-- Fine of the references, of any text. -/
theorem refFine_any (s : ByteArray) (hs : s.size ≤ maxLen) (w : World) :
  Calls Tryz.prog 114 #[.string s] w fun e w' => e = .returned (.bool (fineB s.data.toList)) ∧ w' = w := by
 unfold maxLen at hs
 go_enter Tryz.func114, Tryz.ntmps114
 go_wp2
 go_loopw [3] (fun i wr => ∃ k : Nat, k ≤ s.size ∧ i = .int .i64 k ∧ wr = w ∧ (s.data.toList.take k).all okB = true) (fun i _ => s.size - (intOf i).toNat)
 case atStart => exact ⟨0, Nat.zero_le _, rfl, rfl, by simp⟩
 case round =>
  obtain ⟨k, hk, rfl, rfl, ht⟩ := hrel
  have HT : Hid ((s.data.toList.take k).all okB = true) := ht
  clear ht
  by_cases hlt : k < s.size
  ·by_cases hb : 33 ≤ s[k].toNat ∧ s[k].toNat ≤ 126
   ·obtain ⟨b1, b2⟩ := hb
    go_wp2
    go_roundw
    case rel => exact ⟨k + 1, by omega, by go_num, by simp, ok_yes hlt HT.out b1 b2⟩
    case measure => simp [intOf]; omega
   ·have HF : Hid (fineB s.data.toList = false) := ok_no hlt hb
    by_cases c1 : s[k].toNat < 33
    ·clear hb
     go_wp2
     go_ret
     exact ⟨ret_bool HF.out.symm, rfl⟩
    ·have c2 : 126 < s[k].toNat := by omega
     clear hb
     go_wp2
     go_ret
     exact ⟨ret_bool HF.out.symm, rfl⟩
  ·have e : k = s.size := by omega
   subst e
   by_cases c1 : 0 < s.size
   ·by_cases c2 : s.size ≤ 24
    ·have HF : Hid (fineB s.data.toList = true) := by
      show _ = _
      unfold fineB; rw [toList_len, ok_all HT.out]; simp; omega
     go_wp2
     go_ret
     exact ⟨ret_bool (by rw [HF.out]; simp; omega), rfl⟩
    ·have HF : Hid (fineB s.data.toList = false) := fine_no (.inr (by omega))
     go_wp2
     go_ret
     exact ⟨ret_bool (by rw [HF.out]; simp; omega), rfl⟩
   ·have HF : Hid (fineB s.data.toList = false) := fine_no (.inl (by omega))
    go_wp2
    go_ret
    exact ⟨ret_bool HF.out.symm, rfl⟩
/-- Of each its name, operand and way. -/
def opsT : List (List UInt8 × Int × Int) := [
 ([110, 111, 112], 0, 0),
 ([108, 100, 97, 114, 103], 4, 0),
 ([115, 116, 97, 114, 103], 4, 0),
 ([108, 100, 97, 114, 103, 97], 4, 0),
 ([108, 100, 108, 111, 99], 3, 0),
 ([115, 116, 108, 111, 99], 3, 0),
 ([108, 100, 108, 111, 99, 97], 3, 0),
 ([108, 100, 99, 52], 1, 0),
 ([108, 100, 99, 56], 2, 0),
 ([108, 100, 110, 117, 108, 108], 0, 0),
 ([100, 117, 112], 0, 0),
 ([112, 111, 112], 0, 0),
 ([97, 100, 100], 0, 0),
 ([115, 117, 98], 0, 0),
 ([109, 117, 108], 0, 0),
 ([100, 105, 118], 0, 0),
 ([114, 101, 109], 0, 0),
 ([97, 110, 100], 0, 0),
 ([111, 114], 0, 0),
 ([120, 111, 114], 0, 0),
 ([115, 104, 108], 0, 0),
 ([115, 104, 114], 0, 0),
 ([110, 101, 103], 0, 0),
 ([110, 111, 116], 0, 0),
 ([97, 100, 100, 111, 118, 102], 0, 0),
 ([115, 117, 98, 111, 118, 102], 0, 0),
 ([109, 117, 108, 111, 118, 102], 0, 0),
 ([99, 111, 110, 118, 52], 0, 0),
 ([99, 111, 110, 118, 56], 0, 0),
 ([99, 111, 110, 118, 111, 118, 102, 52], 0, 0),
 ([99, 101, 113], 0, 0),
 ([99, 103, 116], 0, 0),
 ([99, 108, 116], 0, 0),
 ([98, 114], 5, 1),
 ([98, 114, 116, 114, 117, 101], 5, 2),
 ([98, 114, 102, 97, 108, 115, 101], 5, 2),
 ([98, 101, 113], 5, 2),
 ([98, 103, 101], 5, 2),
 ([98, 103, 116], 5, 2),
 ([98, 108, 101], 5, 2),
 ([98, 108, 116], 5, 2),
 ([98, 110, 101], 5, 2),
 ([99, 97, 108, 108], 6, 0),
 ([99, 97, 108, 108, 118, 105, 114, 116], 6, 0),
 ([110, 101, 119, 111, 98, 106], 6, 0),
 ([114, 101, 116], 0, 3),
 ([116, 97, 105, 108], 0, 0),
 ([108, 100, 102, 108, 100], 7, 0),
 ([115, 116, 102, 108, 100], 7, 0),
 ([108, 100, 102, 108, 100, 97], 7, 0),
 ([108, 100, 115, 102, 108, 100], 7, 0),
 ([115, 116, 115, 102, 108, 100], 7, 0),
 ([108, 100, 115, 102, 108, 100, 97], 7, 0),
 ([108, 100, 111, 98, 106], 8, 0),
 ([115, 116, 111, 98, 106], 8, 0),
 ([105, 110, 105, 116, 111, 98, 106], 8, 0),
 ([110, 101, 119, 97, 114, 114], 8, 0),
 ([108, 100, 108, 101, 110], 0, 0),
 ([108, 100, 101, 108, 101, 109], 8, 0),
 ([115, 116, 101, 108, 101, 109], 8, 0),
 ([108, 100, 101, 108, 101, 109, 97], 8, 0),
 ([98, 111, 120], 8, 0),
 ([117, 110, 98, 111, 120], 8, 0),
 ([117, 110, 98, 111, 120, 97, 110, 121], 8, 0),
 ([99, 97, 115, 116, 99, 108, 97, 115, 115], 8, 0),
 ([105, 115, 105, 110, 115, 116], 8, 0),
 ([108, 100, 102, 116, 110], 6, 0),
 ([110, 101, 119, 100, 101, 108], 8, 0),
 ([116, 104, 114, 111, 119], 0, 3),
 ([114, 101, 116, 104, 114, 111, 119], 0, 3),
 ([108, 101, 97, 118, 101], 5, 4),
 ([101, 110, 100, 102, 105, 110, 97, 108, 108, 121], 0, 5),
 ([101, 110, 100, 102, 105, 108, 116, 101, 114], 0, 5),
 ([105, 110], 0, 0),
 ([111, 117, 116], 0, 0)]

/-- The n-th; none, if there is no such one. -/
def opI (n : Int) : List UInt8 × Int × Int := if 1 ≤ n ∧ n ≤ 75 then opsT.getD (n - 1).toNat ([], 0, 0) else ([], 0, 0)
def opS (n : Int) : ByteArray := ⟨(opI n).1.toArray⟩
def opP (n : Int) : Int := (opI n).2.1
def opW (n : Int) : Int := (opI n).2.2
theorem opI_out {n : Int} (h : ¬ (1 ≤ n ∧ n ≤ 75)) : opI n = ([], 0, 0) := by unfold opI; rw [if_neg h]
theorem opS_out {n : Int} (h : ¬ (1 ≤ n ∧ n ≤ 75)) : opS n = ⟨#[]⟩ := by unfold opS; rw [opI_out h]
theorem opP_out {n : Int} (h : ¬ (1 ≤ n ∧ n ≤ 75)) : opP n = 0 := by unfold opP; rw [opI_out h]
theorem opW_out {n : Int} (h : ¬ (1 ≤ n ∧ n ≤ 75)) : opW n = 0 := by unfold opW; rw [opI_out h]

theorem ret_info {a b : ByteArray} {c d e f : Int} (h : a = b) (g : c = d) (i : e = f) : Ending.returned (.agg #[.string a, .int .i64 c, .int .i64 e]) = .returned (.agg #[.string b, .int .i64 d, .int .i64 f]) := by rw [h, g, i]
set_option maxHeartbeats 8000000 in
theorem infoStack_any (n : Int) (hn : n ≤ 12) (w : World) :
    Calls Tryz.prog 210 #[.int .i64 n] w fun e w' => e = .returned (.agg #[.string (opS n), .int .i64 (opP n), .int .i64 (opW n)]) ∧ Below w.heap.size w w' := by
  go_enter Tryz.func210, Tryz.ntmps210
  go_wp2
  all_goals
    refine bodyPost_ret (v := _) (by simp [results, Tryz.results210, go_sem]; rfl) rfl ⟨?_, ?_⟩
    · simp only [beq_iff_eq, beq_eq_false_iff_ne, ne_eq] at *
      first
        | (subst n; rfl)
        | (have ho : ¬ (1 ≤ n ∧ n ≤ 75) := by omega
           exact ret_info (opS_out ho).symm (opP_out ho).symm (opW_out ho).symm)
    · exact (Below.refl _ _).alloc (Nat.le_refl _) _

set_option maxHeartbeats 8000000 in
theorem infoNumbers_any (n : Int) (h1 : 12 < n) (h2 : n ≤ 33) (w : World) :
    Calls Tryz.prog 211 #[.int .i64 n] w fun e w' => e = .returned (.agg #[.string (opS n), .int .i64 (opP n), .int .i64 (opW n)]) ∧ Below w.heap.size w w' := by
  go_enter Tryz.func211, Tryz.ntmps211
  go_wp2
  all_goals
    refine bodyPost_ret (v := _) (by simp [results, Tryz.results211, go_sem]; rfl) rfl ⟨?_, ?_⟩
    · simp only [beq_iff_eq, beq_eq_false_iff_ne, ne_eq] at *
      first
        | (subst n; rfl)
        | (have ho : ¬ (1 ≤ n ∧ n ≤ 75) := by omega
           exact ret_info (opS_out ho).symm (opP_out ho).symm (opW_out ho).symm)
    · exact (Below.refl _ _).alloc (Nat.le_refl _) _

set_option maxHeartbeats 8000000 in
theorem infoCalls_any (n : Int) (h1 : 33 < n) (h2 : n ≤ 47) (w : World) :
    Calls Tryz.prog 212 #[.int .i64 n] w fun e w' => e = .returned (.agg #[.string (opS n), .int .i64 (opP n), .int .i64 (opW n)]) ∧ Below w.heap.size w w' := by
  go_enter Tryz.func212, Tryz.ntmps212
  go_wp2
  all_goals
    refine bodyPost_ret (v := _) (by simp [results, Tryz.results212, go_sem]; rfl) rfl ⟨?_, ?_⟩
    · simp only [beq_iff_eq, beq_eq_false_iff_ne, ne_eq] at *
      first
        | (subst n; rfl)
        | (have ho : ¬ (1 ≤ n ∧ n ≤ 75) := by omega
           exact ret_info (opS_out ho).symm (opP_out ho).symm (opW_out ho).symm)
    · exact (Below.refl _ _).alloc (Nat.le_refl _) _

set_option maxHeartbeats 8000000 in
theorem infoMemory_any (n : Int) (h1 : 47 < n) (h2 : n ≤ 66) (w : World) :
    Calls Tryz.prog 213 #[.int .i64 n] w fun e w' => e = .returned (.agg #[.string (opS n), .int .i64 (opP n), .int .i64 (opW n)]) ∧ Below w.heap.size w w' := by
  go_enter Tryz.func213, Tryz.ntmps213
  go_wp2
  all_goals
    refine bodyPost_ret (v := _) (by simp [results, Tryz.results213, go_sem]; rfl) rfl ⟨?_, ?_⟩
    · simp only [beq_iff_eq, beq_eq_false_iff_ne, ne_eq] at *
      first
        | (subst n; rfl)
        | (have ho : ¬ (1 ≤ n ∧ n ≤ 75) := by omega
           exact ret_info (opS_out ho).symm (opP_out ho).symm (opW_out ho).symm)
    · exact (Below.refl _ _).alloc (Nat.le_refl _) _

set_option maxHeartbeats 8000000 in
theorem infoRest_any (n : Int) (h1 : 66 < n) (w : World) :
    Calls Tryz.prog 214 #[.int .i64 n] w fun e w' => e = .returned (.agg #[.string (opS n), .int .i64 (opP n), .int .i64 (opW n)]) ∧ Below w.heap.size w w' := by
  go_enter Tryz.func214, Tryz.ntmps214
  go_wp2
  all_goals
    refine bodyPost_ret (v := _) (by simp [results, Tryz.results214, go_sem]; rfl) rfl ⟨?_, ?_⟩
    · simp only [beq_iff_eq, beq_eq_false_iff_ne, ne_eq] at *
      first
        | (subst n; rfl)
        | (have ho : ¬ (1 ≤ n ∧ n ≤ 75) := by omega
           exact ret_info (opS_out ho).symm (opP_out ho).symm (opW_out ho).symm)
    · exact (Below.refl _ _).alloc (Nat.le_refl _) _
set_option maxHeartbeats 1000000 in
theorem infoOf_any (n : Int) (w : World) :
  Calls Tryz.prog 182 #[.int .i64 n] w fun e w' => e = .returned (.agg #[.string (opS n), .int .i64 (opP n), .int .i64 (opW n)]) ∧ Below w.heap.size w w' := by
 have hall : n ≤ 12 ∨ (12 < n ∧ n ≤ 33) ∨ (33 < n ∧ n ≤ 47) ∨ (47 < n ∧ n ≤ 66) ∨ 66 < n := by omega
 have hb0 : Below w.heap.size w (w.alloc (.cells #[.string ⟨#[]⟩, .int .i64 0, .int .i64 0] 97)) := (Below.refl _ _).alloc (Nat.le_refl _) _
 have hA0 := At.made w #[.string ⟨#[]⟩, .int .i64 0, .int .i64 0] 97
 rcases hall with h | ⟨h0, h⟩ | ⟨h0, h⟩ | ⟨h0, h⟩ | h
 ·go_enter Tryz.func182, Tryz.ntmps182
  go_wp2_with fail
  refine (infoStack_any n h _).mono ?_
  rintro e w1 ⟨rfl, hb⟩
  have hA := hA0.later hb
  have tc := hA.cell
  have tm := hA.melt
  have HF := (hA.set3 (.string (opS n)) (.int .i64 (opP n)) (.int .i64 (opW n))).cell
  have HB := below_set3 (hb0.trans (hb.mono hb0.size)) (Nat.le_refl w.heap.size) (.string (opS n)) (.int .i64 (opP n)) (.int .i64 (opW n))
  clear hb hb0 hA hA0
  go_wp2
  exact bodyPost_ret (v := .agg #[.string (opS n), .int .i64 (opP n), .int .i64 (opW n)]) (by simp [results, Tryz.results182, go_sem, HF]) rfl ⟨rfl, HB⟩
 ·go_enter Tryz.func182, Tryz.ntmps182
  go_wp2_with fail
  refine (infoNumbers_any n h0 h _).mono ?_
  rintro e w1 ⟨rfl, hb⟩
  have hA := hA0.later hb
  have tc := hA.cell
  have tm := hA.melt
  have HF := (hA.set3 (.string (opS n)) (.int .i64 (opP n)) (.int .i64 (opW n))).cell
  have HB := below_set3 (hb0.trans (hb.mono hb0.size)) (Nat.le_refl w.heap.size) (.string (opS n)) (.int .i64 (opP n)) (.int .i64 (opW n))
  clear hb hb0 hA hA0
  go_wp2
  exact bodyPost_ret (v := .agg #[.string (opS n), .int .i64 (opP n), .int .i64 (opW n)]) (by simp [results, Tryz.results182, go_sem, HF]) rfl ⟨rfl, HB⟩
 ·go_enter Tryz.func182, Tryz.ntmps182
  go_wp2_with fail
  refine (infoCalls_any n h0 h _).mono ?_
  rintro e w1 ⟨rfl, hb⟩
  have hA := hA0.later hb
  have tc := hA.cell
  have tm := hA.melt
  have HF := (hA.set3 (.string (opS n)) (.int .i64 (opP n)) (.int .i64 (opW n))).cell
  have HB := below_set3 (hb0.trans (hb.mono hb0.size)) (Nat.le_refl w.heap.size) (.string (opS n)) (.int .i64 (opP n)) (.int .i64 (opW n))
  clear hb hb0 hA hA0
  go_wp2
  exact bodyPost_ret (v := .agg #[.string (opS n), .int .i64 (opP n), .int .i64 (opW n)]) (by simp [results, Tryz.results182, go_sem, HF]) rfl ⟨rfl, HB⟩
 ·go_enter Tryz.func182, Tryz.ntmps182
  go_wp2_with fail
  refine (infoMemory_any n h0 h _).mono ?_
  rintro e w1 ⟨rfl, hb⟩
  have hA := hA0.later hb
  have tc := hA.cell
  have tm := hA.melt
  have HF := (hA.set3 (.string (opS n)) (.int .i64 (opP n)) (.int .i64 (opW n))).cell
  have HB := below_set3 (hb0.trans (hb.mono hb0.size)) (Nat.le_refl w.heap.size) (.string (opS n)) (.int .i64 (opP n)) (.int .i64 (opW n))
  clear hb hb0 hA hA0
  go_wp2
  exact bodyPost_ret (v := .agg #[.string (opS n), .int .i64 (opP n), .int .i64 (opW n)]) (by simp [results, Tryz.results182, go_sem, HF]) rfl ⟨rfl, HB⟩
 ·go_enter Tryz.func182, Tryz.ntmps182
  go_wp2_with fail
  refine (infoRest_any n h _).mono ?_
  rintro e w1 ⟨rfl, hb⟩
  have hA := hA0.later hb
  have tc := hA.cell
  have tm := hA.melt
  have HF := (hA.set3 (.string (opS n)) (.int .i64 (opP n)) (.int .i64 (opW n))).cell
  have HB := below_set3 (hb0.trans (hb.mono hb0.size)) (Nat.le_refl w.heap.size) (.string (opS n)) (.int .i64 (opP n)) (.int .i64 (opW n))
  clear hb hb0 hA hA0
  go_wp2
  exact bodyPost_ret (v := .agg #[.string (opS n), .int .i64 (opP n), .int .i64 (opW n)]) (by simp [results, Tryz.results182, go_sem, HF]) rfl ⟨rfl, HB⟩

theorem opS_ne {n : Int} (h : 1 ≤ n ∧ n ≤ 75) : opS n ≠ ⟨#[]⟩ := by
 have hall : ∀ k : Nat, k < 75 → (opI ((k : Int) + 1)).1 ≠ [] := by decide +kernel
 have := hall (n - 1).toNat (by omega)
 rw [show (((n - 1).toNat : Int) + 1) = n by omega] at this
 intro e
 apply this
 have := congrArg (fun b => b.data.toList) e
 simpa [opS] using this

theorem opS_full {n : Int} (h : 1 ≤ n ∧ n ≤ 75) : (opS n).toList.isEmpty = false := by
 have hne := opS_ne h
 rw [Lib.toList_data]
 cases e : (opS n).data.toList with
 | nil => exact absurd (by cases hs : opS n with | mk d => rw [hs] at e; simp at e; rw [e]) hne
 | cons _ _ => rfl
theorem empty_full : (⟨#[]⟩ : ByteArray).toList.isEmpty = true := by rw [Lib.toList_data]; rfl

set_option maxHeartbeats 1000000 in
theorem of_in (n : Int) (h1 : 1 ≤ n) (h2 : n ≤ 75) (w : World) :
  Calls Tryz.prog 133 #[.int .i64 n] w fun e w' => e = .returned (.tuple #[.agg #[.string (opS n), .int .i64 (opP n), .int .i64 (opW n)], .int .i64 0]) ∧ Below w.heap.size w w' := by
 have hb0 : Below w.heap.size w (w.alloc (.cells #[.string ⟨#[]⟩, .int .i64 0, .int .i64 0] 97)) := (Below.refl _ _).alloc (Nat.le_refl _) _
 have hA0 := At.made w #[.string ⟨#[]⟩, .int .i64 0, .int .i64 0] 97
 have hq := opS_full ⟨h1, h2⟩
 go_enter Tryz.func133, Tryz.ntmps133
 go_wp2_with fail
 refine (infoOf_any n _).mono ?_
 rintro e w1 ⟨rfl, hb⟩
 have hA := hA0.later hb
 have hbx : Below w1.heap.size w1 (w1.alloc (.cells #[.string (opS n), .int .i64 (opP n), .int .i64 (opW n)] 97)) := (Below.refl _ _).alloc (Nat.le_refl _) _
 have hA2 := hA.later hbx
 have hX := At.made w1 #[.string (opS n), .int .i64 (opP n), .int .i64 (opW n)] 97
 have hB := (hb0.trans (hb.mono hb0.size)).trans (hbx.mono (hb0.trans (hb.mono hb0.size)).size)
 have tc := hA2.cell
 have tm := hA2.melt
 have xc := hX.cell
 have HF := (hA2.set3 (.string (opS n)) (.int .i64 (opP n)) (.int .i64 (opW n))).cell
 have HB := below_set3 hB (Nat.le_refl w.heap.size) (.string (opS n)) (.int .i64 (opP n)) (.int .i64 (opW n))
 clear hb hb0 hA hA0 hbx hA2 hX hB
 go_wp2
 exact bodyPost_ret (v := .tuple #[.agg #[.string (opS n), .int .i64 (opP n), .int .i64 (opW n)], .int .i64 0]) (by simp [results, Tryz.results133, go_sem, HF]) rfl ⟨rfl, HB⟩

set_option maxHeartbeats 1000000 in
theorem of_out (n : Int) (h : ¬ (1 ≤ n ∧ n ≤ 75)) (w : World) :
  Calls Tryz.prog 133 #[.int .i64 n] w fun e w' => e = .returned (.tuple #[.agg #[.string ⟨#[]⟩, .int .i64 0, .int .i64 0], .int .i64 3]) ∧ Below w.heap.size w w' := by
 have hb0 : Below w.heap.size w (w.alloc (.cells #[.string ⟨#[]⟩, .int .i64 0, .int .i64 0] 97)) := (Below.refl _ _).alloc (Nat.le_refl _) _
 have hA0 := At.made w #[.string ⟨#[]⟩, .int .i64 0, .int .i64 0] 97
 have hq := empty_full
 have HI := infoOf_any n (w.alloc (.cells #[.string ⟨#[]⟩, .int .i64 0, .int .i64 0] 97))
 rw [opS_out h, opP_out h, opW_out h] at HI
 clear h
 go_enter Tryz.func133, Tryz.ntmps133
 go_wp2_with fail
 refine Calls.mono HI ?_
 rintro e w1 ⟨rfl, hb⟩
 have hA := hA0.later hb
 have hbx : Below w1.heap.size w1 (w1.alloc (.cells #[.string ⟨#[]⟩, .int .i64 0, .int .i64 0] 97)) := (Below.refl _ _).alloc (Nat.le_refl _) _
 have hA2 := hA.later hbx
 have hX := At.made w1 #[.string ⟨#[]⟩, .int .i64 0, .int .i64 0] 97
 have hB := (hb0.trans (hb.mono hb0.size)).trans (hbx.mono (hb0.trans (hb.mono hb0.size)).size)
 have tc := hA2.cell
 have tm := hA2.melt
 have xc := hX.cell
 have HF := (hA2.set3 (.string ⟨#[]⟩) (.int .i64 0) (.int .i64 0)).cell
 have HB := below_set3 hB (Nat.le_refl w.heap.size) (.string ⟨#[]⟩) (.int .i64 0) (.int .i64 0)
 clear hb hb0 hA hA0 hbx hA2 hX hB HI
 go_wp2
 exact bodyPost_ret (v := .tuple #[.agg #[.string ⟨#[]⟩, .int .i64 0, .int .i64 0], .int .i64 3]) (by simp [results, Tryz.results133, go_sem, HF]) rfl ⟨rfl, HB⟩
end Go.Proofs.YthpmpdpfnlecmaaGreat
