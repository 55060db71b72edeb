/- Texts joined: Mem, Open, Leaf, Types5, OpenT, Cells, Append. -/
import Derived.WalkKit
import Derived.WalkSpells
import Derived.WalkLawsBesides
import Derived.Laws.IdiomCopy
import Derived.Deep.Draws
import Derived.Test.YthpmpdpfnlecmaaGreatRows
import Derived.ProofKit
import Derived.OpenShut
import Derived.ShutString
import Derived.ChangeOld
import Derived.SizedLaws
import Derived.Lib.SmallJoins
import Derived.Deep.Slices
import Derived.Deep.Strs
namespace Go.Proofs.YthpmpdpfnlecmaaGreat
set_option linter.unusedVariables false
set_option linter.unusedSimpArgs false
open Go.RowKit
/-- The cells of bytes. -/
def u8s (bs : List UInt8) : List Value := bs.map fun b => .int .u8 (b.toNat : Int)
theorem u8s_length (bs : List UInt8) : (u8s bs).length = bs.length := by simp [u8s]
theorem u8s_get (bs : List UInt8) (i : Nat) (h : i < bs.length) : (u8s bs)[i]? = some (.int .u8 (bs[i].toNat : Int)) := by
 simp [u8s, List.getElem?_eq_getElem h]
theorem u8s_append (a b : List UInt8) : u8s (a ++ b) = u8s a ++ u8s b := by simp [u8s]

/-- The value is a slice of just these bytes in that world. -/
def Bs (w : World) (v : Value) (bs : List UInt8) : Prop :=
 ∃ a cap, v = .slice a bs.length cap ∧ bs.length ≤ cap ∧ cap ≤ maxLen ∧
  (bs ≠ [] → ∃ b off, a = some ⟨b, off, none⟩ ∧ b < w.heap.size ∧ ∀ i (h : i < bs.length), w.cell? ⟨b, off + i, none⟩ = some (.int .u8 (bs[i].toNat : Int)))

theorem Bs.nil (w : World) : Bs w (.slice none 0 0) [] := ⟨none, 0, rfl, Nat.le_refl _, Nat.zero_le _, fun h => absurd rfl h⟩

theorem Bs.len {w : World} {v : Value} {bs : List UInt8} (h : Bs w v bs) : bs.length ≤ maxLen := by
 obtain ⟨a, cap, _, h1, h2, _⟩ := h; omega

/-- It holds the same bytes in a world in which its block is as it was. -/
theorem Bs.of_block {w w' : World} {v : Value} {bs : List UInt8} (h : Bs w v bs) (hs : w.heap.size ≤ w'.heap.size) (hk : ∀ k, v.ownBlock = some k → k < w.heap.size → w'.heap[k]? = w.heap[k]?) : Bs w' v bs := by
 obtain ⟨a, cap, rfl, h1, h2, h3⟩ := h
 refine ⟨a, cap, rfl, h1, h2, fun hne => ?_⟩
 obtain ⟨b, off, rfl, hb, hc⟩ := h3 hne
 refine ⟨b, off, rfl, by omega, fun i hi => ?_⟩
 rw [← hc i hi]
 exact World.cell?_of_block (hk b rfl hb)

theorem Bs.below {w w' : World} {v : Value} {bs : List UInt8} {B : Nat} (h : Bs w v bs) (hb : Below B w w') (hk : ∀ k, v.ownBlock = some k → k < B) : Bs w' v bs :=
 h.of_block hb.size fun k hv _ => hb.block k (hk k hv)

theorem Bs.later {w w' : World} {v : Value} {bs : List UInt8} (h : Bs w v bs) (hb : Below w.heap.size w w') : Bs w' v bs :=
 h.of_block hb.size fun k _ hk => hb.block k hk

theorem Bs.drewN {w : World} {v : Value} {bs : List UInt8} (h : Bs w v bs) (n : Nat) : Bs (w.drewN n) v bs :=
 h.of_block (Nat.le_refl _) fun _ _ _ => rfl

theorem Below.drewN {B : Nat} {a w : World} (h : Below B a w) (n : Nat) : Below B a (w.drewN n) := ⟨h.os, h.tape, h.output, h.size, h.block⟩

/-- A new block of just these bytes. -/
theorem Bs.made (w : World) (bs : List UInt8) (e : TypeId) (hm : bs.length ≤ maxLen) : Bs (w.alloc (.cells (u8s bs).toArray e)) (.slice (some ⟨w.heap.size, 0, none⟩) bs.length bs.length) bs := by
 refine ⟨_, _, rfl, Nat.le_refl _, hm, fun _ => ⟨_, _, rfl, by simp, fun i hi => ?_⟩⟩
 rw [Nat.zero_add, World.cell?_alloc_at _ _ _ _ rfl]
 simp [u8s_get bs i hi]
end Go.Proofs.YthpmpdpfnlecmaaGreat

namespace Go.Proofs.YthpmpdpfnlecmaaGreat
set_option linter.unusedVariables false
set_option linter.unusedSimpArgs false
open Go.ChangeShapes Go.WideShapes Go.ChangeAt Go.RowKit
open Go.ChangeMaps (open_string shut_string)
theorem Tryz.own : ownKnob Tryz.prog.godebug = none := by kernel_rfl
theorem Tryz.laidOut : laidOutB Tryz.prog = true := by kernel_rfl
end Go.Proofs.YthpmpdpfnlecmaaGreat

namespace Go.Proofs.YthpmpdpfnlecmaaGreat
set_option linter.unusedVariables false
set_option linter.unusedSimpArgs false
open Go.RowKit
def sizeI (n : Int) : Int := if n < 0 then 0 else if 536870911 < n then 0 else if n ≤ 127 then 1 else if n ≤ 16383 then 2 else 4
def markI (n : Int) : Int := if n = 2 then 128 else if n = 4 then 192 else 0
def wantI (c : Int) : Int := if c < 128 then 1 else if c < 192 then 2 else if c < 224 then 4 else 0

theorem ret_bool {a b : Bool} (h : a = b) : Ending.returned (.bool a) = .returned (.bool b) := by rw [h]
theorem ret_int {k : IntKind} {a b : Int} (h : a = b) : Ending.returned (.int k a) = .returned (.int k b) := by rw [h]
theorem ret_int2 {k l : IntKind} {a b c d : Int} (h : a = b) (g : c = d) : Ending.returned (.tuple #[.int k a, .int l c]) = .returned (.tuple #[.int k b, .int l d]) := by rw [h, g]

set_option maxHeartbeats 400000 in
theorem size_any (n : Int) (w : World) :
  Calls Tryz.prog 258 #[.int .i64 n] w fun e w' => e = .returned (.int .i64 (sizeI n)) ∧ w' = w := by
 go_enter Tryz.func258, Tryz.ntmps258
 go_wp2
 all_goals (go_ret; exact ⟨ret_int (by unfold sizeI; omega), rfl⟩)

set_option maxHeartbeats 400000 in
theorem markOf_any (n : Int) (w : World) :
  Calls Tryz.prog 260 #[.int .i64 n] w fun e w' => e = .returned (.int .u8 (markI n)) ∧ w' = w := by
 by_cases h2 : n = 2
 ·subst h2
  go_enter Tryz.func260, Tryz.ntmps260
  go_wp2
  go_ret; exact ⟨rfl, rfl⟩
 ·by_cases h4 : n = 4
  ·subst h4
   go_enter Tryz.func260, Tryz.ntmps260
   go_wp2
   go_ret; exact ⟨rfl, rfl⟩
  ·have e2 : (n == 2) = false := by simp [h2]
   have e4 : (n == 4) = false := by simp [h4]
   go_enter Tryz.func260, Tryz.ntmps260
   go_wp2
   go_ret; exact ⟨ret_int (by simp [markI, h2, h4]), rfl⟩
def plainB (k i d : Int) (r : Bool) : Bool :=
  decide (0 ≤ d ∧ d ≤ 3 ∧ 0 ≤ i ∧ (k = 1 ∧ d = 0 ∧ r = false ∧ i = 0 ∨ (k = 2 ∨ k = 3 ∨ k = 4) ∧ i = 0 ∨ (k = 5 ∨ k = 6) ∧ i < 32 ∨ k = 7 ∧ i ≤ 7))
/-- What may stand there: 0 anywhere, 1 as a field's, 2 as a parameter's or a local's, 3 as what is answered. -/
def mayB (p : Nat) (k i d : Int) (r : Bool) : Bool :=
  if p = 1 then plainB k i d r && (k != 1) && !r else if p = 2 then plainB k i d r && (k != 1) else if p = 3 then plainB k i d r && !r else plainB k i d r

/-- A type: kind, index, dimensions, whether an address. -/
abbrev Ty := Int × Int × Int × Bool
def tv (t : Ty) : Value := .agg #[.int .i64 t.1, .int .i64 t.2.1, .int .i64 t.2.2.1, .bool t.2.2.2]
def plainT (t : Ty) : Bool := plainB t.1 t.2.1 t.2.2.1 t.2.2.2
def mayT (p : Nat) (t : Ty) : Bool := mayB p t.1 t.2.1 t.2.2.1 t.2.2.2

set_option maxHeartbeats 1000000 in
theorem isPlain_any (k i d : Int) (r : Bool) (w : World) :
    Calls Tryz.prog 208 #[.agg #[.int .i64 k, .int .i64 i, .int .i64 d, .bool r]] w fun e w' => e = .returned (.bool (plainB k i d r)) ∧ Below w.heap.size w w' := by
  go_enter Tryz.func208, Tryz.ntmps208
  go_wp2
  all_goals go_ret
  all_goals refine ⟨ret_bool ?_, (Below.refl _ _).alloc (Nat.le_refl _) _⟩
  all_goals try simp only [beq_iff_eq, beq_eq_false_iff_ne, ne_eq] at *
  all_goals (rw [Bool.eq_iff_iff]; cases r <;> first | contradiction | (simp [plainB] <;> omega))

set_option maxHeartbeats 1000000 in
theorem refPlain_any (k i d : Int) (r : Bool) (w : World) :
    Calls Tryz.prog 135 #[.agg #[.int .i64 k, .int .i64 i, .int .i64 d, .bool r]] w fun e w' => e = .returned (.bool (plainB k i d r)) ∧ Below w.heap.size w w' := by
  go_enter Tryz.func135, Tryz.ntmps135
  go_wp2
  all_goals go_ret
  all_goals refine ⟨ret_bool ?_, (Below.refl _ _).alloc (Nat.le_refl _) _⟩
  all_goals try simp only [beq_iff_eq, beq_eq_false_iff_ne, ne_eq] at *
  all_goals (rw [Bool.eq_iff_iff]; cases r <;> first | contradiction | (simp [plainB] <;> omega))

/-- What was there reads as before. -/
theorem bcell {W w1 : World} (hb : Below W.heap.size W w1) : (∀ b o, b < W.heap.size → w1.cell? ⟨b, o, none⟩ = W.cell? ⟨b, o, none⟩) ∧ (∀ b o, b < W.heap.size → w1.frozen? ⟨b, o, none⟩ = W.frozen? ⟨b, o, none⟩) :=
  ⟨fun b o h => hb.cell (p := ⟨b, o, none⟩) h, fun b o h => hb.frozen (p := ⟨b, o, none⟩) h⟩
/-- A box, and something behind it. -/
theorem below_box {w w1 : World} {o : Obj} (hb : Below (w.alloc o).heap.size (w.alloc o) w1) : Below w.heap.size w w1 :=
  ((Below.refl _ _).alloc (Nat.le_refl _) _).trans (hb.mono (by simp))

theorem isVariable_any (k i d : Int) (r : Bool) (w : World) :
    Calls Tryz.prog 221 #[.agg #[.int .i64 k, .int .i64 i, .int .i64 d, .bool r]] w fun e w' => e = .returned (.bool (mayB 2 k i d r)) ∧ Below w.heap.size w w' := by
  go_enter Tryz.func221, Tryz.ntmps221
  go_wp2_with fail
  refine (isPlain_any k i d r _).mono ?_
  rintro e w1 ⟨rfl, hb⟩
  have hB := below_box hb
  obtain ⟨hc, hf⟩ := bcell hb
  clear hb
  go_wp2
  all_goals go_ret
  all_goals refine ⟨ret_bool ?_, hB⟩
  all_goals simp [mayB, *]

theorem isField_any (k i d : Int) (r : Bool) (w : World) :
    Calls Tryz.prog 217 #[.agg #[.int .i64 k, .int .i64 i, .int .i64 d, .bool r]] w fun e w' => e = .returned (.bool (mayB 1 k i d r)) ∧ Below w.heap.size w w' := by
  go_enter Tryz.func217, Tryz.ntmps217
  have h2 : Hid (mayB 1 k i d r = (mayB 2 k i d r && !r)) := by show _ = _; simp [mayB]
  go_wp2_with fail
  refine (isVariable_any k i d r _).mono ?_
  rintro e w1 ⟨rfl, hb⟩
  have hB := below_box hb
  obtain ⟨hc, hf⟩ := bcell hb
  clear hb
  go_wp2
  all_goals go_ret
  all_goals refine ⟨ret_bool ?_, hB⟩
  all_goals (rw [h2.out]; simp [*])

theorem isAnswer_any (k i d : Int) (r : Bool) (w : World) :
    Calls Tryz.prog 219 #[.agg #[.int .i64 k, .int .i64 i, .int .i64 d, .bool r]] w fun e w' => e = .returned (.bool (mayB 3 k i d r)) ∧ Below w.heap.size w w' := by
  go_enter Tryz.func219, Tryz.ntmps219
  go_wp2_with fail
  refine (isPlain_any k i d r _).mono ?_
  rintro e w1 ⟨rfl, hb⟩
  have hB := below_box hb
  obtain ⟨hc, hf⟩ := bcell hb
  clear hb
  go_wp2
  all_goals go_ret
  all_goals refine ⟨ret_bool ?_, hB⟩
  all_goals simp [mayB, *]

theorem plain_any (k i d : Int) (r : Bool) (w : World) :
    Calls Tryz.prog 179 #[.agg #[.int .i64 k, .int .i64 i, .int .i64 d, .bool r]] w fun e w' => e = .returned (.bool (plainB k i d r)) ∧ Below w.heap.size w w' := by
  go_enter Tryz.func179, Tryz.ntmps179
  go_wp2_with fail
  refine (isPlain_any k i d r _).mono ?_
  rintro e w1 ⟨rfl, hb⟩
  have hB := below_box hb
  clear hb
  go_wp2
  go_ret
  exact ⟨rfl, hB⟩

theorem where1_any (k i d : Int) (r : Bool) (w : World) :
    Calls Tryz.prog 169 #[.agg #[.int .i64 k, .int .i64 i, .int .i64 d, .bool r], .int .i64 1] w fun e w' => e = .returned (.bool (mayB 1 k i d r)) ∧ Below w.heap.size w w' := by
  go_enter Tryz.func169, Tryz.ntmps169
  go_wp2_with fail
  refine (refPlain_any k i d r _).mono ?_
  rintro e w1 ⟨rfl, hb⟩
  have hB := below_box hb
  obtain ⟨hc, hf⟩ := bcell hb
  clear hb
  go_wp2
  all_goals go_ret
  all_goals refine ⟨ret_bool ?_, hB⟩
  all_goals first | (have hq : plainB k i d r = true := by simpa using ‹(!plainB k i d r) = false›
                     simp [mayB, *]) | (have hq : plainB k i d r = false := by simpa using ‹(!plainB k i d r) = true›
                                        simp [mayB, *])

theorem where2_any (k i d : Int) (r : Bool) (w : World) :
    Calls Tryz.prog 169 #[.agg #[.int .i64 k, .int .i64 i, .int .i64 d, .bool r], .int .i64 2] w fun e w' => e = .returned (.bool (mayB 2 k i d r)) ∧ Below w.heap.size w w' := by
  go_enter Tryz.func169, Tryz.ntmps169
  go_wp2_with fail
  refine (refPlain_any k i d r _).mono ?_
  rintro e w1 ⟨rfl, hb⟩
  have hB := below_box hb
  obtain ⟨hc, hf⟩ := bcell hb
  clear hb
  go_wp2
  all_goals go_ret
  all_goals refine ⟨ret_bool ?_, hB⟩
  all_goals first | (have hq : plainB k i d r = true := by simpa using ‹(!plainB k i d r) = false›
                     simp [mayB, *]) | (have hq : plainB k i d r = false := by simpa using ‹(!plainB k i d r) = true›
                                        simp [mayB, *])

theorem where3_any (k i d : Int) (r : Bool) (w : World) :
    Calls Tryz.prog 169 #[.agg #[.int .i64 k, .int .i64 i, .int .i64 d, .bool r], .int .i64 3] w fun e w' => e = .returned (.bool (mayB 3 k i d r)) ∧ Below w.heap.size w w' := by
  go_enter Tryz.func169, Tryz.ntmps169
  go_wp2_with fail
  refine (refPlain_any k i d r _).mono ?_
  rintro e w1 ⟨rfl, hb⟩
  have hB := below_box hb
  obtain ⟨hc, hf⟩ := bcell hb
  clear hb
  go_wp2
  all_goals go_ret
  all_goals refine ⟨ret_bool ?_, hB⟩
  all_goals first | (have hq : plainB k i d r = true := by simpa using ‹(!plainB k i d r) = false›
                     simp [mayB, *]) | (have hq : plainB k i d r = false := by simpa using ‹(!plainB k i d r) = true›
                                        simp [mayB, *])
end Go.Proofs.YthpmpdpfnlecmaaGreat

namespace Go.Proofs.YthpmpdpfnlecmaaGreat
set_option linter.unusedVariables false
set_option linter.unusedSimpArgs false
open Go.ChangeShapes Go.WideShapes Go.ChangeAt Go.RowKit
theorem list4 {α : Type} {cs : List α} (h : cs.length = 4) : ∃ c0 c1 c2 c3, cs = [c0, c1, c2, c3] := by
 match cs, h with
 | [c0, c1, c2, c3], _ => exact ⟨c0, c1, c2, c3, rfl⟩
theorem list6 {α : Type} {cs : List α} (h : cs.length = 6) : ∃ c0 c1 c2 c3 c4 c5, cs = [c0, c1, c2, c3, c4, c5] := by
 match cs, h with
 | [c0, c1, c2, c3, c4, c5], _ => exact ⟨c0, c1, c2, c3, c4, c5, rfl⟩
theorem Tryz.cellsTy : Tryz.prog.cellsOf 51 = 4 := by kernel_rfl
theorem Tryz.cellsInt : Tryz.prog.cellsOf 3 = 1 := by kernel_rfl
theorem Tryz.cellsBool : Tryz.prog.cellsOf 4 = 1 := by kernel_rfl

/-- The cells of a type. -/
theorem tyCells {H : Type} {enc : TypeId × Value → H} {W : World} {cs : List Value} {n : Nat} {y : DataW H × List MemPlace}
  (h : DataW.trod enc Tryz.prog W 0 (fun _ => true) true n 51 cs = some y) : ∃ t : Ty, cs = [.int .i64 t.1, .int .i64 t.2.1, .int .i64 t.2.2.1, .bool t.2.2.2] := by
 obtain ⟨y0, y1, y2, y3, m, _, hl, h0, h1, h2, h3⟩ := Go.Joins.trod_struct4 Tryz.underlying51 h
 rw [Tryz.cellsTy] at hl
 obtain ⟨c0, c1, c2, c3, rfl⟩ := list4 hl
 simp only [Tryz.cellsInt, Tryz.cellsBool, List.drop_zero, List.drop_succ_cons, List.take_succ_cons, List.take_zero] at h0 h1 h2 h3
 obtain ⟨x0, e0, _, _⟩ := DataW.trod_int Tryz.underlying3 h0
 obtain ⟨x1, e1, _, _⟩ := DataW.trod_int Tryz.underlying3 h1
 obtain ⟨x2, e2, _, _⟩ := DataW.trod_int Tryz.underlying3 h2
 obtain ⟨x3, e3, _⟩ := DataW.trod_bool Tryz.underlying4 h3
 simp only [List.cons.injEq, and_true] at e0 e1 e2 e3
 subst e0 e1 e2 e3
 exact ⟨(x0, x1, x2, x3), rfl⟩

/-- An instruction: op, number, type. -/
abbrev Ins := Int × Int × Ty
def iv (x : Ins) : Value := .agg #[.int .i64 x.1, .int .i64 x.2.1, .int .i64 x.2.2.1, .int .i64 x.2.2.2.1, .int .i64 x.2.2.2.2.1, .bool x.2.2.2.2.2]
theorem Tryz.cellsI64 : Tryz.prog.cellsOf 2 = 1 := by kernel_rfl
theorem Tryz.cellsInstr : Tryz.prog.cellsOf 89 = 6 := by kernel_rfl

/-- The cells of an instruction. -/
theorem insCells {H : Type} {enc : TypeId × Value → H} {W : World} {cs : List Value} {n : Nat} {y : DataW H × List MemPlace} (hl : cs.length = 6)
  (h : DataW.trod enc Tryz.prog W 0 (fun _ => true) true n 89 cs = some y) : ∃ x : Ins, cs = [.int .i64 x.1, .int .i64 x.2.1, .int .i64 x.2.2.1, .int .i64 x.2.2.2.1, .int .i64 x.2.2.2.2.1, .bool x.2.2.2.2.2] := by
 obtain ⟨c0, c1, c2, c3, c4, c5, rfl⟩ := list6 hl
 obtain ⟨y0, y1, y2, m, _, _, h0, h1, h2⟩ := Go.Deep.trod_struct3 Tryz.underlying89 h
 simp only [Tryz.cellsInt, Tryz.cellsI64, Tryz.cellsTy, List.drop_zero, List.drop_succ_cons, List.take_succ_cons, List.take_zero] at h0 h1 h2
 obtain ⟨x0, e0, _, _⟩ := DataW.trod_int Tryz.underlying3 h0
 obtain ⟨x1, e1, _, _⟩ := DataW.trod_int Tryz.underlying2 h1
 obtain ⟨t, e2⟩ := tyCells h2
 simp only [List.cons.injEq, and_true] at e0 e1 e2
 obtain ⟨rfl, rfl, rfl, rfl⟩ := e2
 subst e0 e1
 exact ⟨(x0, x1, t), rfl⟩
end Go.Proofs.YthpmpdpfnlecmaaGreat

namespace Go.Proofs.YthpmpdpfnlecmaaGreat
set_option linter.unusedVariables false
set_option linter.unusedSimpArgs false
open Go.RowKit
/-- In block g lie these cells. -/
def At (w : World) (g : Nat) (C : Array Value) (t : TypeId) : Prop := w.heap[g]? = some (.cells C t (0, 0))

theorem At.cell {w : World} {g : Nat} {C : Array Value} {t : TypeId} (h : At w g C t) : ∀ o, w.cell? ⟨g, o, none⟩ = C[o]? := by
 unfold At at h
 intro o
 simp [World.cell?, h]
theorem At.melt {w : World} {g : Nat} {C : Array Value} {t : TypeId} (h : At w g C t) : ∀ o, w.frozen? ⟨g, o, none⟩ = false := by
 unfold At at h
 intro o
 simp [World.frozen?, h]
theorem At.lt {w : World} {g : Nat} {C : Array Value} {t : TypeId} (h : At w g C t) : g < w.heap.size := (Array.getElem?_eq_some_iff.1 h).1
theorem At.below {w w' : World} {g B : Nat} {C : Array Value} {t : TypeId} (h : At w g C t) (hb : Below B w w') (hg : g < B) : At w' g C t := by
 unfold At at h ⊢
 rw [hb.block g hg]; exact h
theorem At.later {w w' : World} {g : Nat} {C : Array Value} {t : TypeId} (h : At w g C t) (hb : Below w.heap.size w w') : At w' g C t := h.below hb h.lt
theorem At.drewN {w : World} {g : Nat} {C : Array Value} {t : TypeId} (h : At w g C t) (n : Nat) : At (w.drewN n) g C t := h
theorem At.made (w : World) (C : Array Value) (t : TypeId) : At (w.alloc (.cells C t)) w.heap.size C t := by
 unfold At
 have := heap_alloc_new w (.cells C t)
 simpa using this
theorem At.next {w : World} {g : Nat} {C : Array Value} {t : TypeId} (h : At w g C t) (o : Obj) : At (w.alloc o) g C t := h.later ((Below.refl _ _).alloc (Nat.le_refl _) _)
theorem At.other {w : World} {g g' o : Nat} {C : Array Value} {t : TypeId} (h : At w g C t) (hg : g ≠ g') (u : Value) : At (w.setCell ⟨g', o, none⟩ u) g C t := by
 unfold At at h ⊢
 rw [Below.heap_setCell _ _ _ _ hg]; exact h
theorem At.set {w : World} {g : Nat} {C : Array Value} {t : TypeId} (h : At w g C t) (o : Nat) (u : Value) : At (w.setCell ⟨g, o, none⟩ u) g (C.setIfInBounds o u) t := by
 unfold At at h ⊢
 rw [setCell_eq_setRow w g o _ _ _ _ h, setRow_heap w g _ _ _ _ h]

/-- Three, and six cells of a block are laid anew. -/
theorem At.set3 {w : World} {g : Nat} {c0 c1 c2 : Value} {t : TypeId} (h : At w g #[c0, c1, c2] t) (x0 x1 x2 : Value) :
  At (((w.setCell ⟨g, 0, none⟩ x0).setCell ⟨g, 1, none⟩ x1).setCell ⟨g, 2, none⟩ x2) g #[x0, x1, x2] t := by
 have := ((h.set 0 x0).set 1 x1).set 2 x2
 simpa using this
theorem At.set4 {w : World} {g : Nat} {c0 c1 c2 c3 : Value} {t : TypeId} (h : At w g #[c0, c1, c2, c3] t) (x0 x1 x2 x3 : Value) :
  At ((((w.setCell ⟨g, 0, none⟩ x0).setCell ⟨g, 1, none⟩ x1).setCell ⟨g, 2, none⟩ x2).setCell ⟨g, 3, none⟩ x3) g #[x0, x1, x2, x3] t := by
 have := (((h.set 0 x0).set 1 x1).set 2 x2).set 3 x3
 simpa using this
theorem At.set6 {w : World} {g : Nat} {c0 c1 c2 c3 c4 c5 : Value} {t : TypeId} (h : At w g #[c0, c1, c2, c3, c4, c5] t) (x0 x1 x2 x3 x4 x5 : Value) :
  At ((((((w.setCell ⟨g, 0, none⟩ x0).setCell ⟨g, 1, none⟩ x1).setCell ⟨g, 2, none⟩ x2).setCell ⟨g, 3, none⟩ x3).setCell ⟨g, 4, none⟩ x4).setCell ⟨g, 5, none⟩ x5) g #[x0, x1, x2, x3, x4, x5] t := by
 have := (((((h.set 0 x0).set 1 x1).set 2 x2).set 3 x3).set 4 x4).set 5 x5
 simpa using this
theorem below_set3 {B g : Nat} {w w1 : World} (h : Below B w w1) (hg : B ≤ g) (x0 x1 x2 : Value) : Below B w (((w1.setCell ⟨g, 0, none⟩ x0).setCell ⟨g, 1, none⟩ x1).setCell ⟨g, 2, none⟩ x2) :=
 ((h.setCell hg _).setCell hg _).setCell hg _
theorem below_set4 {B g : Nat} {w w1 : World} (h : Below B w w1) (hg : B ≤ g) (x0 x1 x2 x3 : Value) : Below B w ((((w1.setCell ⟨g, 0, none⟩ x0).setCell ⟨g, 1, none⟩ x1).setCell ⟨g, 2, none⟩ x2).setCell ⟨g, 3, none⟩ x3) :=
 (((h.setCell hg _).setCell hg _).setCell hg _).setCell hg _
theorem below_set6 {B g : Nat} {w w1 : World} (h : Below B w w1) (hg : B ≤ g) (x0 x1 x2 x3 x4 x5 : Value) : Below B w ((((((w1.setCell ⟨g, 0, none⟩ x0).setCell ⟨g, 1, none⟩ x1).setCell ⟨g, 2, none⟩ x2).setCell ⟨g, 3, none⟩ x3).setCell ⟨g, 4, none⟩ x4).setCell ⟨g, 5, none⟩ x5) :=
 (((((h.setCell hg _).setCell hg _).setCell hg _).setCell hg _).setCell hg _).setCell hg _
/-- A slice of just these bytes in memory that was made from block base on. -/
def Own (w : World) (base : Nat) (e : TypeId) (v : Value) (xs : List UInt8) : Prop := w.ownsRow base e 1 v xs.length (u8s xs)

theorem Own.bs {w : World} {base : Nat} {e : TypeId} {v : Value} {xs : List UInt8} (h : Own w base e v xs) : Bs w v xs := by
 obtain ⟨h1, h2⟩ := h
 rcases h2 with ⟨rfl, h0⟩ | ⟨g, cap, cur, rfl, hg, hh, hn, hm, hs, ht⟩
 ·have : xs = [] := List.eq_nil_of_length_eq_zero h0
  subst this; exact Bs.nil w
 ·refine ⟨_, cap, rfl, hn, hm, fun _ => ⟨g, 0, rfl, (Array.getElem?_eq_some_iff.1 hh).1, fun i hi => ?_⟩⟩
  have : (cur.toList.take (xs.length * 1))[i]? = some (.int .u8 (xs[i].toNat : Int)) := by rw [ht]; exact u8s_get xs i hi
  simp only [World.cell?, hh]
  rw [List.getElem?_take, if_pos (by omega)] at this
  simpa using this

theorem Own.block {w : World} {base : Nat} {e : TypeId} {v : Value} {xs : List UInt8} (h : Own w base e v xs) : ∀ k, v.ownBlock = some k → base ≤ k ∧ k < w.heap.size := World.ownsRow.lt h

theorem Own.later {w w' : World} {base : Nat} {e : TypeId} {v : Value} {xs : List UInt8} (h : Own w base e v xs) (hb : Below w.heap.size w w') : Own w' base e v xs := by
 obtain ⟨h1, h2⟩ := h
 refine ⟨h1, ?_⟩
 rcases h2 with h2 | ⟨g, cap, cur, hv, hg, hh, r⟩
 ·exact Or.inl h2
 ·exact Or.inr ⟨g, cap, cur, hv, hg, by rw [hb.block g (Array.getElem?_eq_some_iff.1 hh).1]; exact hh, r⟩

theorem Own.nil (w : World) (base : Nat) (e : TypeId) : Own w base e (.slice none 0 0) [] := World.ownsRow_nil w base e 1

theorem Own.lit (w : World) (base : Nat) (e : TypeId) (xs : List UInt8) (C : Array Value) (n : Nat) (hb : base ≤ w.heap.size) (hC : C = (u8s xs).toArray) (hn : n = xs.length) (hm : xs.length ≤ maxLen) :
  Own (w.alloc (.cells C e)) base e (.slice (some ⟨w.heap.size, 0, none⟩) n n) xs := by
 subst hC hn
 have := World.ownsRow_lit (base := base) (e := e) (size := 1) w (u8s xs).toArray xs.length hb hm (by simp [u8s_length])
 unfold Own
 simpa using this

theorem run_append_bs {P : Program} (w : World) (base : Nat) (t ty e : TypeId) (ht : P.underlying t = some (.slice e)) (hinfo : (P.info? e).map (fun i => (i.zero, i.size, i.bytes)) = some (some (.int .u8 0), 1, 1))
  {v y : Value} {xs ys : List UInt8} (hv : Own w base e v xs) (hy : Bs w y ys) (hb : xs.length + ys.length ≤ 140737488355328) (hbase : base ≤ w.heap.size) :
  ∃ v' w', (Builtin.append_ #[t, t] ty #[v, y]).run P w = .ok v' w' ∧ Own w' base e v' (xs ++ ys) ∧ w.grownBy w' v.ownBlock := by
 obtain ⟨i, hi, hz0, hz1, hz2⟩ := info_parts hinfo
 obtain ⟨a, cap, rfl, h1, h2, h3⟩ := hy
 cases a with
 | none =>
  have hys : ys = [] := by
   by_cases h : ys = []
   ·exact h
   ·obtain ⟨b, off, hh, _⟩ := h3 h; simp at hh
  subst hys
  refine ⟨v, w, ?_, by simpa using hv, ⟨rfl, rfl, rfl, Nat.le_refl _, fun _ _ _ => rfl⟩⟩
  rcases hv.2 with ⟨rfl, h0⟩ | ⟨g, cp, cur, rfl, _, _, hnc, _⟩
  ·simp [Builtin.append_, run_underlying ht, sizeOf, typeInfo, hi, Builtin.lenOf, Builtin.firstCells]
  ·simp [Builtin.append_, run_underlying ht, sizeOf, typeInfo, hi, Builtin.lenOf, Builtin.firstCells, hnc, storeCells]
 | some ad =>
  have hnews : ∀ j u, (u8s ys)[j]? = some u → w.cell? (ad.add j) = some u := by
   intro j u hj
   have hjl : j < ys.length := by
    rcases Nat.lt_or_ge j ys.length with h | h
    ·exact h
    ·rw [List.getElem?_eq_none (by simpa [u8s] using h)] at hj; simp at hj
   obtain ⟨b, off, hh, _, hc⟩ := h3 (by intro e; subst e; simp at hjl)
   simp only [Option.some.injEq] at hh
   subst hh
   rw [u8s_get ys j hjl] at hj
   have hplain : (⟨b, off, none⟩ : Addr).add j = ⟨b, off + j, none⟩ := by unfold Addr.add; split <;> simp_all
   rw [hplain, hc j hjl]; exact hj
  obtain ⟨v', w', hr, ho, hg, _⟩ := run_append_own (P := P) w base t ty e i (.int .u8 0) 1 1 ht hi hz0 hz1 hz2 rfl (by omega) v xs.length (u8s xs) hv ad ys.length cap (u8s ys) (by simp [u8s_length]) hnews
   (fun u hu => by simp [u8s] at hu; obtain ⟨x, _, rfl⟩ := hu; rfl) (by unfold maxLen; omega) (by omega) hbase
  refine ⟨v', w', hr, ?_, hg⟩
  unfold Own
  rw [List.length_append, u8s_append]
  exact ho

theorem wpList_want {P : Program} {ops : Array Oper} {Q : Exit → Act → World → Prop} {a : Act} {w : World} {rest : List Oper} {o : Oper} (hw : Region.wanted o (yielded ops a.tmps) = true)
  (h : ∀ K : Act → World → Prop, (∀ a w, wpList P ops Q rest a w → K a w) → o.wp P a w K Q) : wpList P ops Q (o :: rest) a w :=
 wpList_step fun K hK => by rw [if_pos hw]; exact h K hK

/-- The law for the walk: 'append(v, y...)'. -/
theorem wpList_append_bs {P : Program} {w : World} {ops : Array Oper} {rest : List Oper} {o : Oper} {a : Act} {Q : Exit → Act → World → Prop} (hw : Region.wanted o (yielded ops a.tmps) = true) (s x : Operand) (t : TypeId)
  (ho : o.op = .call { callee := .builtin .append, args := #[s, x], argTypes := #[t, t] }) (base : Nat) (e : TypeId) (ht : P.underlying t = some (.slice e)) (hinfo : (P.info? e).map (fun i => (i.zero, i.size, i.bytes)) = some (some (.int .u8 0), 1, 1))
  {v y : Value} {xs ys : List UInt8} (hs : a.eval s = v) (hx : a.eval x = y) (hv : Own w base e v xs) (hy : Bs w y ys) (hb : xs.length + ys.length ≤ 140737488355328) (hbase : base ≤ w.heap.size)
  (h : ∀ v' w', Own w' base e v' (xs ++ ys) → w.grownBy w' v.ownBlock → wpList P ops Q rest (a.put o.dst v') w') : wpList P ops Q (o :: rest) a w := by
 refine wpList_want hw fun K hK => ?_
 obtain ⟨v', w', hr, h2, h3⟩ := run_append_bs (P := P) w base t o.type e ht hinfo hv hy hb hbase
 unfold Oper.wp execOp
 simp only [ho, resolve, invoke, builtin, Sem.run_bind, Sem.run_pure, Result.andThen_ok, List.map_toArray, List.map_cons, List.map_nil, hs, hx, hr]
 exact hK _ _ (h v' w' h2 h3)

/-- The bytes at a place, so many. -/
def seg (bs : List UInt8) (at_ n : Nat) : List UInt8 := (bs.drop at_).take n
end Go.Proofs.YthpmpdpfnlecmaaGreat
