/- Texts joined: Mem, Open, Leaf, Types5, OpenT, Cells. -/
import Derived.WalkKit
import Derived.WalkSpells
import Derived.WalkLawsBesides
import Derived.Laws.IdiomCopy
import Derived.Deep.Draws
import Derived.Test.YtclmafoelibihaaGreatRows
import Derived.ProofKit
import Derived.OpenShut
import Derived.ShutString
import Derived.ChangeOld
import Derived.SizedLaws
import Derived.Lib.SmallJoins
import Derived.Deep.Slices
import Derived.Deep.Strs
/- Byte slices in memory: what a value is told to hold, and how that stands when the world goes on. No program is named here. -/
namespace Go.Proofs.YtclmafoelibihaaGreat
set_option linter.unusedVariables false
set_option linter.unusedSimpArgs false
open Go.RowKit

/-- The cells of bytes. -/
def u8s (bs : List UInt8) : List Value := bs.map fun b => .int .u8 (b.toNat : Int)
theorem u8s_length (bs : List UInt8) : (u8s bs).length = bs.length := by simp [u8s]
theorem u8s_get (bs : List UInt8) (i : Nat) (h : i < bs.length) : (u8s bs)[i]? = some (.int .u8 (bs[i].toNat : Int)) := by
  simp [u8s, List.getElem?_eq_getElem h]
theorem u8s_append (a b : List UInt8) : u8s (a ++ b) = u8s a ++ u8s b := by simp [u8s]

/-- The value is a slice of just these bytes in that world. -/
def Bs (w : World) (v : Value) (bs : List UInt8) : Prop :=
  ∃ a cap, v = .slice a bs.length cap ∧ bs.length ≤ cap ∧ cap ≤ maxLen ∧
    (bs ≠ [] → ∃ b off, a = some ⟨b, off, none⟩ ∧ b < w.heap.size ∧ ∀ i (h : i < bs.length), w.cell? ⟨b, off + i, none⟩ = some (.int .u8 (bs[i].toNat : Int)))

theorem Bs.nil (w : World) : Bs w (.slice none 0 0) [] := ⟨none, 0, rfl, Nat.le_refl _, Nat.zero_le _, fun h => absurd rfl h⟩

theorem Bs.len {w : World} {v : Value} {bs : List UInt8} (h : Bs w v bs) : bs.length ≤ maxLen := by
  obtain ⟨a, cap, _, h1, h2, _⟩ := h; omega

/-- It holds the same bytes in a world in which its block is as it was. -/
theorem Bs.of_block {w w' : World} {v : Value} {bs : List UInt8} (h : Bs w v bs) (hs : w.heap.size ≤ w'.heap.size) (hk : ∀ k, v.ownBlock = some k → k < w.heap.size → w'.heap[k]? = w.heap[k]?) : Bs w' v bs := by
  obtain ⟨a, cap, rfl, h1, h2, h3⟩ := h
  refine ⟨a, cap, rfl, h1, h2, fun hne => ?_⟩
  obtain ⟨b, off, rfl, hb, hc⟩ := h3 hne
  refine ⟨b, off, rfl, by omega, fun i hi => ?_⟩
  rw [← hc i hi]
  exact World.cell?_of_block (hk b rfl hb)

theorem Bs.below {w w' : World} {v : Value} {bs : List UInt8} {B : Nat} (h : Bs w v bs) (hb : Below B w w') (hk : ∀ k, v.ownBlock = some k → k < B) : Bs w' v bs :=
  h.of_block hb.size fun k hv _ => hb.block k (hk k hv)

theorem Bs.later {w w' : World} {v : Value} {bs : List UInt8} (h : Bs w v bs) (hb : Below w.heap.size w w') : Bs w' v bs :=
  h.of_block hb.size fun k _ hk => hb.block k hk

theorem Bs.drewN {w : World} {v : Value} {bs : List UInt8} (h : Bs w v bs) (n : Nat) : Bs (w.drewN n) v bs :=
  h.of_block (Nat.le_refl _) fun _ _ _ => rfl

theorem Below.drewN {B : Nat} {a w : World} (h : Below B a w) (n : Nat) : Below B a (w.drewN n) := ⟨h.os, h.tape, h.output, h.size, h.block⟩

/-- A new block of just these bytes. -/
theorem Bs.made (w : World) (bs : List UInt8) (e : TypeId) (hm : bs.length ≤ maxLen) : Bs (w.alloc (.cells (u8s bs).toArray e)) (.slice (some ⟨w.heap.size, 0, none⟩) bs.length bs.length) bs := by
  refine ⟨_, _, rfl, Nat.le_refl _, hm, fun _ => ⟨_, _, rfl, by simp, fun i hi => ?_⟩⟩
  rw [Nat.zero_add, World.cell?_alloc_at _ _ _ _ rfl]
  simp [u8s_get bs i hi]

/-- A callee that turns nothing, in a region that draws, behind draws. -/
theorem quiet_on {P : Program} {f : FuncId} {args : Array Value} {w : World} {n x : Nat} {v : Value} (h : Calls P f args (w.drewN (n + x)) fun e w' => e = .returned v ∧ w' = w.drewN (n + x)) :
    Calls P f args (w.drewN (n + x)) fun e w'' => e = .returned v ∧ ∃ m, w'' = w.drewN (n + m) := h.mono fun _ _ ⟨he, hm⟩ => ⟨he, x, hm⟩
theorem quiet_on_draws {P : Program} {f : FuncId} {args : Array Value} {w : World} {n x : Nat} {v : Value} (h : Calls P f args (w.drewN (n + x)) fun e w' => e = .returned v ∧ ∃ m, w' = (w.drewN (n + x)).drewN m) :
    Calls P f args (w.drewN (n + x)) fun e w'' => e = .returned v ∧ ∃ m, w'' = w.drewN (n + m) := h.mono fun _ _ ⟨he, m, hm⟩ => ⟨he, x + m, by rw [hm, World.drewN_drewN, Nat.add_assoc]⟩

end Go.Proofs.YtclmafoelibihaaGreat

/- From the readings of a row's arguments to what the walks ask. -/
namespace Go.Proofs.YtclmafoelibihaaGreat
set_option linter.unusedVariables false
set_option linter.unusedSimpArgs false
open Go.ChangeShapes Go.WideShapes Go.ChangeAt Go.RowKit
open Go.ChangeMaps (open_string shut_string)

theorem Tryz.own : ownKnob Tryz.prog.godebug = none := by kernel_rfl
theorem Tryz.laidOut : laidOutB Tryz.prog = true := by kernel_rfl
theorem Tryz.bytesU8 : Tryz.prog.bytesOf 5 = 1 := by kernel_rfl

set_option maxRecDepth 100000 in
/-- A slice of bytes that came in. -/
theorem openBs {H : Type} {enc : TypeId × Value → H} {W : World} {base : Nat} {v : Value} {d : DataW H} {p : List MemPlace}
    (hv : Value.okWide Tryz.prog W .any base 114 v) (h : DataW.Trod enc Tryz.prog W 0 (fun _ => true) true 114 v d p) :
    ∃ bs, Bs W v bs ∧ (bs = [] ∨ ∃ elems spare, d = .slice elems spare ∧ elems.length = bs.length) := by
  obtain ⟨a, len, cap, rfl⟩ := okWide_slice Tryz.underlying114 hv
  obtain ⟨fuel, hf⟩ := h
  rcases open_ints Tryz.underlying114 Tryz.underlying5 (by kernel_rfl) hf with ⟨hcs, _⟩ | ⟨x, l, c, zs, hcs, _, hl, hm, hz, hd, hcell, hwz⟩
  · simp [Value.cells] at hcs
    obtain ⟨rfl, rfl, rfl⟩ := hcs
    exact ⟨[], Bs.nil W, .inl rfl⟩
  · simp [Value.cells] at hcs
    obtain ⟨rfl, rfl, rfl⟩ := hcs
    simp only [Prod.mk.injEq] at hd
    simp only [if_true] at hz
    have hlen : ((zs.take len).map fun z => UInt8.ofNat z.toNat).length = len := by simp; omega
    refine ⟨(zs.take len).map fun z => UInt8.ofNat z.toNat, ⟨some x, cap, by rw [hlen], by rw [hlen]; exact hl, hm, fun hne => ?_⟩, .inr ⟨_, _, hd.1, by simp [lits]⟩⟩
    have hpos : 0 < len := by
      rcases Nat.eq_zero_or_pos len with h | h
      · subst h; simp at hne
      · exact h
    obtain ⟨b, off, rfl, hc⟩ := ints_at hcell (by omega)
    have c0 := hc 0 (by omega)
    refine ⟨b, off, rfl, ?_, fun i hi => ?_⟩
    · rcases Nat.lt_or_ge b W.heap.size with h | h
      · exact h
      · simp [World.cell?, Array.getElem?_eq_none h] at c0
    · rw [hlen] at hi
      have hzi : i < zs.length := by omega
      have hw := hwz zs[i] (List.getElem_mem hzi)
      have hbd := bounds_u8 hw
      rw [hc i hzi]
      simp [List.getD, List.getElem?_eq_getElem hzi]
      omega

end Go.Proofs.YtclmafoelibihaaGreat

/- The small functions of layer 1, and what a nil reader answers: contracts over the seat's translation. -/
namespace Go.Proofs.YtclmafoelibihaaGreat
set_option linter.unusedVariables false
set_option linter.unusedSimpArgs false
open Go.RowKit

def wideB (n : Int) : Bool := n == 1 || n == 2 || n == 4 || n == 8
def sizeI (n : Int) : Int := if n < 0 then 0 else if 536870911 < n then 0 else if n ≤ 127 then 1 else if n ≤ 16383 then 2 else 4
def markI (n : Int) : Int := if n = 2 then 128 else if n = 4 then 192 else 0
def wantI (c : Int) : Int := if c < 128 then 1 else if c < 192 then 2 else if c < 224 then 4 else 0

theorem ret_bool {a b : Bool} (h : a = b) : Ending.returned (.bool a) = .returned (.bool b) := by rw [h]
theorem ret_int {k : IntKind} {a b : Int} (h : a = b) : Ending.returned (.int k a) = .returned (.int k b) := by rw [h]
theorem ret_int2 {k l : IntKind} {a b c d : Int} (h : a = b) (g : c = d) : Ending.returned (.tuple #[.int k a, .int l c]) = .returned (.tuple #[.int k b, .int l d]) := by rw [h, g]

set_option maxHeartbeats 400000 in
theorem size_any (n : Int) (w : World) :
    Calls Tryz.prog 191 #[.int .i64 n] w fun e w' => e = .returned (.int .i64 (sizeI n)) ∧ w' = w := by
  go_enter Tryz.func191, Tryz.ntmps191
  go_wp2
  all_goals (go_ret; exact ⟨ret_int (by unfold sizeI; omega), rfl⟩)

set_option maxHeartbeats 400000 in
theorem markOf_any (n : Int) (w : World) :
    Calls Tryz.prog 193 #[.int .i64 n] w fun e w' => e = .returned (.int .u8 (markI n)) ∧ w' = w := by
  by_cases h2 : n = 2
  · subst h2
    go_enter Tryz.func193, Tryz.ntmps193
    go_wp2
    go_ret; exact ⟨rfl, rfl⟩
  · by_cases h4 : n = 4
    · subst h4
      go_enter Tryz.func193, Tryz.ntmps193
      go_wp2
      go_ret; exact ⟨rfl, rfl⟩
    · have e2 : (n == 2) = false := by simp [h2]
      have e4 : (n == 4) = false := by simp [h4]
      go_enter Tryz.func193, Tryz.ntmps193
      go_wp2
      go_ret; exact ⟨ret_int (by simp [markI, h2, h4]), rfl⟩

end Go.Proofs.YtclmafoelibihaaGreat

/- Types as they are told in layer 5: what is plain, what may stand where, and the code's and the references' answers to that. -/
namespace Go.Proofs.YtclmafoelibihaaGreat
set_option linter.unusedVariables false
set_option linter.unusedSimpArgs false
open Go.RowKit

/-- A type as a value. -/
def tyv (k i d : Int) (r : Bool) : Value := .agg #[.int .i64 k, .int .i64 i, .int .i64 d, .bool r]

def plainB (k i d : Int) (r : Bool) : Bool :=
  decide (0 ≤ d ∧ d ≤ 3 ∧ 0 ≤ i ∧ (k = 1 ∧ d = 0 ∧ r = false ∧ i = 0 ∨ (k = 2 ∨ k = 3 ∨ k = 4) ∧ i = 0 ∨ (k = 5 ∨ k = 6) ∧ i < 32 ∨ k = 7 ∧ i ≤ 7))
/-- What may stand there: 0 anywhere, 1 as a field's, 2 as a parameter's or a local's, 3 as what is answered. -/
def mayB (p : Nat) (k i d : Int) (r : Bool) : Bool :=
  if p = 1 then plainB k i d r && (k != 1) && !r else if p = 2 then plainB k i d r && (k != 1) else if p = 3 then plainB k i d r && !r else plainB k i d r

/-- A type: kind, index, dimensions, whether an address. -/
abbrev Ty := Int × Int × Int × Bool
def tv (t : Ty) : Value := .agg #[.int .i64 t.1, .int .i64 t.2.1, .int .i64 t.2.2.1, .bool t.2.2.2]
def plainT (t : Ty) : Bool := plainB t.1 t.2.1 t.2.2.1 t.2.2.2
def mayT (p : Nat) (t : Ty) : Bool := mayB p t.1 t.2.1 t.2.2.1 t.2.2.2

theorem within_any (n last : Int) (w : World) :
    Calls Tryz.prog 194 #[.int .i64 n, .int .i64 last] w fun e w' => e = .returned (.bool (decide (0 ≤ n) && decide (n ≤ last))) ∧ w' = w := by
  go_enter Tryz.func194, Tryz.ntmps194
  go_wp2
  all_goals go_ret
  · exact ⟨ret_bool (by simp [*]), rfl⟩
  · exact ⟨ret_bool (by simp [*]; omega), rfl⟩

set_option maxHeartbeats 1000000 in
theorem isPlain_any (k i d : Int) (r : Bool) (w : World) :
    Calls Tryz.prog 172 #[.agg #[.int .i64 k, .int .i64 i, .int .i64 d, .bool r]] w fun e w' => e = .returned (.bool (plainB k i d r)) ∧ Below w.heap.size w w' := by
  go_enter Tryz.func172, Tryz.ntmps172
  go_wp2
  all_goals go_ret
  all_goals refine ⟨ret_bool ?_, (Below.refl _ _).alloc (Nat.le_refl _) _⟩
  all_goals try simp only [beq_iff_eq, beq_eq_false_iff_ne, ne_eq] at *
  all_goals (rw [Bool.eq_iff_iff]; cases r <;> first | contradiction | (simp [plainB] <;> omega))

set_option maxHeartbeats 1000000 in
theorem refPlain_any (k i d : Int) (r : Bool) (w : World) :
    Calls Tryz.prog 141 #[.agg #[.int .i64 k, .int .i64 i, .int .i64 d, .bool r]] w fun e w' => e = .returned (.bool (plainB k i d r)) ∧ Below w.heap.size w w' := by
  go_enter Tryz.func141, Tryz.ntmps141
  go_wp2
  all_goals go_ret
  all_goals refine ⟨ret_bool ?_, (Below.refl _ _).alloc (Nat.le_refl _) _⟩
  all_goals try simp only [beq_iff_eq, beq_eq_false_iff_ne, ne_eq] at *
  all_goals (rw [Bool.eq_iff_iff]; cases r <;> first | contradiction | (simp [plainB] <;> omega))

/-- What was there reads as before. -/
theorem bcell {W w1 : World} (hb : Below W.heap.size W w1) : (∀ b o, b < W.heap.size → w1.cell? ⟨b, o, none⟩ = W.cell? ⟨b, o, none⟩) ∧ (∀ b o, b < W.heap.size → w1.frozen? ⟨b, o, none⟩ = W.frozen? ⟨b, o, none⟩) :=
  ⟨fun b o h => hb.cell (p := ⟨b, o, none⟩) h, fun b o h => hb.frozen (p := ⟨b, o, none⟩) h⟩
/-- A box, and something behind it. -/
theorem below_box {w w1 : World} {o : Obj} (hb : Below (w.alloc o).heap.size (w.alloc o) w1) : Below w.heap.size w w1 :=
  ((Below.refl _ _).alloc (Nat.le_refl _) _).trans (hb.mono (by simp))

theorem isVariable_any (k i d : Int) (r : Bool) (w : World) :
    Calls Tryz.prog 151 #[.agg #[.int .i64 k, .int .i64 i, .int .i64 d, .bool r]] w fun e w' => e = .returned (.bool (mayB 2 k i d r)) ∧ Below w.heap.size w w' := by
  go_enter Tryz.func151, Tryz.ntmps151
  go_wp2_with fail
  refine (isPlain_any k i d r _).mono ?_
  rintro e w1 ⟨rfl, hb⟩
  have hB := below_box hb
  obtain ⟨hc, hf⟩ := bcell hb
  clear hb
  go_wp2
  all_goals go_ret
  all_goals refine ⟨ret_bool ?_, hB⟩
  all_goals simp [mayB, *]

theorem isField_any (k i d : Int) (r : Bool) (w : World) :
    Calls Tryz.prog 147 #[.agg #[.int .i64 k, .int .i64 i, .int .i64 d, .bool r]] w fun e w' => e = .returned (.bool (mayB 1 k i d r)) ∧ Below w.heap.size w w' := by
  go_enter Tryz.func147, Tryz.ntmps147
  have h2 : Hid (mayB 1 k i d r = (mayB 2 k i d r && !r)) := by show _ = _; simp [mayB]
  go_wp2_with fail
  refine (isVariable_any k i d r _).mono ?_
  rintro e w1 ⟨rfl, hb⟩
  have hB := below_box hb
  obtain ⟨hc, hf⟩ := bcell hb
  clear hb
  go_wp2
  all_goals go_ret
  all_goals refine ⟨ret_bool ?_, hB⟩
  all_goals (rw [h2.out]; simp [*])

theorem isAnswer_any (k i d : Int) (r : Bool) (w : World) :
    Calls Tryz.prog 149 #[.agg #[.int .i64 k, .int .i64 i, .int .i64 d, .bool r]] w fun e w' => e = .returned (.bool (mayB 3 k i d r)) ∧ Below w.heap.size w w' := by
  go_enter Tryz.func149, Tryz.ntmps149
  go_wp2_with fail
  refine (isPlain_any k i d r _).mono ?_
  rintro e w1 ⟨rfl, hb⟩
  have hB := below_box hb
  obtain ⟨hc, hf⟩ := bcell hb
  clear hb
  go_wp2
  all_goals go_ret
  all_goals refine ⟨ret_bool ?_, hB⟩
  all_goals simp [mayB, *]

theorem plain_any (k i d : Int) (r : Bool) (w : World) :
    Calls Tryz.prog 200 #[.agg #[.int .i64 k, .int .i64 i, .int .i64 d, .bool r]] w fun e w' => e = .returned (.bool (plainB k i d r)) ∧ Below w.heap.size w w' := by
  go_enter Tryz.func200, Tryz.ntmps200
  go_wp2_with fail
  refine (isPlain_any k i d r _).mono ?_
  rintro e w1 ⟨rfl, hb⟩
  have hB := below_box hb
  clear hb
  go_wp2
  go_ret
  exact ⟨rfl, hB⟩

theorem where1_any (k i d : Int) (r : Bool) (w : World) :
    Calls Tryz.prog 107 #[.agg #[.int .i64 k, .int .i64 i, .int .i64 d, .bool r], .int .i64 1] w fun e w' => e = .returned (.bool (mayB 1 k i d r)) ∧ Below w.heap.size w w' := by
  go_enter Tryz.func107, Tryz.ntmps107
  go_wp2_with fail
  refine (refPlain_any k i d r _).mono ?_
  rintro e w1 ⟨rfl, hb⟩
  have hB := below_box hb
  obtain ⟨hc, hf⟩ := bcell hb
  clear hb
  go_wp2
  all_goals go_ret
  all_goals refine ⟨ret_bool ?_, hB⟩
  all_goals first | (have hq : plainB k i d r = true := by simpa using ‹(!plainB k i d r) = false›
                     simp [mayB, *]) | (have hq : plainB k i d r = false := by simpa using ‹(!plainB k i d r) = true›
                                        simp [mayB, *])

theorem where2_any (k i d : Int) (r : Bool) (w : World) :
    Calls Tryz.prog 107 #[.agg #[.int .i64 k, .int .i64 i, .int .i64 d, .bool r], .int .i64 2] w fun e w' => e = .returned (.bool (mayB 2 k i d r)) ∧ Below w.heap.size w w' := by
  go_enter Tryz.func107, Tryz.ntmps107
  go_wp2_with fail
  refine (refPlain_any k i d r _).mono ?_
  rintro e w1 ⟨rfl, hb⟩
  have hB := below_box hb
  obtain ⟨hc, hf⟩ := bcell hb
  clear hb
  go_wp2
  all_goals go_ret
  all_goals refine ⟨ret_bool ?_, hB⟩
  all_goals first | (have hq : plainB k i d r = true := by simpa using ‹(!plainB k i d r) = false›
                     simp [mayB, *]) | (have hq : plainB k i d r = false := by simpa using ‹(!plainB k i d r) = true›
                                        simp [mayB, *])

theorem where3_any (k i d : Int) (r : Bool) (w : World) :
    Calls Tryz.prog 107 #[.agg #[.int .i64 k, .int .i64 i, .int .i64 d, .bool r], .int .i64 3] w fun e w' => e = .returned (.bool (mayB 3 k i d r)) ∧ Below w.heap.size w w' := by
  go_enter Tryz.func107, Tryz.ntmps107
  go_wp2_with fail
  refine (refPlain_any k i d r _).mono ?_
  rintro e w1 ⟨rfl, hb⟩
  have hB := below_box hb
  obtain ⟨hc, hf⟩ := bcell hb
  clear hb
  go_wp2
  all_goals go_ret
  all_goals refine ⟨ret_bool ?_, hB⟩
  all_goals first | (have hq : plainB k i d r = true := by simpa using ‹(!plainB k i d r) = false›
                     simp [mayB, *]) | (have hq : plainB k i d r = false := by simpa using ‹(!plainB k i d r) = true›
                                        simp [mayB, *])

end Go.Proofs.YtclmafoelibihaaGreat

/- Types and instructions that came in. -/
namespace Go.Proofs.YtclmafoelibihaaGreat
set_option linter.unusedVariables false
set_option linter.unusedSimpArgs false
open Go.ChangeShapes Go.WideShapes Go.ChangeAt Go.RowKit

theorem list4 {α : Type} {cs : List α} (h : cs.length = 4) : ∃ c0 c1 c2 c3, cs = [c0, c1, c2, c3] := by
  match cs, h with
  | [c0, c1, c2, c3], _ => exact ⟨c0, c1, c2, c3, rfl⟩
theorem list6 {α : Type} {cs : List α} (h : cs.length = 6) : ∃ c0 c1 c2 c3 c4 c5, cs = [c0, c1, c2, c3, c4, c5] := by
  match cs, h with
  | [c0, c1, c2, c3, c4, c5], _ => exact ⟨c0, c1, c2, c3, c4, c5, rfl⟩
theorem array6 {α : Type} {cs : Array α} (h : cs.size = 6) : ∃ c0 c1 c2 c3 c4 c5, cs = #[c0, c1, c2, c3, c4, c5] := by
  obtain ⟨l⟩ := cs
  match l, h with
  | [c0, c1, c2, c3, c4, c5], _ => exact ⟨c0, c1, c2, c3, c4, c5, rfl⟩

theorem Tryz.cellsTy : Tryz.prog.cellsOf 44 = 4 := by kernel_rfl
theorem Tryz.cellsInt : Tryz.prog.cellsOf 3 = 1 := by kernel_rfl
theorem Tryz.cellsBool : Tryz.prog.cellsOf 4 = 1 := by kernel_rfl

/-- The cells of a type. -/
theorem tyCells {H : Type} {enc : TypeId × Value → H} {W : World} {cs : List Value} {n : Nat} {y : DataW H × List MemPlace}
    (h : DataW.trod enc Tryz.prog W 0 (fun _ => true) true n 44 cs = some y) : ∃ t : Ty, cs = [.int .i64 t.1, .int .i64 t.2.1, .int .i64 t.2.2.1, .bool t.2.2.2] := by
  obtain ⟨y0, y1, y2, y3, m, _, hl, h0, h1, h2, h3⟩ := Go.Joins.trod_struct4 Tryz.underlying44 h
  rw [Tryz.cellsTy] at hl
  obtain ⟨c0, c1, c2, c3, rfl⟩ := list4 hl
  simp only [Tryz.cellsInt, Tryz.cellsBool, List.drop_zero, List.drop_succ_cons, List.take_succ_cons, List.take_zero] at h0 h1 h2 h3
  obtain ⟨x0, e0, _, _⟩ := DataW.trod_int Tryz.underlying3 h0
  obtain ⟨x1, e1, _, _⟩ := DataW.trod_int Tryz.underlying3 h1
  obtain ⟨x2, e2, _, _⟩ := DataW.trod_int Tryz.underlying3 h2
  obtain ⟨x3, e3, _⟩ := DataW.trod_bool Tryz.underlying4 h3
  simp only [List.cons.injEq, and_true] at e0 e1 e2 e3
  subst e0 e1 e2 e3
  exact ⟨(x0, x1, x2, x3), rfl⟩

set_option maxRecDepth 100000 in
theorem open_api_Type {H : Type} {enc : TypeId × Value → H} {W : World} {base : Nat} {v : Value} {d : DataW H} {p : List MemPlace}
    (hv : Value.okWide Tryz.prog W .any base 44 v) (h : DataW.Trod enc Tryz.prog W 0 (fun _ => true) true 44 v d p) : ∃ t : Ty, v = tv t := by
  obtain ⟨cs, rfl, hsz⟩ := okWide_struct Tryz.underlying44 hv
  obtain ⟨fuel, hf⟩ := h
  obtain ⟨t, ht⟩ := tyCells hf
  refine ⟨t, ?_⟩
  unfold tv
  have : cs = #[.int .i64 t.1, .int .i64 t.2.1, .int .i64 t.2.2.1, .bool t.2.2.2] := by
    apply Array.toList_inj.1
    simpa [Value.cells] using ht
  rw [this]

/-- An instruction: op, number, type. -/
abbrev Ins := Int × Int × Ty
def iv (x : Ins) : Value := .agg #[.int .i64 x.1, .int .i64 x.2.1, .int .i64 x.2.2.1, .int .i64 x.2.2.2.1, .int .i64 x.2.2.2.2.1, .bool x.2.2.2.2.2]
theorem Tryz.cellsI64 : Tryz.prog.cellsOf 2 = 1 := by kernel_rfl
theorem Tryz.cellsInstr : Tryz.prog.cellsOf 126 = 6 := by kernel_rfl

/-- The cells of an instruction. -/
theorem insCells {H : Type} {enc : TypeId × Value → H} {W : World} {cs : List Value} {n : Nat} {y : DataW H × List MemPlace} (hl : cs.length = 6)
    (h : DataW.trod enc Tryz.prog W 0 (fun _ => true) true n 126 cs = some y) : ∃ x : Ins, cs = [.int .i64 x.1, .int .i64 x.2.1, .int .i64 x.2.2.1, .int .i64 x.2.2.2.1, .int .i64 x.2.2.2.2.1, .bool x.2.2.2.2.2] := by
  obtain ⟨c0, c1, c2, c3, c4, c5, rfl⟩ := list6 hl
  obtain ⟨y0, y1, y2, m, _, _, h0, h1, h2⟩ := Go.Deep.trod_struct3 Tryz.underlying126 h
  simp only [Tryz.cellsInt, Tryz.cellsI64, Tryz.cellsTy, List.drop_zero, List.drop_succ_cons, List.take_succ_cons, List.take_zero] at h0 h1 h2
  obtain ⟨x0, e0, _, _⟩ := DataW.trod_int Tryz.underlying3 h0
  obtain ⟨x1, e1, _, _⟩ := DataW.trod_int Tryz.underlying2 h1
  obtain ⟨t, e2⟩ := tyCells h2
  simp only [List.cons.injEq, and_true] at e0 e1 e2
  obtain ⟨rfl, rfl, rfl, rfl⟩ := e2
  subst e0 e1
  exact ⟨(x0, x1, t), rfl⟩

set_option maxRecDepth 100000 in
theorem open_api_Instr {H : Type} {enc : TypeId × Value → H} {W : World} {base : Nat} {v : Value} {d : DataW H} {p : List MemPlace}
    (hv : Value.okWide Tryz.prog W .any base 126 v) (h : DataW.Trod enc Tryz.prog W 0 (fun _ => true) true 126 v d p) : ∃ x : Ins, v = iv x := by
  obtain ⟨cs, rfl, hsz⟩ := okWide_struct Tryz.underlying126 hv
  obtain ⟨fuel, hf⟩ := h
  obtain ⟨x, hx⟩ := insCells (by have := hsz.trans Tryz.cellsInstr; simpa [Value.cells] using this) hf
  refine ⟨x, ?_⟩
  unfold iv
  have : cs = #[.int .i64 x.1, .int .i64 x.2.1, .int .i64 x.2.2.1, .int .i64 x.2.2.2.1, .int .i64 x.2.2.2.2.1, .bool x.2.2.2.2.2] := by
    apply Array.toList_inj.1
    simpa [Value.cells] using hx
  rw [this]

end Go.Proofs.YtclmafoelibihaaGreat

/- A block of cells, whatever they are. No program is named here. -/
namespace Go.Proofs.YtclmafoelibihaaGreat
set_option linter.unusedVariables false
set_option linter.unusedSimpArgs false
open Go.RowKit

/-- In block g lie these cells. -/
def At (w : World) (g : Nat) (C : Array Value) (t : TypeId) : Prop := w.heap[g]? = some (.cells C t (0, 0))

theorem At.cell {w : World} {g : Nat} {C : Array Value} {t : TypeId} (h : At w g C t) : ∀ o, w.cell? ⟨g, o, none⟩ = C[o]? := by
  unfold At at h
  intro o
  simp [World.cell?, h]
theorem At.melt {w : World} {g : Nat} {C : Array Value} {t : TypeId} (h : At w g C t) : ∀ o, w.frozen? ⟨g, o, none⟩ = false := by
  unfold At at h
  intro o
  simp [World.frozen?, h]
theorem At.lt {w : World} {g : Nat} {C : Array Value} {t : TypeId} (h : At w g C t) : g < w.heap.size := (Array.getElem?_eq_some_iff.1 h).1
theorem At.below {w w' : World} {g B : Nat} {C : Array Value} {t : TypeId} (h : At w g C t) (hb : Below B w w') (hg : g < B) : At w' g C t := by
  unfold At at h ⊢
  rw [hb.block g hg]; exact h
theorem At.later {w w' : World} {g : Nat} {C : Array Value} {t : TypeId} (h : At w g C t) (hb : Below w.heap.size w w') : At w' g C t := h.below hb h.lt
theorem At.drewN {w : World} {g : Nat} {C : Array Value} {t : TypeId} (h : At w g C t) (n : Nat) : At (w.drewN n) g C t := h
theorem At.made (w : World) (C : Array Value) (t : TypeId) : At (w.alloc (.cells C t)) w.heap.size C t := by
  unfold At
  have := heap_alloc_new w (.cells C t)
  simpa using this
theorem At.next {w : World} {g : Nat} {C : Array Value} {t : TypeId} (h : At w g C t) (o : Obj) : At (w.alloc o) g C t := h.later ((Below.refl _ _).alloc (Nat.le_refl _) _)
theorem At.other {w : World} {g g' o : Nat} {C : Array Value} {t : TypeId} (h : At w g C t) (hg : g ≠ g') (u : Value) : At (w.setCell ⟨g', o, none⟩ u) g C t := by
  unfold At at h ⊢
  rw [Below.heap_setCell _ _ _ _ hg]; exact h
theorem At.set {w : World} {g : Nat} {C : Array Value} {t : TypeId} (h : At w g C t) (o : Nat) (u : Value) : At (w.setCell ⟨g, o, none⟩ u) g (C.setIfInBounds o u) t := by
  unfold At at h ⊢
  rw [setCell_eq_setRow w g o _ _ _ _ h, setRow_heap w g _ _ _ _ h]

/-- Three, and six cells of a block are laid anew. -/
theorem At.set3 {w : World} {g : Nat} {c0 c1 c2 : Value} {t : TypeId} (h : At w g #[c0, c1, c2] t) (x0 x1 x2 : Value) :
    At (((w.setCell ⟨g, 0, none⟩ x0).setCell ⟨g, 1, none⟩ x1).setCell ⟨g, 2, none⟩ x2) g #[x0, x1, x2] t := by
  have := ((h.set 0 x0).set 1 x1).set 2 x2
  simpa using this
theorem At.set4 {w : World} {g : Nat} {c0 c1 c2 c3 : Value} {t : TypeId} (h : At w g #[c0, c1, c2, c3] t) (x0 x1 x2 x3 : Value) :
    At ((((w.setCell ⟨g, 0, none⟩ x0).setCell ⟨g, 1, none⟩ x1).setCell ⟨g, 2, none⟩ x2).setCell ⟨g, 3, none⟩ x3) g #[x0, x1, x2, x3] t := by
  have := (((h.set 0 x0).set 1 x1).set 2 x2).set 3 x3
  simpa using this
theorem At.set6 {w : World} {g : Nat} {c0 c1 c2 c3 c4 c5 : Value} {t : TypeId} (h : At w g #[c0, c1, c2, c3, c4, c5] t) (x0 x1 x2 x3 x4 x5 : Value) :
    At ((((((w.setCell ⟨g, 0, none⟩ x0).setCell ⟨g, 1, none⟩ x1).setCell ⟨g, 2, none⟩ x2).setCell ⟨g, 3, none⟩ x3).setCell ⟨g, 4, none⟩ x4).setCell ⟨g, 5, none⟩ x5) g #[x0, x1, x2, x3, x4, x5] t := by
  have := (((((h.set 0 x0).set 1 x1).set 2 x2).set 3 x3).set 4 x4).set 5 x5
  simpa using this
theorem below_set3 {B g : Nat} {w w1 : World} (h : Below B w w1) (hg : B ≤ g) (x0 x1 x2 : Value) : Below B w (((w1.setCell ⟨g, 0, none⟩ x0).setCell ⟨g, 1, none⟩ x1).setCell ⟨g, 2, none⟩ x2) :=
  ((h.setCell hg _).setCell hg _).setCell hg _
theorem below_set4 {B g : Nat} {w w1 : World} (h : Below B w w1) (hg : B ≤ g) (x0 x1 x2 x3 : Value) : Below B w ((((w1.setCell ⟨g, 0, none⟩ x0).setCell ⟨g, 1, none⟩ x1).setCell ⟨g, 2, none⟩ x2).setCell ⟨g, 3, none⟩ x3) :=
  (((h.setCell hg _).setCell hg _).setCell hg _).setCell hg _
theorem below_set6 {B g : Nat} {w w1 : World} (h : Below B w w1) (hg : B ≤ g) (x0 x1 x2 x3 x4 x5 : Value) : Below B w ((((((w1.setCell ⟨g, 0, none⟩ x0).setCell ⟨g, 1, none⟩ x1).setCell ⟨g, 2, none⟩ x2).setCell ⟨g, 3, none⟩ x3).setCell ⟨g, 4, none⟩ x4).setCell ⟨g, 5, none⟩ x5) :=
  (((((h.setCell hg _).setCell hg _).setCell hg _).setCell hg _).setCell hg _).setCell hg _

end Go.Proofs.YtclmafoelibihaaGreat
