/- Texts joined: Fits6, Extend, Reader, Num, Packed, Pack, Wakes, Put, StreamSpec, RowSpec, Codes4. -/
import Derived.Test.YthpmpdpfnlecmaaGreatK01
import Derived.Test.YthpmpdpfnlecmaaGreatK05
import Derived.Test.YthpmpdpfnlecmaaGreatRows
import Derived.Deep.QuietTactic
import Derived.BigQuiet
import Derived.WalkKit
import Derived.Laws.BitsAllLaws
import Derived.Deep.RegionWith
namespace Go.Proofs.YthpmpdpfnlecmaaGreat
set_option linter.unusedVariables false
set_option linter.unusedSimpArgs false
open Go.RowKit
/-- The least and the greatest number that an operand may be. -/
def bLo (p : Int) : Int := if p = 1 then -2147483648 else if p = 2 then -9223372036854775808 else 0
def bHi (p : Int) : Int := if p = 1 then 2147483647 else if p = 2 then 9223372036854775807 else if p = 3 then 11 else if p = 4 then 6 else if p = 5 then 159 else if p = 6 then 63 else if p = 7 then 63 else 0
def zeroB (k i d : Int) (r : Bool) : Bool := k == 0 && i == 0 && d == 0 && !r
def fitB (p n k i d : Int) (r : Bool) : Bool := decide (bLo p ≤ n) && decide (n ≤ bHi p) && if p = 8 then mayB 1 k i d r else zeroB k i d r

theorem bounds_any (p : Int) (w : World) :
  Calls Tryz.prog 244 #[.int .i64 p] w fun e w' => e = .returned (.tuple #[.int .i64 (bLo p), .int .i64 (bHi p)]) ∧ w' = w := by
 go_enter Tryz.func244, Tryz.ntmps244
 go_wp2
 all_goals (go_ret2; exact ⟨ret_int2 (by (try simp only [beq_iff_eq, beq_eq_false_iff_ne, ne_eq] at *); simp [bLo, *]) (by (try simp only [beq_iff_eq, beq_eq_false_iff_ne, ne_eq] at *); simp [bHi, *]), rfl⟩)

theorem most_any (p : Int) (w : World) :
  Calls Tryz.prog 235 #[.int .i64 p] w fun e w' => e = .returned (.tuple #[.int .i64 (bHi p), .int .i64 (bLo p)]) ∧ w' = w := by
 go_enter Tryz.func235, Tryz.ntmps235
 go_wp2
 all_goals (go_ret2; exact ⟨ret_int2 (by (try simp only [beq_iff_eq, beq_eq_false_iff_ne, ne_eq] at *); simp [bHi, *]) (by (try simp only [beq_iff_eq, beq_eq_false_iff_ne, ne_eq] at *); simp [bLo, *]), rfl⟩)

theorem isOperand_any (k i d : Int) (r : Bool) (w : World) :
  Calls Tryz.prog 243 #[.agg #[.int .i64 k, .int .i64 i, .int .i64 d, .bool r]] w fun e w' => e = .returned (.bool (mayB 1 k i d r)) ∧ Below w.heap.size w w' := by
 go_enter Tryz.func243, Tryz.ntmps243
 go_wp2_with fail
 refine (plain_any k i d r _).mono ?_
 rintro e w1 ⟨rfl, hb⟩
 have hB := below_box hb
 obtain ⟨hc, hf⟩ := bcell hb
 clear hb
 go_wp2
 all_goals go_ret
 all_goals refine ⟨ret_bool ?_, hB⟩
 all_goals simp [mayB, *]

/-- Two types compared. -/
theorem eq_ty (W : World) (k i d k' i' d' : Int) (r r' : Bool) : (binOp .eql 51 (.agg #[.int .i64 k, .int .i64 i, .int .i64 d, .bool r]) (.agg #[.int .i64 k', .int .i64 i', .int .i64 d', .bool r'])).run Tryz.prog W = .ok (.bool (k == k' && i == i' && d == d' && r == r')) W := by
 simp [go_sem]
 cases h1 : (k == k') <;> cases h2 : (i == i') <;> cases h3 : (d == d') <;> cases h4 : (r == r') <;> simp_all [go_sem]

set_option maxHeartbeats 1000000 in
theorem operandFits_any (p n k i d : Int) (r : Bool) (w : World) :
  Calls Tryz.prog 226 #[.int .i64 p, .int .i64 n, .agg #[.int .i64 k, .int .i64 i, .int .i64 d, .bool r]] w fun e w' => e = .returned (.bool (fitB p n k i d r)) ∧ Below w.heap.size w w' := by
 have hz : ∀ W : World, (binOp .eql 51 (.agg #[.int .i64 k, .int .i64 i, .int .i64 d, .bool r]) (.agg #[.int .i64 0, .int .i64 0, .int .i64 0, .bool false])).run Tryz.prog W = .ok (.bool (zeroB k i d r)) W := fun W => by
  rw [eq_ty]; cases r <;> rfl
 have hb0 : Below w.heap.size w (w.alloc (.cells #[.int .i64 k, .int .i64 i, .int .i64 d, .bool r] 51)) := (Below.refl _ _).alloc (Nat.le_refl _) _
 have hA0 := At.made w #[.int .i64 k, .int .i64 i, .int .i64 d, .bool r] 51
 by_cases h8 : p = 8
 ·subst h8
  have HF8 : Hid (fitB 8 n k i d r = (decide (n = 0) && mayB 1 k i d r)) := by
   show _ = _
   unfold fitB
   rw [if_pos rfl, show bLo 8 = 0 from rfl, show bHi 8 = 0 from rfl, show (decide (0 ≤ n) && decide (n ≤ 0)) = decide (n = 0) by rw [Bool.eq_iff_iff]; simp; omega]
  go_enter Tryz.func226, Tryz.ntmps226
  go_wp2_with fail
  refine (isOperand_any k i d r _).mono ?_
  rintro e w1 ⟨rfl, hb⟩
  have hA := hA0.later hb
  have hB := hb0.trans (hb.mono hb0.size)
  have tc := hA.cell
  have tm := hA.melt
  have HB := below_set4 hB (Nat.le_refl w.heap.size) (.int .i64 0) (.int .i64 0) (.int .i64 0) (.bool false)
  have HC := (hA.set4 (.int .i64 0) (.int .i64 0) (.int .i64 0) (.bool false)).cell
  clear hb hb0 hA hA0 hz
  cases hm : mayB 1 k i d r with
  | false =>
   go_wp2_with fail
   go_ret
   exact ⟨ret_bool (by rw [HF8.out, hm]; simp), hB⟩
  | true =>
   go_wp2_with fail
   all_goals go_ret
   all_goals refine ⟨ret_bool ?_, HB⟩
   all_goals rw [HF8.out, hm]
   all_goals simp [*]
 ·have h8' : (p == 8) = false := by simpa using h8
  have HF : Hid (fitB p n k i d r = (decide (bLo p ≤ n) && decide (n ≤ bHi p) && zeroB k i d r)) := by show _ = _; unfold fitB; rw [if_neg h8]
  clear h8 hA0
  by_cases h0 : p = 0
  ·subst h0
   have HF0 : Hid (fitB 0 n k i d r = (decide (n = 0) && zeroB k i d r)) := by
    show _ = _
    rw [HF.out, show bLo 0 = 0 from rfl, show bHi 0 = 0 from rfl, show (decide (0 ≤ n) && decide (n ≤ 0)) = decide (n = 0) by rw [Bool.eq_iff_iff]; simp; omega]
   clear HF
   go_enter Tryz.func226, Tryz.ntmps226
   go_wp2_with fail
   all_goals go_ret
   all_goals refine ⟨ret_bool ?_, hb0⟩
   all_goals rw [HF0.out]
   all_goals simp_all
  ·have h0' : (p == 0) = false := by simpa using h0
   clear h0
   go_enter Tryz.func226, Tryz.ntmps226
   go_wp2_with fail
   refine (bounds_any p _).mono ?_
   rintro e wz ⟨rfl, hw⟩
   subst wz
   cases hq : zeroB k i d r with
   | false =>
    go_wp2_with fail
    all_goals go_ret
    all_goals refine ⟨ret_bool ?_, hb0⟩
    all_goals rw [HF.out, hq]
    all_goals simp
   | true =>
    go_wp2_with fail
    all_goals go_ret
    all_goals refine ⟨ret_bool ?_, hb0⟩
    all_goals rw [HF.out, hq]
    all_goals (rw [Bool.eq_iff_iff]; simp; try omega)

/-- What Fits answers. -/
def fitE (op n k i d : Int) (r : Bool) : Int := if 1 ≤ op ∧ op ≤ 75 then if fitB (opP op) n k i d r = true then 0 else 17 else 3

set_option maxHeartbeats 1000000 in
theorem fits_any (op n k i d : Int) (r : Bool) (w : World) :
  Calls Tryz.prog 197 #[.agg #[.int .i64 op, .int .i64 n, .int .i64 k, .int .i64 i, .int .i64 d, .bool r]] w fun e w' => e = .returned (.int .i64 (fitE op n k i d r)) ∧ Below w.heap.size w w' := by
 have hb0 : Below w.heap.size w (w.alloc (.cells #[.int .i64 op, .int .i64 n, .int .i64 k, .int .i64 i, .int .i64 d, .bool r] 89)) := (Below.refl _ _).alloc (Nat.le_refl _) _
 have hA0 := At.made w #[.int .i64 op, .int .i64 n, .int .i64 k, .int .i64 i, .int .i64 d, .bool r] 89
 by_cases hin : 1 ≤ op ∧ op ≤ 75
 ·have HE : Hid (fitE op n k i d r = if fitB (opP op) n k i d r = true then 0 else 17) := by show _ = _; unfold fitE; rw [if_pos hin]
  obtain ⟨h1, h2⟩ := hin
  go_enter Tryz.func197, Tryz.ntmps197
  go_wp2_with fail
  refine (of_in op h1 h2 _).mono ?_
  rintro e w1 ⟨rfl, hb⟩
  have hA := hA0.later hb
  have hB := hb0.trans (hb.mono hb0.size)
  have hbx : Below w1.heap.size w1 (w1.alloc (.cells #[.string (opS op), .int .i64 (opP op), .int .i64 (opW op)] 97)) := (Below.refl _ _).alloc (Nat.le_refl _) _
  have hA2 := hA.later hbx
  have hB2 := hB.trans (hbx.mono hB.size)
  have hX := At.made w1 #[.string (opS op), .int .i64 (opP op), .int .i64 (opW op)] 97
  have tc := hA2.cell
  have xc := hX.cell
  clear hb hb0 hA hA0 hB hbx hA2 hX
  go_wp2_with fail
  refine (operandFits_any (opP op) n k i d r _).mono ?_
  rintro e w2 ⟨rfl, hb⟩
  have hB3 := hB2.trans (hb.mono hB2.size)
  clear hb hB2 tc xc
  cases hq : fitB (opP op) n k i d r with
  | false =>
   go_wp2_with fail
   go_ret
   exact ⟨ret_int (by rw [HE.out, hq]; rfl), hB3⟩
  | true =>
   go_wp2_with fail
   go_ret
   exact ⟨ret_int (by rw [HE.out, hq]; rfl), hB3⟩
 ·have HE : Hid (fitE op n k i d r = 3) := by show _ = _; unfold fitE; rw [if_neg hin]
  go_enter Tryz.func197, Tryz.ntmps197
  go_wp2_with fail
  refine (of_out op hin _).mono ?_
  rintro e w1 ⟨rfl, hb⟩
  have hB := hb0.trans (hb.mono hb0.size)
  have hbx : Below w1.heap.size w1 (w1.alloc (.cells #[.string ⟨#[]⟩, .int .i64 0, .int .i64 0] 97)) := (Below.refl _ _).alloc (Nat.le_refl _) _
  have hB2 := hB.trans (hbx.mono hB.size)
  clear hb hb0 hA0 hB hbx
  go_wp2_with fail
  go_ret
  exact ⟨ret_int HE.out.symm, hB2⟩
/-- The bytes, and n zeros behind them. -/
def ext (bs : List UInt8) (n : Nat) : List UInt8 := bs ++ List.replicate n 0
theorem made_u8 (n : Nat) : madeCells (Value.int .u8 0).cells n = (u8s (List.replicate n 0)).toArray := by
 apply Array.ext
 ·simp [madeCells, u8s]
 ·intro i h1 h2
  simp [madeCells, u8s, Value.cells, Nat.mod_one]

theorem setRow_alloc_new (w : World) (X Y : Array Value) (e : TypeId) : (w.alloc (.cells X e)).setRow w.heap.size Y = w.alloc (.cells Y e) := by
 show ({ w with heap := (w.heap.push (.cells X e)).modify w.heap.size _ } : World) = { w with heap := w.heap.push (.cells Y e) }
 congr 1
 apply Array.ext
 ·simp
 ·intro k h1 h2
  simp only [Array.size_modify, Array.size_push] at h1 h2
  rw [Array.getElem_modify]
  by_cases hk : k = w.heap.size
  ·subst hk; simp
  ·rw [if_neg (by omega), Array.getElem_push_lt (by omega), Array.getElem_push_lt (by omega)]

theorem run_copy_new {P : Program} (w : World) (dT sT ty e : TypeId) (hu : P.underlying dT = some (.slice e)) (hs : (P.info? e).map (·.size) = some 1) {v : Value} {bs : List UInt8} (hv : Bs w v bs) (n : Nat) :
  (Builtin.copy_ #[dT, sT] ty #[.slice (some ⟨w.heap.size, 0, none⟩) (bs.length + n) (bs.length + n), v]).run P (w.alloc (.cells (u8s (List.replicate (bs.length + n) 0)).toArray e)) =
   .ok (goInt bs.length) (w.alloc (.cells (u8s (ext bs n)).toArray e)) := by
 obtain ⟨a, cap, rfl, h1, h2, h3⟩ := hv
 by_cases hb : bs = []
 ·subst hb
  have := run_copy_none (P := P) (w.alloc (.cells (u8s (List.replicate (0 + n) 0)).toArray e)) dT sT ty e (some ⟨w.heap.size, 0, none⟩) a (0 + n) (0 + n) 0 cap hu hs (by simp)
  simpa [ext] using this
 ·obtain ⟨b, off, rfl, hlt, hc⟩ := h3 hb
  have hg : (w.alloc (.cells (u8s (List.replicate (bs.length + n) 0)).toArray e)).heap[w.heap.size]? = some (.cells (u8s (List.replicate (bs.length + n) 0)).toArray e (0, 0)) := heap_alloc_new _ _
  have := run_copy_row P (w.alloc (.cells (u8s (List.replicate (bs.length + n) 0)).toArray e)) dT sT ty e w.heap.size 0 (bs.length + n) (bs.length + n) ⟨b, off, none⟩ bs.length cap (u8s (List.replicate (bs.length + n) 0)).toArray e (u8s bs) hu hs hg
   (by simp [u8s_length]) (fun j v hj => by
    have hjl : j < bs.length := by
     rcases Nat.lt_or_ge j bs.length with h | h
     ·exact h
     ·rw [List.getElem?_eq_none (by simpa [u8s] using h)] at hj; simp at hj
    rw [u8s_get bs j hjl] at hj
    have hplain : (⟨b, off, none⟩ : Addr).add j = ⟨b, off + j, none⟩ := by unfold Addr.add; split <;> simp_all
    rw [hplain, World.cell?_alloc_past _ _ _ hlt, hc j hjl]; exact hj)
   (by simp [u8s_length]) (fun v hv => by simp [u8s] at hv; obtain ⟨x, _, rfl⟩ := hv; rfl)
  rw [u8s_length] at this
  rw [this]
  congr 1
  rw [setRow_alloc_new]
  congr 2
  simp [ext, u8s_append, u8s, List.drop_replicate]

theorem Tryz.infoU8 : (Tryz.prog.info? 5).map (fun i => (i.zero, i.size, i.bytes)) = some (some (.int .u8 0), 1, 1) := by kernel_rfl

theorem run_make_u8 (w : World) (n : Nat) (hn : n ≤ 281474976710656) :
  (Instr.makeSlice 160 (.int .i64 (n : Int)) (.int .i64 (n : Int))).run Tryz.prog w = .ok (.slice (some ⟨w.heap.size, 0, none⟩) n n) (w.alloc (.cells (u8s (List.replicate n 0)).toArray 5)) := by
 obtain ⟨i, hi, hz0, hz1, hz2⟩ := info_parts Tryz.infoU8
 have := run_make (P := Tryz.prog) w 160 5 i (.int .u8 0) Tryz.underlying160 hi hz0 .i64 .i64 (n : Int) (n : Int) (by omega) (by omega) (by rw [hz2]; omega) (by omega)
 rw [this, hz1]
 simp [made_u8]

theorem sizeU8 : (Tryz.prog.info? 5).map (·.size) = some 1 := by
 obtain ⟨i, hi, hz0, hz1, hz2⟩ := info_parts Tryz.infoU8
 simp [hi, hz1]

set_option maxHeartbeats 400000 in
theorem extend_any {v : Value} {bs : List UInt8} {w : World} (hv : Bs w v bs) (n : Nat) (hn : bs.length + n ≤ 281474976710656) :
  Calls Tryz.prog 259 #[v, .int .i64 (n : Int)] w fun e w' => e = .returned (.slice (some ⟨w.heap.size, 0, none⟩) (bs.length + n) (bs.length + n)) ∧
   w' = w.alloc (.cells (u8s (ext bs n)).toArray 5) := by
 have hmk := fun w => run_make_u8 w (bs.length + n) hn
 have hcp := run_copy_new (P := Tryz.prog) w 160 160 3 5 Tryz.underlying160 sizeU8 hv n
 obtain ⟨a, cap, rfl, h1, h2, h3⟩ := hv
 clear h3
 generalize ext bs n = r at *
 rw [show ((bs.length + n : Nat) : Int) = (bs.length : Int) + n from by omega] at hmk
 go_enter Tryz.func259, Tryz.ntmps259
 go_wp2
 go_ret
 exact ⟨rfl, rfl⟩
/-- Nothing that was there has turned, but for one block. -/
structure Only (rb : Nat) (w w' : World) : Prop where
 os : w'.os = w.os
 tape : w'.tape = w.tape
 output : w'.output = w.output
 size : w.heap.size ≤ w'.heap.size
 block : ∀ k, k < w.heap.size → k ≠ rb → w'.heap[k]? = w.heap[k]?

theorem Only.refl (rb : Nat) (w : World) : Only rb w w := ⟨rfl, rfl, rfl, Nat.le_refl _, fun _ _ _ => rfl⟩
theorem Only.trans {rb : Nat} {a b c : World} (h : Only rb a b) (k : Only rb b c) : Only rb a c :=
 ⟨k.os.trans h.os, k.tape.trans h.tape, k.output.trans h.output, Nat.le_trans h.size k.size, fun i hi hne => (k.block i (Nat.lt_of_lt_of_le hi h.size) hne).trans (h.block i hi hne)⟩
theorem Only.below {rb B : Nat} {w w' : World} (h : Only rb w w') (hB : B ≤ rb) (hs : B ≤ w.heap.size) : Below B w w' :=
 ⟨h.os, h.tape, h.output, h.size, fun k hk => h.block k (by omega) (by omega)⟩
theorem Only.of_below {rb : Nat} {w w' : World} (h : Below w.heap.size w w') : Only rb w w' := ⟨h.os, h.tape, h.output, h.size, fun k hk _ => h.block k hk⟩
theorem Only.drewN {rb : Nat} {a w : World} (h : Only rb a w) (n : Nat) : Only rb a (w.drewN n) := ⟨h.os, h.tape, h.output, h.size, h.block⟩
theorem Only.setCell {rb : Nat} {a w : World} (h : Only rb a w) (o : Nat) (u : Value) : Only rb a (w.setCell ⟨rb, o, none⟩ u) :=
 h.trans ⟨rfl, rfl, rfl, by simp [World.setCell], fun k _ hne => Below.heap_setCell _ _ _ _ hne⟩
theorem Only.alloc {rb : Nat} {a w : World} (h : Only rb a w) (o : Obj) : Only rb a (w.alloc o) :=
 h.trans (Only.of_below ((Below.refl _ _).alloc (Nat.le_refl _) o))

theorem Bs.only {w w' : World} {v : Value} {bs : List UInt8} {rb : Nat} (h : Bs w v bs) (ho : Only rb w w') (hk : bs ≠ [] → v.ownBlock ≠ some rb) : Bs w' v bs := by
 by_cases hb : bs = []
 ·subst hb
  obtain ⟨a, cap, rfl, h1, h2, h3⟩ := h
  exact ⟨a, cap, rfl, h1, h2, fun hne => absurd rfl hne⟩
 ·exact h.of_block ho.size fun k hv hlt => ho.block k hlt (fun e => hk hb (e ▸ hv))
/-- The number that bytes tell, the lowest first. -/
def leN : List UInt8 → Nat
 | [] => 0
 | b :: r => b.toNat + 256 * leN r
/-- Bytes behind a number, the highest first. -/
def beA (x : Nat) (l : List UInt8) : Nat := l.foldl (fun y b => 256 * y + b.toNat) x
/-- What stands at a place, as a packed number that begins with c, wants s bytes and bears the mark mk: the number, how many bytes it has, the error. -/
def unpS (bs : List UInt8) (at_ c s mk : Nat) : Nat × Nat × Nat :=
 if s = 0 then (0, 0, 2) else if bs.length < at_ + s then (0, 0, 1) else if sizeI (beA (c - mk) (seg bs (at_ + 1) (s - 1)) : Int) = (s : Int) then (beA (c - mk) (seg bs (at_ + 1) (s - 1)), s, 0) else (0, 0, 2)
def wantN (c : Nat) : Nat := (wantI (c : Int)).toNat
def markN (s : Nat) : Nat := (markI (s : Int)).toNat
def unp (bs : List UInt8) (at_ : Nat) : Nat × Nat × Nat :=
 if h : at_ < bs.length then unpS bs at_ bs[at_].toNat (wantN bs[at_].toNat) (markN (wantN bs[at_].toNat)) else (0, 0, 1)
/-- Bytes that were put, one by one, behind others. -/
def puts (bs zs : List UInt8) (k : Nat) : List UInt8 := bs ++ (zs.take k ++ List.replicate (zs.length - k) 0)
theorem puts_length (bs zs : List UInt8) (k : Nat) (h : k ≤ zs.length) : (puts bs zs k).length = bs.length + zs.length := by simp [puts]; omega
theorem puts_zero (bs zs : List UInt8) : puts bs zs 0 = ext bs zs.length := by simp [puts, ext]
theorem puts_all (bs zs : List UInt8) : puts bs zs zs.length = bs ++ zs := by simp [puts]
theorem puts_succ (bs zs : List UInt8) (k : Nat) (h : k < zs.length) : (puts bs zs k).set (bs.length + k) zs[k] = puts bs zs (k + 1) := by
 unfold puts
 rw [List.set_append_right _ _ (by omega), List.set_append_right _ _ (by simp; omega)]
 simp only [List.length_take]
 rw [show bs.length + k - bs.length - min k zs.length = 0 by omega, show zs.length - k = (zs.length - (k + 1)) + 1 by omega, List.replicate_succ, List.set_cons_zero, List.take_succ_eq_append_getElem h]
 simp only [List.append_assoc, List.singleton_append]

theorem u8s_set (l : List UInt8) (i : Nat) (x : Int) (y : UInt8) (hx : x = (y.toNat : Int)) : (u8s l).toArray.setIfInBounds i (.int .u8 x) = (u8s (l.set i y)).toArray := by
 subst hx; simp [u8s]
theorem u8s_at (l : List UInt8) (i : Nat) (h : i < l.length) : (u8s l).toArray[i]? = some (.int .u8 (l[i].toNat : Int)) := by simp [u8s_get l i h]

/-- A number's bytes, so many, the highest first. -/
def beL (n s : Nat) : List UInt8 := (List.range s).map fun k => UInt8.ofNat (n / 2 ^ (8 * (s - 1 - k)))
theorem beL_length (n s : Nat) : (beL n s).length = s := by simp [beL]
theorem beL_get (n s k : Nat) (h : k < (beL n s).length) : ((beL n s)[k].toNat : Int) = (n : Int) / 2 ^ (8 * (s - 1 - k)) % 256 := by
 simp [beL]

set_option maxRecDepth 100000 in
set_option maxHeartbeats 1000000 in
theorem pack_yes {v : Value} {bs : List UInt8} {w : World} (hv : Bs w v bs) (hb : bs.length ≤ 281474976710600) (n s mk : Nat) (hs : sizeI (n : Int) = (s : Int)) (hs1 : 1 ≤ s) (hs4 : s ≤ 4) (hm : markI (s : Int) = (mk : Int))
  (z0 y0 : UInt8) (zr : List UInt8) (hz : beL n s = z0 :: zr) (hy : y0.toNat = z0.toNat + mk) :
  Calls Tryz.prog 240 #[v, .int .i64 (n : Int)] w fun e w' => e = .returned (.tuple #[.slice (some ⟨w.heap.size, 0, none⟩) (bs.length + s) (bs.length + s), .int .i64 0]) ∧
   ∃ m, w' = (w.alloc (.cells (u8s (bs ++ y0 :: zr)).toArray 5)).drewN m := by
 have HE : Hid (Calls Tryz.prog 259 #[v, .int .i64 (s : Int)] w fun e w' => e = .returned (.slice (some ⟨w.heap.size, 0, none⟩) (bs.length + s) (bs.length + s)) ∧ w' = w.alloc (.cells (u8s (ext bs s)).toArray 5)) := extend_any hv s (by omega)
 have hs0 : ((s : Int) == 0) = false := by rw [beq_eq_false_iff_ne]; omega
 obtain ⟨a, cap, rfl, h1, h2, h3⟩ := hv
 clear h3
 have hzl := beL_length n s
 have HZ : Hid (beL n s = z0 :: zr) := hz
 clear hz
 go_enter Tryz.func240, Tryz.ntmps240
 go_wp2_with fail
 refine (size_any _ _).mono ?_
 rintro e wz ⟨rfl, hz'⟩
 subst wz
 go_wp2_with fail
 refine HE.out.mono ?_
 rintro e wz ⟨rfl, hz'⟩
 subst wz
 clear HE
 go_wp2_with fail
 go_loopw [17] (fun i wr => ∃ (k : Nat) (C : Array Value), k ≤ s ∧ i = .int .i64 k ∧ wr = w.alloc (.cells C 5) ∧ C = (u8s (puts bs (beL n s) k)).toArray) (fun i _ => s - (intOf i).toNat)
 case atStart => exact ⟨0, _, Nat.zero_le _, rfl, rfl, by rw [puts_zero, beL_length]⟩
 case round =>
  obtain ⟨k, C, hk, rfl, rfl, hC⟩ := hrel
  by_cases hkn : k < s
  ·have hcell : ∃ x : Int, C[bs.length + k]? = some (.int .u8 x) := ⟨_, by rw [hC]; exact u8s_at _ _ (by rw [puts_length bs (beL n s) k (by omega)]; omega)⟩
   obtain ⟨x, hcell⟩ := hcell
   have HC : Hid (C.setIfInBounds (bs.length + k) (.int .u8 ((n : Int) / 2 ^ (8 * (s - 1 - k)) % 256)) = (u8s (puts bs (beL n s) (k + 1))).toArray) := by
    show _ = _
    rw [hC, u8s_set _ _ _ _ (beL_get n s k (by omega)).symm, puts_succ]
   clear hC
   go_wp2
   go_roundw
   case rel => exact ⟨k + 1, _, by omega, by go_num, rfl, HC.out⟩
   case measure => simp [intOf]; omega
  ·have hkk : k = s := by omega
   subst hkk
   have hC2 : C = (u8s (bs ++ z0 :: zr)).toArray := by rw [hC, ← HZ.out, ← puts_all bs (beL n k), beL_length]
   clear hC
   have hcell : C[bs.length]? = some (.int .u8 (z0.toNat : Int)) := by rw [hC2]; rw [u8s_at _ _ (by simp)]; simp
   have HC : Hid (C.setIfInBounds bs.length (.int .u8 (IntKind.u8.wrap ((z0.toNat : Int) + mk))) = (u8s (bs ++ y0 :: zr)).toArray) := by
    show _ = _
    rw [hC2, u8s_set _ _ _ y0 (by rw [IntKind.wrap_u8]; have := y0.toNat_lt; omega)]
    simp
   clear hC2 HZ hzl
   have hyl : z0.toNat + mk < 256 := by have := y0.toNat_lt; omega
   clear hy
   go_wp2_with fail
   go_region_with (go_at_call 260; refine (markOf_any _ _).mono ?_; rintro e wz ⟨rfl, hz'⟩; subst wz)
   all_goals
    go_wp2
    go_ret2
    refine ⟨rfl, 1, ?_⟩
    rw [HC.out]
    rfl

theorem ofNat_mod (n : Nat) : UInt8.ofNat n = UInt8.ofNat (n % 256) := UInt8.toNat_inj.1 (by simp)

/-- A packed number's bytes. -/
def pkL (n : Nat) : List UInt8 :=
 if n ≤ 127 then [UInt8.ofNat n] else if n ≤ 16383 then [UInt8.ofNat (128 + n / 256), UInt8.ofNat (n % 256)]
 else [UInt8.ofNat (192 + n / 16777216), UInt8.ofNat (n / 65536 % 256), UInt8.ofNat (n / 256 % 256), UInt8.ofNat (n % 256)]

theorem pkL_length (n : Nat) (h : n ≤ 536870911) : ((pkL n).length : Int) = sizeI (n : Int) := by
 unfold pkL sizeI
 split
 ·simp; omega
 ·split
  ·simp; omega
  ·simp; omega

theorem pack_any {v : Value} {bs : List UInt8} {w : World} (hv : Bs w v bs) (hb : bs.length ≤ 281474976710600) (n : Nat) (hn : n ≤ 536870911) :
  Calls Tryz.prog 240 #[v, .int .i64 (n : Int)] w fun e w' => e = .returned (.tuple #[.slice (some ⟨w.heap.size, 0, none⟩) (bs.length + (pkL n).length) (bs.length + (pkL n).length), .int .i64 0]) ∧
   ∃ m, w' = (w.alloc (.cells (u8s (bs ++ pkL n)).toArray 5)).drewN m := by
 have hl := pkL_length n hn
 by_cases h1 : n ≤ 127
 ·have e1 : pkL n = UInt8.ofNat n :: [] := by simp [pkL, h1]
  rw [e1]
  exact pack_yes hv hb n 1 0 (by rw [← hl, e1]; simp) (by omega) (by omega) (by simp [markI]) (UInt8.ofNat n) (UInt8.ofNat n) [] (by simp [beL]) (by omega)
 ·by_cases h2 : n ≤ 16383
  ·have e1 : pkL n = [UInt8.ofNat (128 + n / 256), UInt8.ofNat (n % 256)] := by simp [pkL, h1, h2]
   rw [e1]
   exact pack_yes hv hb n 2 128 (by rw [← hl, e1]; simp) (by omega) (by omega) (by simp [markI]) (UInt8.ofNat (n / 256)) _ _ (by simp [beL, List.range_succ]; exact ofNat_mod _) (by simp; omega)
  ·have e1 : pkL n = [UInt8.ofNat (192 + n / 16777216), UInt8.ofNat (n / 65536 % 256), UInt8.ofNat (n / 256 % 256), UInt8.ofNat (n % 256)] := by simp [pkL, h1, h2]
   rw [e1]
   exact pack_yes hv hb n 4 192 (by rw [← hl, e1]; simp) (by omega) (by omega) (by simp [markI]) (UInt8.ofNat (n / 16777216)) _ _ (by simp [beL, List.range_succ]; exact ⟨ofNat_mod _, ofNat_mod _, ofNat_mod _⟩) (by simp; omega)
theorem bs_lit (w : World) (bs : List UInt8) (C : Array Value) (e : TypeId) (n : Nat) (hC : C = (u8s bs).toArray) (hn : n = bs.length) (hm : bs.length ≤ maxLen) : Bs (w.alloc (.cells C e)) (.slice (some ⟨w.heap.size, 0, none⟩) n n) bs := by
 subst hC hn; exact Bs.made w bs e hm
/-- A number's bytes, so many, the lowest first. -/
def leL (x n : Nat) : List UInt8 := (List.range n).map fun k => UInt8.ofNat (x / 2 ^ (8 * k))
theorem leL_length (x n : Nat) : (leL x n).length = n := by simp [leL]
/-- Four streams. -/
structure Strm where
 r : List UInt8
 n : List UInt8
 b : List UInt8
 c : List UInt8

def Strm.nil : Strm := ⟨[], [], [], []⟩
def Strm.part (s : Strm) : Nat → List UInt8
 | 0 => s.r
 | 1 => s.n
 | 2 => s.b
 | _ => s.c
def Strm.put (s : Strm) (k : Nat) (x : List UInt8) : Strm :=
 match k with
 | 0 => ⟨x, s.n, s.b, s.c⟩
 | 1 => ⟨s.r, x, s.b, s.c⟩
 | 2 => ⟨s.r, s.n, x, s.c⟩
 | _ => ⟨s.r, s.n, s.b, x⟩
def tagB : Nat → List UInt8
 | 0 => [82, 79, 87, 83]
 | 1 => [78, 65, 77, 69]
 | 2 => [66, 76, 79, 66]
 | _ => [67, 79, 68, 69]
theorem tagB_length (k : Nat) : (tagB k).length = 4 := by
 match k with
 | 0 => rfl
 | 1 => rfl
 | 2 => rfl
 | _ + 3 => rfl
def magic : List UInt8 := [67, 71, 82, 68]
def numAt (bs : List UInt8) (at_ n : Nat) : Nat := leN (seg bs at_ n)

def ePlace (i : Nat) : Nat := 8 + 12 * i
def eAt (bs : List UInt8) (i : Nat) : Nat := numAt bs (ePlace i) 4
def eLen (bs : List UInt8) (i : Nat) : Nat := numAt bs (ePlace i + 4) 4
def eTag (bs : List UInt8) (i : Nat) : List UInt8 := seg bs (ePlace i + 8) 4

/-- What the entries so far have told: the streams, which tags were there, where the streams lie. -/
structure SSt where
 s : Strm
 met : List Nat
 ivs : List (Nat × Nat)
def tagOf (met : List Nat) (t : List UInt8) : Option Nat := [0, 1, 2, 3].find? fun j => decide (tagB j = t) && !met.contains j
def shares (ivs : List (Nat × Nat)) (at_ n : Nat) : Bool := ivs.any fun p => decide (max p.1 at_ < min (p.1 + p.2) (at_ + n))

/-- One entry: its error, or what is told behind it. -/
def entry (bs : List UInt8) (i : Nat) (st : SSt) : Nat ⊕ SSt :=
 match tagOf st.met (eTag bs i) with
 | none => .inl 2
 | some k => if eAt bs i < 56 ∨ eAt bs i % 4 ≠ 0 then .inl 3 else if bs.length < eAt bs i + eLen bs i then .inl 1 else if shares st.ivs (eAt bs i) (eLen bs i) = true then .inl 2
  else .inr ⟨st.s.put k (seg bs (eAt bs i) (eLen bs i)), st.met ++ [k], st.ivs ++ [(eAt bs i, eLen bs i)]⟩

/-! ### joined -/
def up4 (x : Nat) : Nat := (x + 3) / 4 * 4
def plc (s : Strm) : Nat → Nat
 | 0 => 56
 | k + 1 => up4 (plc s k + (s.part k).length)
def pad (l : List UInt8) : List UInt8 := l ++ List.replicate (up4 l.length - l.length) 0
def bodyTo (s : Strm) : Nat → List UInt8
 | 0 => []
 | k + 1 => pad (bodyTo s k) ++ s.part k
def headTo (s : Strm) : Nat → List UInt8
 | 0 => magic ++ [1, 0, 4, 0]
 | k + 1 => headTo s k ++ (leL (plc s k) 4 ++ (leL (s.part k).length 4 ++ tagB k))
def joinB (s : Strm) : List UInt8 := headTo s 4 ++ bodyTo s 4
theorem up4_le (x : Nat) : x ≤ up4 x ∧ up4 x ≤ x + 3 ∧ up4 x % 4 = 0 := by unfold up4; omega
theorem pad_length (l : List UInt8) : (pad l).length = up4 l.length := by have := up4_le l.length; simp [pad]; omega
theorem plc_mod (s : Strm) (k : Nat) : plc s k % 4 = 0 := by
 cases k with
 | zero => simp [plc]
 | succ k => exact (up4_le _).2.2
theorem body_length (s : Strm) : ∀ k, 56 + (pad (bodyTo s k)).length = plc s k
 | 0 => by simp [bodyTo, pad, plc, up4]
 | k + 1 => by
  have ih := body_length s k
  have hm := plc_mod s k
  rw [pad_length]
  simp only [bodyTo, List.length_append, plc]
  rw [pad_length] at ih ⊢
  unfold up4 at *
  omega
theorem head_length (s : Strm) : ∀ k, (headTo s k).length = 8 + 12 * k
 | 0 => rfl
 | k + 1 => by
  have ih := head_length s k
  simp only [headTo, List.length_append, leL_length, tagB_length, ih]
  omega
/-! ### pieces of lists -/
/-- The image begins with the head of these streams. -/
structure Headed (s : Strm) (bs : List UInt8) : Prop where
 hd : bs.take 56 = headTo s 4
 small : ∀ k, k < 4 → plc s k < 4294967296 ∧ (s.part k).length < 4294967296

theorem Headed.split {s : Strm} {bs : List UInt8} (h : Headed s bs) : ∃ c, bs = headTo s 4 ++ c := ⟨bs.drop 56, by rw [← h.hd, List.take_append_drop]⟩

/-! ### what is joined -/
theorem body_part (s : Strm) : ∀ m k, k < m → ∃ a c, bodyTo s m = a ++ (s.part k ++ c) ∧ 56 + a.length = plc s k
 | 0, k, h => by omega
 | m + 1, k, h => by
  by_cases e : k = m
  ·subst e
   exact ⟨pad (bodyTo s k), [], by simp [bodyTo], body_length s k⟩
  ·obtain ⟨a, c, h1, h2⟩ := body_part s m k (by omega)
   exact ⟨a, c ++ (List.replicate (up4 (bodyTo s m).length - (bodyTo s m).length) 0 ++ s.part m), by simp only [bodyTo, pad]; rw [h1]; simp, h2⟩

theorem join_part (s : Strm) (k : Nat) (h : k < 4) : ∃ a c, joinB s = a ++ (s.part k ++ c) ∧ a.length = plc s k := by
 obtain ⟨a, c, h1, h2⟩ := body_part s 4 k h
 exact ⟨headTo s 4 ++ a, c, by unfold joinB; rw [h1]; simp, by simp [head_length]; omega⟩

/-- Streams whose image is no longer than an image may be. -/
structure Room (s : Strm) : Prop where
 le : (joinB s).length ≤ 65536

theorem Room.small {s : Strm} (h : Room s) : ∀ k, k < 4 → plc s k < 4294967296 ∧ (s.part k).length < 4294967296 := by
 intro k hk
 obtain ⟨a, c, h1, h2⟩ := join_part s k hk
 have := h.le
 rw [h1] at this
 simp at this
 omega
/-! ### read -/
structure Tabs where
 entry : Int
 rows : List (List (List Int))
def Tabs.nil : Tabs := ⟨0, []⟩
/-! ### written -/
/-! ### there and back -/
def codeI (table row : Int) : Int := if table = -1 then 0 else if table ≠ 0 ∧ table ≠ 4 then 0 else if row < 1 ∨ 16383 < row then 0 else row * 4 + (if table = 4 then 2 else 0)
def codeE (table row : Int) : Int := if table = -1 then 0 else if table ≠ 0 ∧ table ≠ 4 then 17 else if row < 1 ∨ 16383 < row then 3 else 0
def codedT (x : Int) : Int := if x = 0 then -1 else if x < 4 ∨ 65535 < x ∨ x % 2 = 1 then 0 else if x % 4 = 2 then 4 else 0
def codedR (x : Int) : Int := if x = 0 then 0 else if x < 4 ∨ 65535 < x ∨ x % 2 = 1 then 0 else x / 4
def codedE (x : Int) : Int := if x = 0 then 0 else if x < 4 ∨ 65535 < x ∨ x % 2 = 1 then 5 else 0
theorem code_any (table row : Int) (w : World) :
  Calls Tryz.prog 239 #[.int .i64 table, .int .i64 row] w fun e w' => e = .returned (.tuple #[.int .i64 (codeI table row), .int .i64 (codeE table row)]) ∧ w' = w := by
 go_enter Tryz.func239, Tryz.ntmps239
 go_wp2
 all_goals (go_ret2; exact ⟨ret_int2 (by (try simp only [beq_iff_eq, beq_eq_false_iff_ne, ne_eq, bne_iff_ne, bne_eq_false_iff_eq] at *); unfold codeI; (repeat' split) <;> omega) (by (try simp only [beq_iff_eq, beq_eq_false_iff_ne, ne_eq, bne_iff_ne, bne_eq_false_iff_eq] at *); unfold codeE; (repeat' split) <;> omega), rfl⟩)
end Go.Proofs.YthpmpdpfnlecmaaGreat
