/- Texts joined: Of6, Fits6, OpenT, Extend, Reader, Append, Num, Packed. -/
import Derived.Test.YthpmpdpfnlecmaaGreatQ01
import Derived.Lib.Strings
import Derived.Test.YthpmpdpfnlecmaaGreatRows
import Derived.Lib.SmallJoins
import Derived.Deep.Slices
import Derived.Deep.Strs
import Derived.Deep.QuietTactic
import Derived.BigQuiet
import Derived.WalkKit
import Derived.Laws.BitsAllLaws
namespace Go.Proofs.YthpmpdpfnlecmaaGreat
set_option linter.unusedVariables false
set_option linter.unusedSimpArgs false
open Go.RowKit
set_option maxHeartbeats 1000000 in
theorem infoOf_any (n : Int) (w : World) :
  Calls Tryz.prog 182 #[.int .i64 n] w fun e w' => e = .returned (.agg #[.string (opS n),.int .i64 (opP n),.int .i64 (opW n)])∧Below w.heap.size w w':=by
 have hall : n ≤ 12 ∨ (12 < n∧n ≤ 33) ∨ (33 < n∧n ≤ 47) ∨ (47 < n∧n ≤ 66) ∨ 66 < n:=by omega
 have hb0 : Below w.heap.size w (w.alloc (.cells #[.string ⟨#[]⟩,.int .i64 0,.int .i64 0] 97)):=(Below.refl _ _).alloc (Nat.le_refl _) _
 have hA0:=At.made w #[.string ⟨#[]⟩,.int .i64 0,.int .i64 0] 97
 rcases hall with h | ⟨h0,h⟩ | ⟨h0,h⟩ | ⟨h0,h⟩ | h
 ·go_enter Tryz.func182,Tryz.ntmps182
  go_wp2_with fail
  refine (infoStack_any n h _).mono ?_
  rintro e w1 ⟨rfl,hb⟩
  have hA:=hA0.later hb
  have tc:=hA.cell
  have tm:=hA.melt
  have HF:=(hA.set3 (.string (opS n)) (.int .i64 (opP n)) (.int .i64 (opW n))).cell
  have HB:=below_set3 (hb0.trans (hb.mono hb0.size)) (Nat.le_refl w.heap.size) (.string (opS n)) (.int .i64 (opP n)) (.int .i64 (opW n))
  clear hb hb0 hA hA0
  go_wp2
  exact bodyPost_ret (v := .agg #[.string (opS n),.int .i64 (opP n),.int .i64 (opW n)]) (by simp [results,Tryz.results182,go_sem,HF]) rfl ⟨rfl,HB⟩
 ·go_enter Tryz.func182,Tryz.ntmps182
  go_wp2_with fail
  refine (infoNumbers_any n h0 h _).mono ?_
  rintro e w1 ⟨rfl,hb⟩
  have hA:=hA0.later hb
  have tc:=hA.cell
  have tm:=hA.melt
  have HF:=(hA.set3 (.string (opS n)) (.int .i64 (opP n)) (.int .i64 (opW n))).cell
  have HB:=below_set3 (hb0.trans (hb.mono hb0.size)) (Nat.le_refl w.heap.size) (.string (opS n)) (.int .i64 (opP n)) (.int .i64 (opW n))
  clear hb hb0 hA hA0
  go_wp2
  exact bodyPost_ret (v := .agg #[.string (opS n),.int .i64 (opP n),.int .i64 (opW n)]) (by simp [results,Tryz.results182,go_sem,HF]) rfl ⟨rfl,HB⟩
 ·go_enter Tryz.func182,Tryz.ntmps182
  go_wp2_with fail
  refine (infoCalls_any n h0 h _).mono ?_
  rintro e w1 ⟨rfl,hb⟩
  have hA:=hA0.later hb
  have tc:=hA.cell
  have tm:=hA.melt
  have HF:=(hA.set3 (.string (opS n)) (.int .i64 (opP n)) (.int .i64 (opW n))).cell
  have HB:=below_set3 (hb0.trans (hb.mono hb0.size)) (Nat.le_refl w.heap.size) (.string (opS n)) (.int .i64 (opP n)) (.int .i64 (opW n))
  clear hb hb0 hA hA0
  go_wp2
  exact bodyPost_ret (v := .agg #[.string (opS n),.int .i64 (opP n),.int .i64 (opW n)]) (by simp [results,Tryz.results182,go_sem,HF]) rfl ⟨rfl,HB⟩
 ·go_enter Tryz.func182,Tryz.ntmps182
  go_wp2_with fail
  refine (infoMemory_any n h0 h _).mono ?_
  rintro e w1 ⟨rfl,hb⟩
  have hA:=hA0.later hb
  have tc:=hA.cell
  have tm:=hA.melt
  have HF:=(hA.set3 (.string (opS n)) (.int .i64 (opP n)) (.int .i64 (opW n))).cell
  have HB:=below_set3 (hb0.trans (hb.mono hb0.size)) (Nat.le_refl w.heap.size) (.string (opS n)) (.int .i64 (opP n)) (.int .i64 (opW n))
  clear hb hb0 hA hA0
  go_wp2
  exact bodyPost_ret (v := .agg #[.string (opS n),.int .i64 (opP n),.int .i64 (opW n)]) (by simp [results,Tryz.results182,go_sem,HF]) rfl ⟨rfl,HB⟩
 ·go_enter Tryz.func182,Tryz.ntmps182
  go_wp2_with fail
  refine (infoRest_any n h _).mono ?_
  rintro e w1 ⟨rfl,hb⟩
  have hA:=hA0.later hb
  have tc:=hA.cell
  have tm:=hA.melt
  have HF:=(hA.set3 (.string (opS n)) (.int .i64 (opP n)) (.int .i64 (opW n))).cell
  have HB:=below_set3 (hb0.trans (hb.mono hb0.size)) (Nat.le_refl w.heap.size) (.string (opS n)) (.int .i64 (opP n)) (.int .i64 (opW n))
  clear hb hb0 hA hA0
  go_wp2
  exact bodyPost_ret (v := .agg #[.string (opS n),.int .i64 (opP n),.int .i64 (opW n)]) (by simp [results,Tryz.results182,go_sem,HF]) rfl ⟨rfl,HB⟩

theorem opS_ne {n : Int} (h : 1 ≤ n∧n ≤ 75) : opS n ≠ ⟨#[]⟩:=by
 have hall : ∀ k : Nat,k < 75 → (opI ((k : Int) + 1)).1 ≠ []:=by decide +kernel
 have:=hall (n - 1).toNat (by omega)
 rw [show (((n - 1).toNat : Int) + 1) = n by omega] at this
 intro e
 apply this
 have:=congrArg (fun b => b.data.toList) e
 simpa [opS] using this

theorem opS_full {n : Int} (h : 1 ≤ n∧n ≤ 75) : (opS n).toList.isEmpty = false:=by
 have hne:=opS_ne h
 rw [Lib.toList_data]
 cases e : (opS n).data.toList with
 | nil => exact absurd (by cases hs : opS n with | mk d => rw [hs] at e; simp at e; rw [e]) hne
 | cons _ _ => rfl
theorem empty_full : (⟨#[]⟩ : ByteArray).toList.isEmpty = true:=by rw [Lib.toList_data]; rfl

set_option maxHeartbeats 1000000 in
theorem of_in (n : Int) (h1 : 1 ≤ n) (h2 : n ≤ 75) (w : World) :
  Calls Tryz.prog 133 #[.int .i64 n] w fun e w' => e = .returned (.tuple #[.agg #[.string (opS n),.int .i64 (opP n),.int .i64 (opW n)],.int .i64 0])∧Below w.heap.size w w':=by
 have hb0 : Below w.heap.size w (w.alloc (.cells #[.string ⟨#[]⟩,.int .i64 0,.int .i64 0] 97)):=(Below.refl _ _).alloc (Nat.le_refl _) _
 have hA0:=At.made w #[.string ⟨#[]⟩,.int .i64 0,.int .i64 0] 97
 have hq:=opS_full ⟨h1,h2⟩
 go_enter Tryz.func133,Tryz.ntmps133
 go_wp2_with fail
 refine (infoOf_any n _).mono ?_
 rintro e w1 ⟨rfl,hb⟩
 have hA:=hA0.later hb
 have hbx : Below w1.heap.size w1 (w1.alloc (.cells #[.string (opS n),.int .i64 (opP n),.int .i64 (opW n)] 97)):=(Below.refl _ _).alloc (Nat.le_refl _) _
 have hA2:=hA.later hbx
 have hX:=At.made w1 #[.string (opS n),.int .i64 (opP n),.int .i64 (opW n)] 97
 have hB:=(hb0.trans (hb.mono hb0.size)).trans (hbx.mono (hb0.trans (hb.mono hb0.size)).size)
 have tc:=hA2.cell
 have tm:=hA2.melt
 have xc:=hX.cell
 have HF:=(hA2.set3 (.string (opS n)) (.int .i64 (opP n)) (.int .i64 (opW n))).cell
 have HB:=below_set3 hB (Nat.le_refl w.heap.size) (.string (opS n)) (.int .i64 (opP n)) (.int .i64 (opW n))
 clear hb hb0 hA hA0 hbx hA2 hX hB
 go_wp2
 exact bodyPost_ret (v := .tuple #[.agg #[.string (opS n),.int .i64 (opP n),.int .i64 (opW n)],.int .i64 0]) (by simp [results,Tryz.results133,go_sem,HF]) rfl ⟨rfl,HB⟩

set_option maxHeartbeats 1000000 in
theorem of_out (n : Int) (h : ¬ (1 ≤ n∧n ≤ 75)) (w : World) :
  Calls Tryz.prog 133 #[.int .i64 n] w fun e w' => e = .returned (.tuple #[.agg #[.string ⟨#[]⟩,.int .i64 0,.int .i64 0],.int .i64 3])∧Below w.heap.size w w':=by
 have hb0 : Below w.heap.size w (w.alloc (.cells #[.string ⟨#[]⟩,.int .i64 0,.int .i64 0] 97)):=(Below.refl _ _).alloc (Nat.le_refl _) _
 have hA0:=At.made w #[.string ⟨#[]⟩,.int .i64 0,.int .i64 0] 97
 have hq:=empty_full
 have HI:=infoOf_any n (w.alloc (.cells #[.string ⟨#[]⟩,.int .i64 0,.int .i64 0] 97))
 rw [opS_out h,opP_out h,opW_out h] at HI
 clear h
 go_enter Tryz.func133,Tryz.ntmps133
 go_wp2_with fail
 refine Calls.mono HI ?_
 rintro e w1 ⟨rfl,hb⟩
 have hA:=hA0.later hb
 have hbx : Below w1.heap.size w1 (w1.alloc (.cells #[.string ⟨#[]⟩,.int .i64 0,.int .i64 0] 97)):=(Below.refl _ _).alloc (Nat.le_refl _) _
 have hA2:=hA.later hbx
 have hX:=At.made w1 #[.string ⟨#[]⟩,.int .i64 0,.int .i64 0] 97
 have hB:=(hb0.trans (hb.mono hb0.size)).trans (hbx.mono (hb0.trans (hb.mono hb0.size)).size)
 have tc:=hA2.cell
 have tm:=hA2.melt
 have xc:=hX.cell
 have HF:=(hA2.set3 (.string ⟨#[]⟩) (.int .i64 0) (.int .i64 0)).cell
 have HB:=below_set3 hB (Nat.le_refl w.heap.size) (.string ⟨#[]⟩) (.int .i64 0) (.int .i64 0)
 clear hb hb0 hA hA0 hbx hA2 hX hB HI
 go_wp2
 exact bodyPost_ret (v := .tuple #[.agg #[.string ⟨#[]⟩,.int .i64 0,.int .i64 0],.int .i64 3]) (by simp [results,Tryz.results133,go_sem,HF]) rfl ⟨rfl,HB⟩
def bLo (p : Int) : Int:=if p = 1 then -2147483648 else if p = 2 then -9223372036854775808 else 0
def bHi (p : Int) : Int:=if p = 1 then 2147483647 else if p = 2 then 9223372036854775807 else if p = 3 then 11 else if p = 4 then 6 else if p = 5 then 159 else if p = 6 then 63 else if p = 7 then 63 else 0
def zeroB (k i d : Int) (r : Bool) : Bool:=k == 0 && i == 0 && d == 0 && !r
def fitB (p n k i d : Int) (r : Bool) : Bool:=decide (bLo p ≤ n) && decide (n ≤ bHi p) && if p = 8 then mayB 1 k i d r else zeroB k i d r

theorem bounds_any (p : Int) (w : World) :
  Calls Tryz.prog 244 #[.int .i64 p] w fun e w' => e = .returned (.tuple #[.int .i64 (bLo p),.int .i64 (bHi p)])∧w' = w:=by
 go_enter Tryz.func244,Tryz.ntmps244
 go_wp2
 all_goals (go_ret2; exact ⟨ret_int2 (by (try simp only [beq_iff_eq,beq_eq_false_iff_ne,ne_eq] at *); simp [bLo, *]) (by (try simp only [beq_iff_eq,beq_eq_false_iff_ne,ne_eq] at *); simp [bHi, *]),rfl⟩)

theorem most_any (p : Int) (w : World) :
  Calls Tryz.prog 235 #[.int .i64 p] w fun e w' => e = .returned (.tuple #[.int .i64 (bHi p),.int .i64 (bLo p)])∧w' = w:=by
 go_enter Tryz.func235,Tryz.ntmps235
 go_wp2
 all_goals (go_ret2; exact ⟨ret_int2 (by (try simp only [beq_iff_eq,beq_eq_false_iff_ne,ne_eq] at *); simp [bHi, *]) (by (try simp only [beq_iff_eq,beq_eq_false_iff_ne,ne_eq] at *); simp [bLo, *]),rfl⟩)

theorem isOperand_any (k i d : Int) (r : Bool) (w : World) :
  Calls Tryz.prog 243 #[.agg #[.int .i64 k,.int .i64 i,.int .i64 d,.bool r]] w fun e w' => e = .returned (.bool (mayB 1 k i d r))∧Below w.heap.size w w':=by
 go_enter Tryz.func243,Tryz.ntmps243
 go_wp2_with fail
 refine (plain_any k i d r _).mono ?_
 rintro e w1 ⟨rfl,hb⟩
 have hB:=below_box hb
 obtain ⟨hc,hf⟩:=bcell hb
 clear hb
 go_wp2
 all_goals go_ret
 all_goals refine ⟨ret_bool ?_,hB⟩
 all_goals simp [mayB, *]

theorem eq_ty (W : World) (k i d k' i' d' : Int) (r r' : Bool) : (binOp .eql 51 (.agg #[.int .i64 k,.int .i64 i,.int .i64 d,.bool r]) (.agg #[.int .i64 k',.int .i64 i',.int .i64 d',.bool r'])).run Tryz.prog W = .ok (.bool (k == k' && i == i' && d == d' && r == r')) W:=by
 simp [go_sem]
 cases h1 : (k == k') <;> cases h2 : (i == i') <;> cases h3 : (d == d') <;> cases h4 : (r == r') <;> simp_all [go_sem]

set_option maxHeartbeats 1000000 in
theorem operandFits_any (p n k i d : Int) (r : Bool) (w : World) :
  Calls Tryz.prog 226 #[.int .i64 p,.int .i64 n,.agg #[.int .i64 k,.int .i64 i,.int .i64 d,.bool r]] w fun e w' => e = .returned (.bool (fitB p n k i d r))∧Below w.heap.size w w':=by
 have hz : ∀ W : World,(binOp .eql 51 (.agg #[.int .i64 k,.int .i64 i,.int .i64 d,.bool r]) (.agg #[.int .i64 0,.int .i64 0,.int .i64 0,.bool false])).run Tryz.prog W = .ok (.bool (zeroB k i d r)) W:=fun W => by
  rw [eq_ty]; cases r <;> rfl
 have hb0 : Below w.heap.size w (w.alloc (.cells #[.int .i64 k,.int .i64 i,.int .i64 d,.bool r] 51)):=(Below.refl _ _).alloc (Nat.le_refl _) _
 have hA0:=At.made w #[.int .i64 k,.int .i64 i,.int .i64 d,.bool r] 51
 by_cases h8 : p = 8
 ·subst h8
  have HF8 : Hid (fitB 8 n k i d r = (decide (n = 0) && mayB 1 k i d r)):=by
   show _ = _
   unfold fitB
   rw [if_pos rfl,show bLo 8 = 0 from rfl,show bHi 8 = 0 from rfl,show (decide (0 ≤ n) && decide (n ≤ 0)) = decide (n = 0) by rw [Bool.eq_iff_iff]; simp; omega]
  go_enter Tryz.func226,Tryz.ntmps226
  go_wp2_with fail
  refine (isOperand_any k i d r _).mono ?_
  rintro e w1 ⟨rfl,hb⟩
  have hA:=hA0.later hb
  have hB:=hb0.trans (hb.mono hb0.size)
  have tc:=hA.cell
  have tm:=hA.melt
  have HB:=below_set4 hB (Nat.le_refl w.heap.size) (.int .i64 0) (.int .i64 0) (.int .i64 0) (.bool false)
  have HC:=(hA.set4 (.int .i64 0) (.int .i64 0) (.int .i64 0) (.bool false)).cell
  clear hb hb0 hA hA0 hz
  cases hm : mayB 1 k i d r with
  | false =>
   go_wp2_with fail
   go_ret
   exact ⟨ret_bool (by rw [HF8.out,hm]; simp),hB⟩
  | true =>
   go_wp2_with fail
   all_goals go_ret
   all_goals refine ⟨ret_bool ?_,HB⟩
   all_goals rw [HF8.out,hm]
   all_goals simp [*]
 ·have h8' : (p == 8) = false:=by simpa using h8
  have HF : Hid (fitB p n k i d r = (decide (bLo p ≤ n) && decide (n ≤ bHi p) && zeroB k i d r)):=by show _ = _; unfold fitB; rw [if_neg h8]
  clear h8 hA0
  by_cases h0 : p = 0
  ·subst h0
   have HF0 : Hid (fitB 0 n k i d r = (decide (n = 0) && zeroB k i d r)):=by
    show _ = _
    rw [HF.out,show bLo 0 = 0 from rfl,show bHi 0 = 0 from rfl,show (decide (0 ≤ n) && decide (n ≤ 0)) = decide (n = 0) by rw [Bool.eq_iff_iff]; simp; omega]
   clear HF
   go_enter Tryz.func226,Tryz.ntmps226
   go_wp2_with fail
   all_goals go_ret
   all_goals refine ⟨ret_bool ?_,hb0⟩
   all_goals rw [HF0.out]
   all_goals simp_all
  ·have h0' : (p == 0) = false:=by simpa using h0
   clear h0
   go_enter Tryz.func226,Tryz.ntmps226
   go_wp2_with fail
   refine (bounds_any p _).mono ?_
   rintro e wz ⟨rfl,hw⟩
   subst wz
   cases hq : zeroB k i d r with
   | false =>
    go_wp2_with fail
    all_goals go_ret
    all_goals refine ⟨ret_bool ?_,hb0⟩
    all_goals rw [HF.out,hq]
    all_goals simp
   | true =>
    go_wp2_with fail
    all_goals go_ret
    all_goals refine ⟨ret_bool ?_,hb0⟩
    all_goals rw [HF.out,hq]
    all_goals (rw [Bool.eq_iff_iff]; simp; try omega)

def fitE (op n k i d : Int) (r : Bool) : Int:=if 1 ≤ op∧op ≤ 75 then if fitB (opP op) n k i d r = true then 0 else 17 else 3

set_option maxHeartbeats 1000000 in
theorem fits_any (op n k i d : Int) (r : Bool) (w : World) :
  Calls Tryz.prog 197 #[.agg #[.int .i64 op,.int .i64 n,.int .i64 k,.int .i64 i,.int .i64 d,.bool r]] w fun e w' => e = .returned (.int .i64 (fitE op n k i d r))∧Below w.heap.size w w':=by
 have hb0 : Below w.heap.size w (w.alloc (.cells #[.int .i64 op,.int .i64 n,.int .i64 k,.int .i64 i,.int .i64 d,.bool r] 89)):=(Below.refl _ _).alloc (Nat.le_refl _) _
 have hA0:=At.made w #[.int .i64 op,.int .i64 n,.int .i64 k,.int .i64 i,.int .i64 d,.bool r] 89
 by_cases hin : 1 ≤ op∧op ≤ 75
 ·have HE : Hid (fitE op n k i d r = if fitB (opP op) n k i d r = true then 0 else 17):=by show _ = _; unfold fitE; rw [if_pos hin]
  obtain ⟨h1,h2⟩:=hin
  go_enter Tryz.func197,Tryz.ntmps197
  go_wp2_with fail
  refine (of_in op h1 h2 _).mono ?_
  rintro e w1 ⟨rfl,hb⟩
  have hA:=hA0.later hb
  have hB:=hb0.trans (hb.mono hb0.size)
  have hbx : Below w1.heap.size w1 (w1.alloc (.cells #[.string (opS op),.int .i64 (opP op),.int .i64 (opW op)] 97)):=(Below.refl _ _).alloc (Nat.le_refl _) _
  have hA2:=hA.later hbx
  have hB2:=hB.trans (hbx.mono hB.size)
  have hX:=At.made w1 #[.string (opS op),.int .i64 (opP op),.int .i64 (opW op)] 97
  have tc:=hA2.cell
  have xc:=hX.cell
  clear hb hb0 hA hA0 hB hbx hA2 hX
  go_wp2_with fail
  refine (operandFits_any (opP op) n k i d r _).mono ?_
  rintro e w2 ⟨rfl,hb⟩
  have hB3:=hB2.trans (hb.mono hB2.size)
  clear hb hB2 tc xc
  cases hq : fitB (opP op) n k i d r with
  | false =>
   go_wp2_with fail
   go_ret
   exact ⟨ret_int (by rw [HE.out,hq]; rfl),hB3⟩
  | true =>
   go_wp2_with fail
   go_ret
   exact ⟨ret_int (by rw [HE.out,hq]; rfl),hB3⟩
 ·have HE : Hid (fitE op n k i d r = 3):=by show _ = _; unfold fitE; rw [if_neg hin]
  go_enter Tryz.func197,Tryz.ntmps197
  go_wp2_with fail
  refine (of_out op hin _).mono ?_
  rintro e w1 ⟨rfl,hb⟩
  have hB:=hb0.trans (hb.mono hb0.size)
  have hbx : Below w1.heap.size w1 (w1.alloc (.cells #[.string ⟨#[]⟩,.int .i64 0,.int .i64 0] 97)):=(Below.refl _ _).alloc (Nat.le_refl _) _
  have hB2:=hB.trans (hbx.mono hB.size)
  clear hb hb0 hA0 hB hbx
  go_wp2_with fail
  go_ret
  exact ⟨ret_int HE.out.symm,hB2⟩
end Go.Proofs.YthpmpdpfnlecmaaGreat

namespace Go.Proofs.YthpmpdpfnlecmaaGreat
set_option linter.unusedVariables false
set_option linter.unusedSimpArgs false
open Go.ChangeShapes Go.WideShapes Go.ChangeAt Go.RowKit
theorem list4 {α : Type} {cs : List α} (h : cs.length = 4) : ∃ c0 c1 c2 c3,cs = [c0,c1,c2,c3]:=by
 match cs,h with
 | [c0,c1,c2,c3],_ => exact ⟨c0,c1,c2,c3,rfl⟩
theorem list6 {α : Type} {cs : List α} (h : cs.length = 6) : ∃ c0 c1 c2 c3 c4 c5,cs = [c0,c1,c2,c3,c4,c5]:=by
 match cs,h with
 | [c0,c1,c2,c3,c4,c5],_ => exact ⟨c0,c1,c2,c3,c4,c5,rfl⟩
theorem Tryz.cellsTy : Tryz.prog.cellsOf 51 = 4:=by kernel_rfl
theorem Tryz.cellsInt : Tryz.prog.cellsOf 3 = 1:=by kernel_rfl
theorem Tryz.cellsBool : Tryz.prog.cellsOf 4 = 1:=by kernel_rfl

theorem tyCells {H : Type} {enc : TypeId × Value → H} {W : World} {cs : List Value} {n : Nat} {y : DataW H × List MemPlace}
  (h : DataW.trod enc Tryz.prog W 0 (fun _ => true) true n 51 cs = some y) : ∃ t : Ty,cs = [.int .i64 t.1,.int .i64 t.2.1,.int .i64 t.2.2.1,.bool t.2.2.2]:=by
 obtain ⟨y0,y1,y2,y3,m,_,hl,h0,h1,h2,h3⟩:=Go.Joins.trod_struct4 Tryz.underlying51 h
 rw [Tryz.cellsTy] at hl
 obtain ⟨c0,c1,c2,c3,rfl⟩:=list4 hl
 simp only [Tryz.cellsInt,Tryz.cellsBool,List.drop_zero,List.drop_succ_cons,List.take_succ_cons,List.take_zero] at h0 h1 h2 h3
 obtain ⟨x0,e0,_,_⟩:=DataW.trod_int Tryz.underlying3 h0
 obtain ⟨x1,e1,_,_⟩:=DataW.trod_int Tryz.underlying3 h1
 obtain ⟨x2,e2,_,_⟩:=DataW.trod_int Tryz.underlying3 h2
 obtain ⟨x3,e3,_⟩:=DataW.trod_bool Tryz.underlying4 h3
 simp only [List.cons.injEq,and_true] at e0 e1 e2 e3
 subst e0 e1 e2 e3
 exact ⟨(x0,x1,x2,x3),rfl⟩

abbrev Ins:=Int × Int × Ty
def iv (x : Ins) : Value := .agg #[.int .i64 x.1,.int .i64 x.2.1,.int .i64 x.2.2.1,.int .i64 x.2.2.2.1,.int .i64 x.2.2.2.2.1,.bool x.2.2.2.2.2]
theorem Tryz.cellsI64 : Tryz.prog.cellsOf 2 = 1:=by kernel_rfl
theorem Tryz.cellsInstr : Tryz.prog.cellsOf 89 = 6:=by kernel_rfl

theorem insCells {H : Type} {enc : TypeId × Value → H} {W : World} {cs : List Value} {n : Nat} {y : DataW H × List MemPlace} (hl : cs.length = 6)
  (h : DataW.trod enc Tryz.prog W 0 (fun _ => true) true n 89 cs = some y) : ∃ x : Ins,cs = [.int .i64 x.1,.int .i64 x.2.1,.int .i64 x.2.2.1,.int .i64 x.2.2.2.1,.int .i64 x.2.2.2.2.1,.bool x.2.2.2.2.2]:=by
 obtain ⟨c0,c1,c2,c3,c4,c5,rfl⟩:=list6 hl
 obtain ⟨y0,y1,y2,m,_,_,h0,h1,h2⟩:=Go.Deep.trod_struct3 Tryz.underlying89 h
 simp only [Tryz.cellsInt,Tryz.cellsI64,Tryz.cellsTy,List.drop_zero,List.drop_succ_cons,List.take_succ_cons,List.take_zero] at h0 h1 h2
 obtain ⟨x0,e0,_,_⟩:=DataW.trod_int Tryz.underlying3 h0
 obtain ⟨x1,e1,_,_⟩:=DataW.trod_int Tryz.underlying2 h1
 obtain ⟨t,e2⟩:=tyCells h2
 simp only [List.cons.injEq,and_true] at e0 e1 e2
 obtain ⟨rfl,rfl,rfl,rfl⟩:=e2
 subst e0 e1
 exact ⟨(x0,x1,t),rfl⟩
end Go.Proofs.YthpmpdpfnlecmaaGreat

namespace Go.Proofs.YthpmpdpfnlecmaaGreat
set_option linter.unusedVariables false
set_option linter.unusedSimpArgs false
open Go.RowKit
def ext (bs : List UInt8) (n : Nat) : List UInt8:=bs ++ List.replicate n 0
theorem made_u8 (n : Nat) : madeCells (Value.int .u8 0).cells n = (u8s (List.replicate n 0)).toArray:=by
 apply Array.ext
 ·simp [madeCells,u8s]
 ·intro i h1 h2
  simp [madeCells,u8s,Value.cells,Nat.mod_one]

theorem setRow_alloc_new (w : World) (X Y : Array Value) (e : TypeId) : (w.alloc (.cells X e)).setRow w.heap.size Y = w.alloc (.cells Y e):=by
 show ({ w with heap:=(w.heap.push (.cells X e)).modify w.heap.size _ } : World) = { w with heap:=w.heap.push (.cells Y e) }
 congr 1
 apply Array.ext
 ·simp
 ·intro k h1 h2
  simp only [Array.size_modify,Array.size_push] at h1 h2
  rw [Array.getElem_modify]
  by_cases hk : k = w.heap.size
  ·subst hk; simp
  ·rw [if_neg (by omega),Array.getElem_push_lt (by omega),Array.getElem_push_lt (by omega)]

theorem run_copy_new {P : Program} (w : World) (dT sT ty e : TypeId) (hu : P.underlying dT = some (.slice e)) (hs : (P.info? e).map (·.size) = some 1) {v : Value} {bs : List UInt8} (hv : Bs w v bs) (n : Nat) :
  (Builtin.copy_ #[dT,sT] ty #[.slice (some ⟨w.heap.size,0,none⟩) (bs.length + n) (bs.length + n),v]).run P (w.alloc (.cells (u8s (List.replicate (bs.length + n) 0)).toArray e)) =
   .ok (goInt bs.length) (w.alloc (.cells (u8s (ext bs n)).toArray e)):=by
 obtain ⟨a,cap,rfl,h1,h2,h3⟩:=hv
 by_cases hb : bs = []
 ·subst hb
  have:=run_copy_none (P:=P) (w.alloc (.cells (u8s (List.replicate (0 + n) 0)).toArray e)) dT sT ty e (some ⟨w.heap.size,0,none⟩) a (0 + n) (0 + n) 0 cap hu hs (by simp)
  simpa [ext] using this
 ·obtain ⟨b,off,rfl,hlt,hc⟩:=h3 hb
  have hg : (w.alloc (.cells (u8s (List.replicate (bs.length + n) 0)).toArray e)).heap[w.heap.size]? = some (.cells (u8s (List.replicate (bs.length + n) 0)).toArray e (0,0)):=heap_alloc_new _ _
  have:=run_copy_row P (w.alloc (.cells (u8s (List.replicate (bs.length + n) 0)).toArray e)) dT sT ty e w.heap.size 0 (bs.length + n) (bs.length + n) ⟨b,off,none⟩ bs.length cap (u8s (List.replicate (bs.length + n) 0)).toArray e (u8s bs) hu hs hg
   (by simp [u8s_length]) (fun j v hj => by
    have hjl : j < bs.length:=by
     rcases Nat.lt_or_ge j bs.length with h | h
     ·exact h
     ·rw [List.getElem?_eq_none (by simpa [u8s] using h)] at hj; simp at hj
    rw [u8s_get bs j hjl] at hj
    have hplain : (⟨b,off,none⟩ : Addr).add j = ⟨b,off + j,none⟩:=by unfold Addr.add; split <;> simp_all
    rw [hplain,World.cell?_alloc_past _ _ _ hlt,hc j hjl]; exact hj)
   (by simp [u8s_length]) (fun v hv => by simp [u8s] at hv; obtain ⟨x,_,rfl⟩:=hv; rfl)
  rw [u8s_length] at this
  rw [this]
  congr 1
  rw [setRow_alloc_new]
  congr 2
  simp [ext,u8s_append,u8s,List.drop_replicate]

theorem Tryz.infoU8 : (Tryz.prog.info? 5).map (fun i => (i.zero,i.size,i.bytes)) = some (some (.int .u8 0),1,1):=by kernel_rfl

theorem run_make_u8 (w : World) (n : Nat) (hn : n ≤ 281474976710656) :
  (Instr.makeSlice 160 (.int .i64 (n : Int)) (.int .i64 (n : Int))).run Tryz.prog w = .ok (.slice (some ⟨w.heap.size,0,none⟩) n n) (w.alloc (.cells (u8s (List.replicate n 0)).toArray 5)):=by
 obtain ⟨i,hi,hz0,hz1,hz2⟩:=info_parts Tryz.infoU8
 have:=run_make (P:=Tryz.prog) w 160 5 i (.int .u8 0) Tryz.underlying160 hi hz0 .i64 .i64 (n : Int) (n : Int) (by omega) (by omega) (by rw [hz2]; omega) (by omega)
 rw [this,hz1]
 simp [made_u8]

theorem sizeU8 : (Tryz.prog.info? 5).map (·.size) = some 1:=by
 obtain ⟨i,hi,hz0,hz1,hz2⟩:=info_parts Tryz.infoU8
 simp [hi,hz1]

set_option maxHeartbeats 400000 in
theorem extend_any {v : Value} {bs : List UInt8} {w : World} (hv : Bs w v bs) (n : Nat) (hn : bs.length + n ≤ 281474976710656) :
  Calls Tryz.prog 259 #[v,.int .i64 (n : Int)] w fun e w' => e = .returned (.slice (some ⟨w.heap.size,0,none⟩) (bs.length + n) (bs.length + n)) ∧
   w' = w.alloc (.cells (u8s (ext bs n)).toArray 5):=by
 have hmk:=fun w => run_make_u8 w (bs.length + n) hn
 have hcp:=run_copy_new (P:=Tryz.prog) w 160 160 3 5 Tryz.underlying160 sizeU8 hv n
 obtain ⟨a,cap,rfl,h1,h2,h3⟩:=hv
 clear h3
 generalize ext bs n = r at *
 rw [show ((bs.length + n : Nat) : Int) = (bs.length : Int) + n from by omega] at hmk
 go_enter Tryz.func259,Tryz.ntmps259
 go_wp2
 go_ret
 exact ⟨rfl,rfl⟩
structure Only (rb : Nat) (w w' : World) : Prop where
 os : w'.os = w.os
 tape : w'.tape = w.tape
 output : w'.output = w.output
 size : w.heap.size ≤ w'.heap.size
 block : ∀ k,k < w.heap.size → k ≠ rb → w'.heap[k]? = w.heap[k]?

theorem Only.refl (rb : Nat) (w : World) : Only rb w w:=⟨rfl,rfl,rfl,Nat.le_refl _,fun _ _ _ => rfl⟩
theorem Only.trans {rb : Nat} {a b c : World} (h : Only rb a b) (k : Only rb b c) : Only rb a c :=
 ⟨k.os.trans h.os,k.tape.trans h.tape,k.output.trans h.output,Nat.le_trans h.size k.size,fun i hi hne => (k.block i (Nat.lt_of_lt_of_le hi h.size) hne).trans (h.block i hi hne)⟩
theorem Only.below {rb B : Nat} {w w' : World} (h : Only rb w w') (hB : B ≤ rb) (hs : B ≤ w.heap.size) : Below B w w' :=
 ⟨h.os,h.tape,h.output,h.size,fun k hk => h.block k (by omega) (by omega)⟩
theorem Bs.only {w w' : World} {v : Value} {bs : List UInt8} {rb : Nat} (h : Bs w v bs) (ho : Only rb w w') (hk : bs ≠ [] → v.ownBlock ≠ some rb) : Bs w' v bs:=by
 by_cases hb : bs = []
 ·subst hb
  obtain ⟨a,cap,rfl,h1,h2,h3⟩:=h
  exact ⟨a,cap,rfl,h1,h2,fun hne => absurd rfl hne⟩
 ·exact h.of_block ho.size fun k hv hlt => ho.block k hlt (fun e => hk hb (e ▸ hv))
def Own (w : World) (base : Nat) (e : TypeId) (v : Value) (xs : List UInt8) : Prop:=w.ownsRow base e 1 v xs.length (u8s xs)

theorem Own.bs {w : World} {base : Nat} {e : TypeId} {v : Value} {xs : List UInt8} (h : Own w base e v xs) : Bs w v xs:=by
 obtain ⟨h1,h2⟩:=h
 rcases h2 with ⟨rfl,h0⟩ | ⟨g,cap,cur,rfl,hg,hh,hn,hm,hs,ht⟩
 ·have : xs = []:=List.eq_nil_of_length_eq_zero h0
  subst this; exact Bs.nil w
 ·refine ⟨_,cap,rfl,hn,hm,fun _ => ⟨g,0,rfl,(Array.getElem?_eq_some_iff.1 hh).1,fun i hi => ?_⟩⟩
  have : (cur.toList.take (xs.length * 1))[i]? = some (.int .u8 (xs[i].toNat : Int)):=by rw [ht]; exact u8s_get xs i hi
  simp only [World.cell?,hh]
  rw [List.getElem?_take,if_pos (by omega)] at this
  simpa using this

theorem Own.block {w : World} {base : Nat} {e : TypeId} {v : Value} {xs : List UInt8} (h : Own w base e v xs) : ∀ k,v.ownBlock = some k → base ≤ k∧k < w.heap.size:=World.ownsRow.lt h

theorem Own.later {w w' : World} {base : Nat} {e : TypeId} {v : Value} {xs : List UInt8} (h : Own w base e v xs) (hb : Below w.heap.size w w') : Own w' base e v xs:=by
 obtain ⟨h1,h2⟩:=h
 refine ⟨h1, ?_⟩
 rcases h2 with h2 | ⟨g,cap,cur,hv,hg,hh,r⟩
 ·exact Or.inl h2
 ·exact Or.inr ⟨g,cap,cur,hv,hg,by rw [hb.block g (Array.getElem?_eq_some_iff.1 hh).1]; exact hh,r⟩

theorem Own.nil (w : World) (base : Nat) (e : TypeId) : Own w base e (.slice none 0 0) []:=World.ownsRow_nil w base e 1

theorem Own.lit (w : World) (base : Nat) (e : TypeId) (xs : List UInt8) (C : Array Value) (n : Nat) (hb : base ≤ w.heap.size) (hC : C = (u8s xs).toArray) (hn : n = xs.length) (hm : xs.length ≤ maxLen) :
  Own (w.alloc (.cells C e)) base e (.slice (some ⟨w.heap.size,0,none⟩) n n) xs:=by
 subst hC hn
 have:=World.ownsRow_lit (base:=base) (e:=e) (size := 1) w (u8s xs).toArray xs.length hb hm (by simp [u8s_length])
 unfold Own
 simpa using this

theorem run_append_bs {P : Program} (w : World) (base : Nat) (t ty e : TypeId) (ht : P.underlying t = some (.slice e)) (hinfo : (P.info? e).map (fun i => (i.zero,i.size,i.bytes)) = some (some (.int .u8 0),1,1))
  {v y : Value} {xs ys : List UInt8} (hv : Own w base e v xs) (hy : Bs w y ys) (hb : xs.length + ys.length ≤ 140737488355328) (hbase : base ≤ w.heap.size) :
  ∃ v' w',(Builtin.append_ #[t,t] ty #[v,y]).run P w = .ok v' w'∧Own w' base e v' (xs ++ ys)∧w.grownBy w' v.ownBlock:=by
 obtain ⟨i,hi,hz0,hz1,hz2⟩:=info_parts hinfo
 obtain ⟨a,cap,rfl,h1,h2,h3⟩:=hy
 cases a with
 | none =>
  have hys : ys = []:=by
   by_cases h : ys = []
   ·exact h
   ·obtain ⟨b,off,hh,_⟩:=h3 h; simp at hh
  subst hys
  refine ⟨v,w, ?_,by simpa using hv,⟨rfl,rfl,rfl,Nat.le_refl _,fun _ _ _ => rfl⟩⟩
  rcases hv.2 with ⟨rfl,h0⟩ | ⟨g,cp,cur,rfl,_,_,hnc,_⟩
  ·simp [Builtin.append_,run_underlying ht,sizeOf,typeInfo,hi,Builtin.lenOf,Builtin.firstCells]
  ·simp [Builtin.append_,run_underlying ht,sizeOf,typeInfo,hi,Builtin.lenOf,Builtin.firstCells,hnc,storeCells]
 | some ad =>
  have hnews : ∀ j u,(u8s ys)[j]? = some u → w.cell? (ad.add j) = some u:=by
   intro j u hj
   have hjl : j < ys.length:=by
    rcases Nat.lt_or_ge j ys.length with h | h
    ·exact h
    ·rw [List.getElem?_eq_none (by simpa [u8s] using h)] at hj; simp at hj
   obtain ⟨b,off,hh,_,hc⟩:=h3 (by intro e; subst e; simp at hjl)
   simp only [Option.some.injEq] at hh
   subst hh
   rw [u8s_get ys j hjl] at hj
   have hplain : (⟨b,off,none⟩ : Addr).add j = ⟨b,off + j,none⟩:=by unfold Addr.add; split <;> simp_all
   rw [hplain,hc j hjl]; exact hj
  obtain ⟨v',w',hr,ho,hg,_⟩:=run_append_own (P:=P) w base t ty e i (.int .u8 0) 1 1 ht hi hz0 hz1 hz2 rfl (by omega) v xs.length (u8s xs) hv ad ys.length cap (u8s ys) (by simp [u8s_length]) hnews
   (fun u hu => by simp [u8s] at hu; obtain ⟨x,_,rfl⟩:=hu; rfl) (by unfold maxLen; omega) (by omega) hbase
  refine ⟨v',w',hr, ?_,hg⟩
  unfold Own
  rw [List.length_append,u8s_append]
  exact ho

theorem wpList_want {P : Program} {ops : Array Oper} {Q : Exit → Act → World → Prop} {a : Act} {w : World} {rest : List Oper} {o : Oper} (hw : Region.wanted o (yielded ops a.tmps) = true)
  (h : ∀ K : Act → World → Prop,(∀ a w,wpList P ops Q rest a w → K a w) → o.wp P a w K Q) : wpList P ops Q (o :: rest) a w :=
 wpList_step fun K hK => by rw [if_pos hw]; exact h K hK

theorem wpList_append_bs {P : Program} {w : World} {ops : Array Oper} {rest : List Oper} {o : Oper} {a : Act} {Q : Exit → Act → World → Prop} (hw : Region.wanted o (yielded ops a.tmps) = true) (s x : Operand) (t : TypeId)
  (ho : o.op = .call { callee := .builtin .append,args:=#[s,x],argTypes:=#[t,t] }) (base : Nat) (e : TypeId) (ht : P.underlying t = some (.slice e)) (hinfo : (P.info? e).map (fun i => (i.zero,i.size,i.bytes)) = some (some (.int .u8 0),1,1))
  {v y : Value} {xs ys : List UInt8} (hs : a.eval s = v) (hx : a.eval x = y) (hv : Own w base e v xs) (hy : Bs w y ys) (hb : xs.length + ys.length ≤ 140737488355328) (hbase : base ≤ w.heap.size)
  (h : ∀ v' w',Own w' base e v' (xs ++ ys) → w.grownBy w' v.ownBlock → wpList P ops Q rest (a.put o.dst v') w') : wpList P ops Q (o :: rest) a w:=by
 refine wpList_want hw fun K hK => ?_
 obtain ⟨v',w',hr,h2,h3⟩:=run_append_bs (P:=P) w base t o.type e ht hinfo hv hy hb hbase
 unfold Oper.wp execOp
 simp only [ho,resolve,invoke,builtin,Sem.run_bind,Sem.run_pure,Result.andThen_ok,List.map_toArray,List.map_cons,List.map_nil,hs,hx,hr]
 exact hK _ _ (h v' w' h2 h3)

def seg (bs : List UInt8) (at_ n : Nat) : List UInt8:=(bs.drop at_).take n
def leN : List UInt8 → Nat
 | [] => 0
 | b :: r => b.toNat + 256 * leN r
def beA (x : Nat) (l : List UInt8) : Nat:=l.foldl (fun y b => 256 * y + b.toNat) x
def unpS (bs : List UInt8) (at_ c s mk : Nat) : Nat × Nat × Nat :=
 if s = 0 then (0,0,2) else if bs.length < at_ + s then (0,0,1) else if sizeI (beA (c - mk) (seg bs (at_ + 1) (s - 1)) : Int) = (s : Int) then (beA (c - mk) (seg bs (at_ + 1) (s - 1)),s,0) else (0,0,2)
def wantN (c : Nat) : Nat:=(wantI (c : Int)).toNat
def markN (s : Nat) : Nat:=(markI (s : Int)).toNat
def unp (bs : List UInt8) (at_ : Nat) : Nat × Nat × Nat :=
 if h : at_ < bs.length then unpS bs at_ bs[at_].toNat (wantN bs[at_].toNat) (markN (wantN bs[at_].toNat)) else (0,0,1)
end Go.Proofs.YthpmpdpfnlecmaaGreat
