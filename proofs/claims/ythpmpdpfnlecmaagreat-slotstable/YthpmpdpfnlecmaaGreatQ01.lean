/- Texts joined: Mem, Open, Leaf, Fine, Types5, Cells, OpSpec, InfoOf6. -/
import Derived.WalkKit
import Derived.WalkSpells
import Derived.WalkLawsBesides
import Derived.Laws.IdiomCopy
import Derived.Deep.Draws
import Derived.Test.YthpmpdpfnlecmaaGreatRows
import Derived.ProofKit
import Derived.OpenShut
import Derived.ShutString
import Derived.ChangeOld
import Derived.SizedLaws
import Derived.Deep.QuietTactic
import Derived.BigQuiet
namespace Go.Proofs.YthpmpdpfnlecmaaGreat
set_option linter.unusedVariables false
set_option linter.unusedSimpArgs false
open Go.RowKit
def u8s (bs : List UInt8) : List Value:=bs.map fun b => .int .u8 (b.toNat : Int)
theorem u8s_length (bs : List UInt8) : (u8s bs).length = bs.length:=by simp [u8s]
theorem u8s_get (bs : List UInt8) (i : Nat) (h : i < bs.length) : (u8s bs)[i]? = some (.int .u8 (bs[i].toNat : Int)):=by
 simp [u8s,List.getElem?_eq_getElem h]
theorem u8s_append (a b : List UInt8) : u8s (a ++ b) = u8s a ++ u8s b:=by simp [u8s]

def Bs (w : World) (v : Value) (bs : List UInt8) : Prop :=
 ∃ a cap,v = .slice a bs.length cap∧bs.length ≤ cap∧cap ≤ maxLen ∧
  (bs ≠ [] → ∃ b off,a = some ⟨b,off,none⟩∧b < w.heap.size∧∀ i (h : i < bs.length),w.cell? ⟨b,off + i,none⟩ = some (.int .u8 (bs[i].toNat : Int)))

theorem Bs.nil (w : World) : Bs w (.slice none 0 0) []:=⟨none,0,rfl,Nat.le_refl _,Nat.zero_le _,fun h => absurd rfl h⟩

theorem Bs.len {w : World} {v : Value} {bs : List UInt8} (h : Bs w v bs) : bs.length ≤ maxLen:=by
 obtain ⟨a,cap,_,h1,h2,_⟩:=h; omega

theorem Bs.of_block {w w' : World} {v : Value} {bs : List UInt8} (h : Bs w v bs) (hs : w.heap.size ≤ w'.heap.size) (hk : ∀ k,v.ownBlock = some k → k < w.heap.size → w'.heap[k]? = w.heap[k]?) : Bs w' v bs:=by
 obtain ⟨a,cap,rfl,h1,h2,h3⟩:=h
 refine ⟨a,cap,rfl,h1,h2,fun hne => ?_⟩
 obtain ⟨b,off,rfl,hb,hc⟩:=h3 hne
 refine ⟨b,off,rfl,by omega,fun i hi => ?_⟩
 rw [← hc i hi]
 exact World.cell?_of_block (hk b rfl hb)

theorem Bs.below {w w' : World} {v : Value} {bs : List UInt8} {B : Nat} (h : Bs w v bs) (hb : Below B w w') (hk : ∀ k,v.ownBlock = some k → k < B) : Bs w' v bs :=
 h.of_block hb.size fun k hv _ => hb.block k (hk k hv)

theorem Bs.later {w w' : World} {v : Value} {bs : List UInt8} (h : Bs w v bs) (hb : Below w.heap.size w w') : Bs w' v bs :=
 h.of_block hb.size fun k _ hk => hb.block k hk

theorem Below.drewN {B : Nat} {a w : World} (h : Below B a w) (n : Nat) : Below B a (w.drewN n):=⟨h.os,h.tape,h.output,h.size,h.block⟩

theorem Bs.made (w : World) (bs : List UInt8) (e : TypeId) (hm : bs.length ≤ maxLen) : Bs (w.alloc (.cells (u8s bs).toArray e)) (.slice (some ⟨w.heap.size,0,none⟩) bs.length bs.length) bs:=by
 refine ⟨_,_,rfl,Nat.le_refl _,hm,fun _ => ⟨_,_,rfl,by simp,fun i hi => ?_⟩⟩
 rw [Nat.zero_add,World.cell?_alloc_at _ _ _ _ rfl]
 simp [u8s_get bs i hi]
end Go.Proofs.YthpmpdpfnlecmaaGreat

namespace Go.Proofs.YthpmpdpfnlecmaaGreat
set_option linter.unusedVariables false
set_option linter.unusedSimpArgs false
open Go.ChangeShapes Go.WideShapes Go.ChangeAt Go.RowKit
open Go.ChangeMaps (open_string shut_string)
theorem Tryz.own : ownKnob Tryz.prog.godebug = none:=by kernel_rfl
theorem Tryz.laidOut : laidOutB Tryz.prog = true:=by kernel_rfl
end Go.Proofs.YthpmpdpfnlecmaaGreat

namespace Go.Proofs.YthpmpdpfnlecmaaGreat
set_option linter.unusedVariables false
set_option linter.unusedSimpArgs false
open Go.RowKit
def sizeI (n : Int) : Int:=if n < 0 then 0 else if 536870911 < n then 0 else if n ≤ 127 then 1 else if n ≤ 16383 then 2 else 4
def markI (n : Int) : Int:=if n = 2 then 128 else if n = 4 then 192 else 0
def wantI (c : Int) : Int:=if c < 128 then 1 else if c < 192 then 2 else if c < 224 then 4 else 0

theorem ret_bool {a b : Bool} (h : a = b) : Ending.returned (.bool a) = .returned (.bool b):=by rw [h]
theorem ret_int {k : IntKind} {a b : Int} (h : a = b) : Ending.returned (.int k a) = .returned (.int k b):=by rw [h]
theorem ret_int2 {k l : IntKind} {a b c d : Int} (h : a = b) (g : c = d) : Ending.returned (.tuple #[.int k a,.int l c]) = .returned (.tuple #[.int k b,.int l d]):=by rw [h,g]

set_option maxHeartbeats 400000 in
theorem size_any (n : Int) (w : World) :
  Calls Tryz.prog 258 #[.int .i64 n] w fun e w' => e = .returned (.int .i64 (sizeI n))∧w' = w:=by
 go_enter Tryz.func258,Tryz.ntmps258
 go_wp2
 all_goals (go_ret; exact ⟨ret_int (by unfold sizeI; omega),rfl⟩)

set_option maxHeartbeats 400000 in
theorem markOf_any (n : Int) (w : World) :
  Calls Tryz.prog 260 #[.int .i64 n] w fun e w' => e = .returned (.int .u8 (markI n))∧w' = w:=by
 by_cases h2 : n = 2
 ·subst h2
  go_enter Tryz.func260,Tryz.ntmps260
  go_wp2
  go_ret; exact ⟨rfl,rfl⟩
 ·by_cases h4 : n = 4
  ·subst h4
   go_enter Tryz.func260,Tryz.ntmps260
   go_wp2
   go_ret; exact ⟨rfl,rfl⟩
  ·have e2 : (n == 2) = false:=by simp [h2]
   have e4 : (n == 4) = false:=by simp [h4]
   go_enter Tryz.func260,Tryz.ntmps260
   go_wp2
   go_ret; exact ⟨ret_int (by simp [markI,h2,h4]),rfl⟩
def okB (b : UInt8) : Bool:=decide (33 ≤ b.toNat) && decide (b.toNat ≤ 126)
def fineB (l : List UInt8) : Bool:=decide (1 ≤ l.length) && decide (l.length ≤ 24) && l.all okB

theorem toList_len (s : ByteArray) : s.data.toList.length = s.size:=Array.length_toList
theorem fine_no {s : ByteArray} (h : s.size < 1 ∨ 24 < s.size) : fineB s.data.toList = false:=by
 unfold fineB; rw [toList_len]
 rcases h with h | h
 ·have : decide (1 ≤ s.size) = false:=decide_eq_false (by omega)
  rw [this]; rfl
 ·have : decide (s.size ≤ 24) = false:=decide_eq_false (by omega)
  rw [this]; simp

theorem fine_short (s : ByteArray) (w : World) (h : s.size < 1) :
  Calls Tryz.prog 144 #[.string s] w fun e w' => e = .returned (.bool (fineB s.data.toList))∧w' = w:=by
 have hf : Hid (fineB s.data.toList = false):=fine_no (.inl h)
 go_enter Tryz.func144,Tryz.ntmps144
 go_wp2
 go_ret
 exact ⟨ret_bool hf.out.symm,rfl⟩

theorem fine_long (s : ByteArray) (w : World) (h : 24 < s.size) :
  Calls Tryz.prog 144 #[.string s] w fun e w' => e = .returned (.bool (fineB s.data.toList))∧w' = w:=by
 have hf : Hid (fineB s.data.toList = false):=fine_no (.inr h)
 go_enter Tryz.func144,Tryz.ntmps144
 go_wp2
 go_ret
 exact ⟨ret_bool hf.out.symm,rfl⟩

theorem str_get (s : ByteArray) (k : Nat) (h : k < s.size) : s.data.toList[k]'(by rw [toList_len]; exact h) = s[k]:=by simp; rfl
theorem take_str_succ (s : ByteArray) (k : Nat) (h : k < s.size) : s.data.toList.take (k + 1) = s.data.toList.take k ++ [s[k]]:=by
 rw [List.take_succ_eq_append_getElem (by rw [toList_len]; exact h),str_get s k h]
theorem ok_yes {s : ByteArray} {k : Nat} (h : k < s.size) (ht : (s.data.toList.take k).all okB = true) (a : 33 ≤ s[k].toNat) (b : s[k].toNat ≤ 126) : (s.data.toList.take (k + 1)).all okB = true:=by
 rw [take_str_succ s k h,List.all_append,ht]; simp [okB,a,b]
theorem ok_no {s : ByteArray} {k : Nat} (h : k < s.size) (a : ¬ (33 ≤ s[k].toNat∧s[k].toNat ≤ 126)) : fineB s.data.toList = false:=by
 have : s.data.toList.all okB = false:=by
  rw [List.all_eq_false]
  refine ⟨s[k], ?_, ?_⟩
  ·rw [← str_get s k h]; exact List.getElem_mem _
  ·simp only [okB,Bool.and_eq_true,decide_eq_true_eq]; exact a
 unfold fineB; rw [this,Bool.and_false]
theorem ok_all {s : ByteArray} (ht : (s.data.toList.take s.size).all okB = true) : s.data.toList.all okB = true:=by
 rwa [List.take_of_length_le (by rw [toList_len]; exact Nat.le_refl _)] at ht

theorem fine_in (s : ByteArray) (w : World) (h1 : 1 ≤ s.size) (h2 : s.size ≤ 24) :
  Calls Tryz.prog 144 #[.string s] w fun e w' => e = .returned (.bool (fineB s.data.toList))∧w' = w:=by
 go_enter Tryz.func144,Tryz.ntmps144
 go_wp2
 go_loopw [14] (fun i wr => ∃ k : Nat,k ≤ s.size∧i = .int .i64 k∧wr = w∧(s.data.toList.take k).all okB = true) (fun i _ => s.size - (intOf i).toNat)
 case atStart => exact ⟨0,Nat.zero_le _,rfl,rfl,by simp⟩
 case round =>
  obtain ⟨k,hk,rfl,rfl,ht⟩:=hrel
  have HT : Hid ((s.data.toList.take k).all okB = true):=ht
  clear ht
  by_cases hlt : k < s.size
  ·by_cases hb : 33 ≤ s[k].toNat∧s[k].toNat ≤ 126
   ·obtain ⟨b1,b2⟩:=hb
    go_wp2
    go_roundw
    case rel => exact ⟨k + 1,by omega,by go_num,by simp,ok_yes hlt HT.out b1 b2⟩
    case measure => simp [intOf]; omega
   ·have HF : Hid (fineB s.data.toList = false):=ok_no hlt hb
    by_cases c1 : s[k].toNat < 33
    ·clear hb
     go_wp2
     go_ret
     exact ⟨ret_bool HF.out.symm,rfl⟩
    ·have c2 : 126 < s[k].toNat:=by omega
     clear hb
     go_wp2
     go_ret
     exact ⟨ret_bool HF.out.symm,rfl⟩
  ·have e : k = s.size:=by omega
   subst e
   have HF : Hid (fineB s.data.toList = true):=by
    show _ = _
    unfold fineB; rw [toList_len,ok_all HT.out]; simp; omega
   go_wp2
   go_ret
   exact ⟨ret_bool HF.out.symm,rfl⟩

theorem fine_any (s : ByteArray) (w : World) :
  Calls Tryz.prog 144 #[.string s] w fun e w' => e = .returned (.bool (fineB s.data.toList))∧w' = w:=by
 by_cases h1 : s.size < 1
 ·exact fine_short s w h1
 ·by_cases h2 : 24 < s.size
  ·exact fine_long s w h2
  ·exact fine_in s w (by omega) (by omega)

theorem refFine_any (s : ByteArray) (hs : s.size ≤ maxLen) (w : World) :
  Calls Tryz.prog 114 #[.string s] w fun e w' => e = .returned (.bool (fineB s.data.toList))∧w' = w:=by
 unfold maxLen at hs
 go_enter Tryz.func114,Tryz.ntmps114
 go_wp2
 go_loopw [3] (fun i wr => ∃ k : Nat,k ≤ s.size∧i = .int .i64 k∧wr = w∧(s.data.toList.take k).all okB = true) (fun i _ => s.size - (intOf i).toNat)
 case atStart => exact ⟨0,Nat.zero_le _,rfl,rfl,by simp⟩
 case round =>
  obtain ⟨k,hk,rfl,rfl,ht⟩:=hrel
  have HT : Hid ((s.data.toList.take k).all okB = true):=ht
  clear ht
  by_cases hlt : k < s.size
  ·by_cases hb : 33 ≤ s[k].toNat∧s[k].toNat ≤ 126
   ·obtain ⟨b1,b2⟩:=hb
    go_wp2
    go_roundw
    case rel => exact ⟨k + 1,by omega,by go_num,by simp,ok_yes hlt HT.out b1 b2⟩
    case measure => simp [intOf]; omega
   ·have HF : Hid (fineB s.data.toList = false):=ok_no hlt hb
    by_cases c1 : s[k].toNat < 33
    ·clear hb
     go_wp2
     go_ret
     exact ⟨ret_bool HF.out.symm,rfl⟩
    ·have c2 : 126 < s[k].toNat:=by omega
     clear hb
     go_wp2
     go_ret
     exact ⟨ret_bool HF.out.symm,rfl⟩
  ·have e : k = s.size:=by omega
   subst e
   by_cases c1 : 0 < s.size
   ·by_cases c2 : s.size ≤ 24
    ·have HF : Hid (fineB s.data.toList = true):=by
      show _ = _
      unfold fineB; rw [toList_len,ok_all HT.out]; simp; omega
     go_wp2
     go_ret
     exact ⟨ret_bool (by rw [HF.out]; simp; omega),rfl⟩
    ·have HF : Hid (fineB s.data.toList = false):=fine_no (.inr (by omega))
     go_wp2
     go_ret
     exact ⟨ret_bool (by rw [HF.out]; simp; omega),rfl⟩
   ·have HF : Hid (fineB s.data.toList = false):=fine_no (.inl (by omega))
    go_wp2
    go_ret
    exact ⟨ret_bool HF.out.symm,rfl⟩
def plainB (k i d : Int) (r : Bool) : Bool :=
  decide (0 ≤ d∧d ≤ 3∧0 ≤ i∧(k = 1∧d = 0∧r = false∧i = 0 ∨ (k = 2 ∨ k = 3 ∨ k = 4)∧i = 0 ∨ (k = 5 ∨ k = 6)∧i < 32 ∨ k = 7∧i ≤ 7))
def mayB (p : Nat) (k i d : Int) (r : Bool) : Bool :=
  if p = 1 then plainB k i d r && (k != 1) && !r else if p = 2 then plainB k i d r && (k != 1) else if p = 3 then plainB k i d r && !r else plainB k i d r

abbrev Ty:=Int × Int × Int × Bool
def tv (t : Ty) : Value := .agg #[.int .i64 t.1,.int .i64 t.2.1,.int .i64 t.2.2.1,.bool t.2.2.2]
def plainT (t : Ty) : Bool:=plainB t.1 t.2.1 t.2.2.1 t.2.2.2
def mayT (p : Nat) (t : Ty) : Bool:=mayB p t.1 t.2.1 t.2.2.1 t.2.2.2

set_option maxHeartbeats 1000000 in
theorem isPlain_any (k i d : Int) (r : Bool) (w : World) :
    Calls Tryz.prog 208 #[.agg #[.int .i64 k,.int .i64 i,.int .i64 d,.bool r]] w fun e w' => e = .returned (.bool (plainB k i d r))∧Below w.heap.size w w':=by
  go_enter Tryz.func208,Tryz.ntmps208
  go_wp2
  all_goals go_ret
  all_goals refine ⟨ret_bool ?_,(Below.refl _ _).alloc (Nat.le_refl _) _⟩
  all_goals try simp only [beq_iff_eq,beq_eq_false_iff_ne,ne_eq] at *
  all_goals (rw [Bool.eq_iff_iff]; cases r <;> first | contradiction | (simp [plainB] <;> omega))

set_option maxHeartbeats 1000000 in
theorem refPlain_any (k i d : Int) (r : Bool) (w : World) :
    Calls Tryz.prog 135 #[.agg #[.int .i64 k,.int .i64 i,.int .i64 d,.bool r]] w fun e w' => e = .returned (.bool (plainB k i d r))∧Below w.heap.size w w':=by
  go_enter Tryz.func135,Tryz.ntmps135
  go_wp2
  all_goals go_ret
  all_goals refine ⟨ret_bool ?_,(Below.refl _ _).alloc (Nat.le_refl _) _⟩
  all_goals try simp only [beq_iff_eq,beq_eq_false_iff_ne,ne_eq] at *
  all_goals (rw [Bool.eq_iff_iff]; cases r <;> first | contradiction | (simp [plainB] <;> omega))

theorem bcell {W w1 : World} (hb : Below W.heap.size W w1) : (∀ b o,b < W.heap.size → w1.cell? ⟨b,o,none⟩ = W.cell? ⟨b,o,none⟩)∧(∀ b o,b < W.heap.size → w1.frozen? ⟨b,o,none⟩ = W.frozen? ⟨b,o,none⟩) :=
  ⟨fun b o h => hb.cell (p:=⟨b,o,none⟩) h,fun b o h => hb.frozen (p:=⟨b,o,none⟩) h⟩
theorem below_box {w w1 : World} {o : Obj} (hb : Below (w.alloc o).heap.size (w.alloc o) w1) : Below w.heap.size w w1 :=
  ((Below.refl _ _).alloc (Nat.le_refl _) _).trans (hb.mono (by simp))

theorem isVariable_any (k i d : Int) (r : Bool) (w : World) :
    Calls Tryz.prog 221 #[.agg #[.int .i64 k,.int .i64 i,.int .i64 d,.bool r]] w fun e w' => e = .returned (.bool (mayB 2 k i d r))∧Below w.heap.size w w':=by
  go_enter Tryz.func221,Tryz.ntmps221
  go_wp2_with fail
  refine (isPlain_any k i d r _).mono ?_
  rintro e w1 ⟨rfl,hb⟩
  have hB:=below_box hb
  obtain ⟨hc,hf⟩:=bcell hb
  clear hb
  go_wp2
  all_goals go_ret
  all_goals refine ⟨ret_bool ?_,hB⟩
  all_goals simp [mayB, *]

theorem isField_any (k i d : Int) (r : Bool) (w : World) :
    Calls Tryz.prog 217 #[.agg #[.int .i64 k,.int .i64 i,.int .i64 d,.bool r]] w fun e w' => e = .returned (.bool (mayB 1 k i d r))∧Below w.heap.size w w':=by
  go_enter Tryz.func217,Tryz.ntmps217
  have h2 : Hid (mayB 1 k i d r = (mayB 2 k i d r && !r)):=by show _ = _; simp [mayB]
  go_wp2_with fail
  refine (isVariable_any k i d r _).mono ?_
  rintro e w1 ⟨rfl,hb⟩
  have hB:=below_box hb
  obtain ⟨hc,hf⟩:=bcell hb
  clear hb
  go_wp2
  all_goals go_ret
  all_goals refine ⟨ret_bool ?_,hB⟩
  all_goals (rw [h2.out]; simp [*])

theorem isAnswer_any (k i d : Int) (r : Bool) (w : World) :
    Calls Tryz.prog 219 #[.agg #[.int .i64 k,.int .i64 i,.int .i64 d,.bool r]] w fun e w' => e = .returned (.bool (mayB 3 k i d r))∧Below w.heap.size w w':=by
  go_enter Tryz.func219,Tryz.ntmps219
  go_wp2_with fail
  refine (isPlain_any k i d r _).mono ?_
  rintro e w1 ⟨rfl,hb⟩
  have hB:=below_box hb
  obtain ⟨hc,hf⟩:=bcell hb
  clear hb
  go_wp2
  all_goals go_ret
  all_goals refine ⟨ret_bool ?_,hB⟩
  all_goals simp [mayB, *]

theorem plain_any (k i d : Int) (r : Bool) (w : World) :
    Calls Tryz.prog 179 #[.agg #[.int .i64 k,.int .i64 i,.int .i64 d,.bool r]] w fun e w' => e = .returned (.bool (plainB k i d r))∧Below w.heap.size w w':=by
  go_enter Tryz.func179,Tryz.ntmps179
  go_wp2_with fail
  refine (isPlain_any k i d r _).mono ?_
  rintro e w1 ⟨rfl,hb⟩
  have hB:=below_box hb
  clear hb
  go_wp2
  go_ret
  exact ⟨rfl,hB⟩

theorem where1_any (k i d : Int) (r : Bool) (w : World) :
    Calls Tryz.prog 169 #[.agg #[.int .i64 k,.int .i64 i,.int .i64 d,.bool r],.int .i64 1] w fun e w' => e = .returned (.bool (mayB 1 k i d r))∧Below w.heap.size w w':=by
  go_enter Tryz.func169,Tryz.ntmps169
  go_wp2_with fail
  refine (refPlain_any k i d r _).mono ?_
  rintro e w1 ⟨rfl,hb⟩
  have hB:=below_box hb
  obtain ⟨hc,hf⟩:=bcell hb
  clear hb
  go_wp2
  all_goals go_ret
  all_goals refine ⟨ret_bool ?_,hB⟩
  all_goals first | (have hq : plainB k i d r = true:=by simpa using ‹(!plainB k i d r) = false›
                     simp [mayB, *]) | (have hq : plainB k i d r = false:=by simpa using ‹(!plainB k i d r) = true›
                                        simp [mayB, *])

theorem where2_any (k i d : Int) (r : Bool) (w : World) :
    Calls Tryz.prog 169 #[.agg #[.int .i64 k,.int .i64 i,.int .i64 d,.bool r],.int .i64 2] w fun e w' => e = .returned (.bool (mayB 2 k i d r))∧Below w.heap.size w w':=by
  go_enter Tryz.func169,Tryz.ntmps169
  go_wp2_with fail
  refine (refPlain_any k i d r _).mono ?_
  rintro e w1 ⟨rfl,hb⟩
  have hB:=below_box hb
  obtain ⟨hc,hf⟩:=bcell hb
  clear hb
  go_wp2
  all_goals go_ret
  all_goals refine ⟨ret_bool ?_,hB⟩
  all_goals first | (have hq : plainB k i d r = true:=by simpa using ‹(!plainB k i d r) = false›
                     simp [mayB, *]) | (have hq : plainB k i d r = false:=by simpa using ‹(!plainB k i d r) = true›
                                        simp [mayB, *])

theorem where3_any (k i d : Int) (r : Bool) (w : World) :
    Calls Tryz.prog 169 #[.agg #[.int .i64 k,.int .i64 i,.int .i64 d,.bool r],.int .i64 3] w fun e w' => e = .returned (.bool (mayB 3 k i d r))∧Below w.heap.size w w':=by
  go_enter Tryz.func169,Tryz.ntmps169
  go_wp2_with fail
  refine (refPlain_any k i d r _).mono ?_
  rintro e w1 ⟨rfl,hb⟩
  have hB:=below_box hb
  obtain ⟨hc,hf⟩:=bcell hb
  clear hb
  go_wp2
  all_goals go_ret
  all_goals refine ⟨ret_bool ?_,hB⟩
  all_goals first | (have hq : plainB k i d r = true:=by simpa using ‹(!plainB k i d r) = false›
                     simp [mayB, *]) | (have hq : plainB k i d r = false:=by simpa using ‹(!plainB k i d r) = true›
                                        simp [mayB, *])
def At (w : World) (g : Nat) (C : Array Value) (t : TypeId) : Prop:=w.heap[g]? = some (.cells C t (0,0))

theorem At.cell {w : World} {g : Nat} {C : Array Value} {t : TypeId} (h : At w g C t) : ∀ o,w.cell? ⟨g,o,none⟩ = C[o]?:=by
 unfold At at h
 intro o
 simp [World.cell?,h]
theorem At.melt {w : World} {g : Nat} {C : Array Value} {t : TypeId} (h : At w g C t) : ∀ o,w.frozen? ⟨g,o,none⟩ = false:=by
 unfold At at h
 intro o
 simp [World.frozen?,h]
theorem At.lt {w : World} {g : Nat} {C : Array Value} {t : TypeId} (h : At w g C t) : g < w.heap.size:=(Array.getElem?_eq_some_iff.1 h).1
theorem At.below {w w' : World} {g B : Nat} {C : Array Value} {t : TypeId} (h : At w g C t) (hb : Below B w w') (hg : g < B) : At w' g C t:=by
 unfold At at h ⊢
 rw [hb.block g hg]; exact h
theorem At.later {w w' : World} {g : Nat} {C : Array Value} {t : TypeId} (h : At w g C t) (hb : Below w.heap.size w w') : At w' g C t:=h.below hb h.lt
theorem At.drewN {w : World} {g : Nat} {C : Array Value} {t : TypeId} (h : At w g C t) (n : Nat) : At (w.drewN n) g C t:=h
theorem At.made (w : World) (C : Array Value) (t : TypeId) : At (w.alloc (.cells C t)) w.heap.size C t:=by
 unfold At
 have:=heap_alloc_new w (.cells C t)
 simpa using this
theorem At.next {w : World} {g : Nat} {C : Array Value} {t : TypeId} (h : At w g C t) (o : Obj) : At (w.alloc o) g C t:=h.later ((Below.refl _ _).alloc (Nat.le_refl _) _)
theorem At.other {w : World} {g g' o : Nat} {C : Array Value} {t : TypeId} (h : At w g C t) (hg : g ≠ g') (u : Value) : At (w.setCell ⟨g',o,none⟩ u) g C t:=by
 unfold At at h ⊢
 rw [Below.heap_setCell _ _ _ _ hg]; exact h
theorem At.set {w : World} {g : Nat} {C : Array Value} {t : TypeId} (h : At w g C t) (o : Nat) (u : Value) : At (w.setCell ⟨g,o,none⟩ u) g (C.setIfInBounds o u) t:=by
 unfold At at h ⊢
 rw [setCell_eq_setRow w g o _ _ _ _ h,setRow_heap w g _ _ _ _ h]

theorem At.set3 {w : World} {g : Nat} {c0 c1 c2 : Value} {t : TypeId} (h : At w g #[c0,c1,c2] t) (x0 x1 x2 : Value) :
  At (((w.setCell ⟨g,0,none⟩ x0).setCell ⟨g,1,none⟩ x1).setCell ⟨g,2,none⟩ x2) g #[x0,x1,x2] t:=by
 have:=((h.set 0 x0).set 1 x1).set 2 x2
 simpa using this
theorem At.set4 {w : World} {g : Nat} {c0 c1 c2 c3 : Value} {t : TypeId} (h : At w g #[c0,c1,c2,c3] t) (x0 x1 x2 x3 : Value) :
  At ((((w.setCell ⟨g,0,none⟩ x0).setCell ⟨g,1,none⟩ x1).setCell ⟨g,2,none⟩ x2).setCell ⟨g,3,none⟩ x3) g #[x0,x1,x2,x3] t:=by
 have:=(((h.set 0 x0).set 1 x1).set 2 x2).set 3 x3
 simpa using this
theorem At.set6 {w : World} {g : Nat} {c0 c1 c2 c3 c4 c5 : Value} {t : TypeId} (h : At w g #[c0,c1,c2,c3,c4,c5] t) (x0 x1 x2 x3 x4 x5 : Value) :
  At ((((((w.setCell ⟨g,0,none⟩ x0).setCell ⟨g,1,none⟩ x1).setCell ⟨g,2,none⟩ x2).setCell ⟨g,3,none⟩ x3).setCell ⟨g,4,none⟩ x4).setCell ⟨g,5,none⟩ x5) g #[x0,x1,x2,x3,x4,x5] t:=by
 have:=(((((h.set 0 x0).set 1 x1).set 2 x2).set 3 x3).set 4 x4).set 5 x5
 simpa using this
theorem below_set3 {B g : Nat} {w w1 : World} (h : Below B w w1) (hg : B ≤ g) (x0 x1 x2 : Value) : Below B w (((w1.setCell ⟨g,0,none⟩ x0).setCell ⟨g,1,none⟩ x1).setCell ⟨g,2,none⟩ x2) :=
 ((h.setCell hg _).setCell hg _).setCell hg _
theorem below_set4 {B g : Nat} {w w1 : World} (h : Below B w w1) (hg : B ≤ g) (x0 x1 x2 x3 : Value) : Below B w ((((w1.setCell ⟨g,0,none⟩ x0).setCell ⟨g,1,none⟩ x1).setCell ⟨g,2,none⟩ x2).setCell ⟨g,3,none⟩ x3) :=
 (((h.setCell hg _).setCell hg _).setCell hg _).setCell hg _
theorem below_set6 {B g : Nat} {w w1 : World} (h : Below B w w1) (hg : B ≤ g) (x0 x1 x2 x3 x4 x5 : Value) : Below B w ((((((w1.setCell ⟨g,0,none⟩ x0).setCell ⟨g,1,none⟩ x1).setCell ⟨g,2,none⟩ x2).setCell ⟨g,3,none⟩ x3).setCell ⟨g,4,none⟩ x4).setCell ⟨g,5,none⟩ x5) :=
 (((((h.setCell hg _).setCell hg _).setCell hg _).setCell hg _).setCell hg _).setCell hg _
def opsT : List (List UInt8 × Int × Int) := [
 ([110,111,112],0,0),
 ([108,100,97,114,103],4,0),
 ([115,116,97,114,103],4,0),
 ([108,100,97,114,103,97],4,0),
 ([108,100,108,111,99],3,0),
 ([115,116,108,111,99],3,0),
 ([108,100,108,111,99,97],3,0),
 ([108,100,99,52],1,0),
 ([108,100,99,56],2,0),
 ([108,100,110,117,108,108],0,0),
 ([100,117,112],0,0),
 ([112,111,112],0,0),
 ([97,100,100],0,0),
 ([115,117,98],0,0),
 ([109,117,108],0,0),
 ([100,105,118],0,0),
 ([114,101,109],0,0),
 ([97,110,100],0,0),
 ([111,114],0,0),
 ([120,111,114],0,0),
 ([115,104,108],0,0),
 ([115,104,114],0,0),
 ([110,101,103],0,0),
 ([110,111,116],0,0),
 ([97,100,100,111,118,102],0,0),
 ([115,117,98,111,118,102],0,0),
 ([109,117,108,111,118,102],0,0),
 ([99,111,110,118,52],0,0),
 ([99,111,110,118,56],0,0),
 ([99,111,110,118,111,118,102,52],0,0),
 ([99,101,113],0,0),
 ([99,103,116],0,0),
 ([99,108,116],0,0),
 ([98,114],5,1),
 ([98,114,116,114,117,101],5,2),
 ([98,114,102,97,108,115,101],5,2),
 ([98,101,113],5,2),
 ([98,103,101],5,2),
 ([98,103,116],5,2),
 ([98,108,101],5,2),
 ([98,108,116],5,2),
 ([98,110,101],5,2),
 ([99,97,108,108],6,0),
 ([99,97,108,108,118,105,114,116],6,0),
 ([110,101,119,111,98,106],6,0),
 ([114,101,116],0,3),
 ([116,97,105,108],0,0),
 ([108,100,102,108,100],7,0),
 ([115,116,102,108,100],7,0),
 ([108,100,102,108,100,97],7,0),
 ([108,100,115,102,108,100],7,0),
 ([115,116,115,102,108,100],7,0),
 ([108,100,115,102,108,100,97],7,0),
 ([108,100,111,98,106],8,0),
 ([115,116,111,98,106],8,0),
 ([105,110,105,116,111,98,106],8,0),
 ([110,101,119,97,114,114],8,0),
 ([108,100,108,101,110],0,0),
 ([108,100,101,108,101,109],8,0),
 ([115,116,101,108,101,109],8,0),
 ([108,100,101,108,101,109,97],8,0),
 ([98,111,120],8,0),
 ([117,110,98,111,120],8,0),
 ([117,110,98,111,120,97,110,121],8,0),
 ([99,97,115,116,99,108,97,115,115],8,0),
 ([105,115,105,110,115,116],8,0),
 ([108,100,102,116,110],6,0),
 ([110,101,119,100,101,108],8,0),
 ([116,104,114,111,119],0,3),
 ([114,101,116,104,114,111,119],0,3),
 ([108,101,97,118,101],5,4),
 ([101,110,100,102,105,110,97,108,108,121],0,5),
 ([101,110,100,102,105,108,116,101,114],0,5),
 ([105,110],0,0),
 ([111,117,116],0,0)]

def opI (n : Int) : List UInt8 × Int × Int:=if 1 ≤ n∧n ≤ 75 then opsT.getD (n - 1).toNat ([],0,0) else ([],0,0)
def opS (n : Int) : ByteArray:=⟨(opI n).1.toArray⟩
def opP (n : Int) : Int:=(opI n).2.1
def opW (n : Int) : Int:=(opI n).2.2
theorem opI_out {n : Int} (h : ¬ (1 ≤ n∧n ≤ 75)) : opI n = ([],0,0):=by unfold opI; rw [if_neg h]
theorem opS_out {n : Int} (h : ¬ (1 ≤ n∧n ≤ 75)) : opS n = ⟨#[]⟩:=by unfold opS; rw [opI_out h]
theorem opP_out {n : Int} (h : ¬ (1 ≤ n∧n ≤ 75)) : opP n = 0:=by unfold opP; rw [opI_out h]
theorem opW_out {n : Int} (h : ¬ (1 ≤ n∧n ≤ 75)) : opW n = 0:=by unfold opW; rw [opI_out h]

theorem ret_info {a b : ByteArray} {c d e f : Int} (h : a = b) (g : c = d) (i : e = f) : Ending.returned (.agg #[.string a,.int .i64 c,.int .i64 e]) = .returned (.agg #[.string b,.int .i64 d,.int .i64 f]):=by rw [h,g,i]
set_option maxHeartbeats 8000000 in
theorem infoStack_any (n : Int) (hn : n ≤ 12) (w : World) :
    Calls Tryz.prog 210 #[.int .i64 n] w fun e w' => e = .returned (.agg #[.string (opS n),.int .i64 (opP n),.int .i64 (opW n)])∧Below w.heap.size w w':=by
  go_enter Tryz.func210,Tryz.ntmps210
  go_wp2
  all_goals
    refine bodyPost_ret (v:=_) (by simp [results,Tryz.results210,go_sem]; rfl) rfl ⟨?_, ?_⟩
    · simp only [beq_iff_eq,beq_eq_false_iff_ne,ne_eq] at *
      first
        | (subst n; rfl)
        | (have ho : ¬ (1 ≤ n∧n ≤ 75):=by omega
           exact ret_info (opS_out ho).symm (opP_out ho).symm (opW_out ho).symm)
    · exact (Below.refl _ _).alloc (Nat.le_refl _) _

set_option maxHeartbeats 8000000 in
theorem infoNumbers_any (n : Int) (h1 : 12 < n) (h2 : n ≤ 33) (w : World) :
    Calls Tryz.prog 211 #[.int .i64 n] w fun e w' => e = .returned (.agg #[.string (opS n),.int .i64 (opP n),.int .i64 (opW n)])∧Below w.heap.size w w':=by
  go_enter Tryz.func211,Tryz.ntmps211
  go_wp2
  all_goals
    refine bodyPost_ret (v:=_) (by simp [results,Tryz.results211,go_sem]; rfl) rfl ⟨?_, ?_⟩
    · simp only [beq_iff_eq,beq_eq_false_iff_ne,ne_eq] at *
      first
        | (subst n; rfl)
        | (have ho : ¬ (1 ≤ n∧n ≤ 75):=by omega
           exact ret_info (opS_out ho).symm (opP_out ho).symm (opW_out ho).symm)
    · exact (Below.refl _ _).alloc (Nat.le_refl _) _

set_option maxHeartbeats 8000000 in
theorem infoCalls_any (n : Int) (h1 : 33 < n) (h2 : n ≤ 47) (w : World) :
    Calls Tryz.prog 212 #[.int .i64 n] w fun e w' => e = .returned (.agg #[.string (opS n),.int .i64 (opP n),.int .i64 (opW n)])∧Below w.heap.size w w':=by
  go_enter Tryz.func212,Tryz.ntmps212
  go_wp2
  all_goals
    refine bodyPost_ret (v:=_) (by simp [results,Tryz.results212,go_sem]; rfl) rfl ⟨?_, ?_⟩
    · simp only [beq_iff_eq,beq_eq_false_iff_ne,ne_eq] at *
      first
        | (subst n; rfl)
        | (have ho : ¬ (1 ≤ n∧n ≤ 75):=by omega
           exact ret_info (opS_out ho).symm (opP_out ho).symm (opW_out ho).symm)
    · exact (Below.refl _ _).alloc (Nat.le_refl _) _

set_option maxHeartbeats 8000000 in
theorem infoMemory_any (n : Int) (h1 : 47 < n) (h2 : n ≤ 66) (w : World) :
    Calls Tryz.prog 213 #[.int .i64 n] w fun e w' => e = .returned (.agg #[.string (opS n),.int .i64 (opP n),.int .i64 (opW n)])∧Below w.heap.size w w':=by
  go_enter Tryz.func213,Tryz.ntmps213
  go_wp2
  all_goals
    refine bodyPost_ret (v:=_) (by simp [results,Tryz.results213,go_sem]; rfl) rfl ⟨?_, ?_⟩
    · simp only [beq_iff_eq,beq_eq_false_iff_ne,ne_eq] at *
      first
        | (subst n; rfl)
        | (have ho : ¬ (1 ≤ n∧n ≤ 75):=by omega
           exact ret_info (opS_out ho).symm (opP_out ho).symm (opW_out ho).symm)
    · exact (Below.refl _ _).alloc (Nat.le_refl _) _

set_option maxHeartbeats 8000000 in
theorem infoRest_any (n : Int) (h1 : 66 < n) (w : World) :
    Calls Tryz.prog 214 #[.int .i64 n] w fun e w' => e = .returned (.agg #[.string (opS n),.int .i64 (opP n),.int .i64 (opW n)])∧Below w.heap.size w w':=by
  go_enter Tryz.func214,Tryz.ntmps214
  go_wp2
  all_goals
    refine bodyPost_ret (v:=_) (by simp [results,Tryz.results214,go_sem]; rfl) rfl ⟨?_, ?_⟩
    · simp only [beq_iff_eq,beq_eq_false_iff_ne,ne_eq] at *
      first
        | (subst n; rfl)
        | (have ho : ¬ (1 ≤ n∧n ≤ 75):=by omega
           exact ret_info (opS_out ho).symm (opP_out ho).symm (opW_out ho).symm)
    · exact (Below.refl _ _).alloc (Nat.le_refl _) _
end Go.Proofs.YthpmpdpfnlecmaaGreat
