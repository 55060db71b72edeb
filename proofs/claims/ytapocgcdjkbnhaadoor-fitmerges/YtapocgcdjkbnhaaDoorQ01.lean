/- Texts joined: Mem, Open, Leaf, Fine, Types5, Cells, OpSpec, Fits6, OpenT, Extend, Reader, Append, Num, Packed, StreamSpec, RowSpec, Codes4, SigSpec, Rule5. -/
import Derived.WalkKit
import Derived.WalkSpells
import Derived.WalkLawsBesides
import Derived.Laws.IdiomCopy
import Derived.Deep.Draws
import Derived.Test.YtapocgcdjkbnhaaDoorRows
import Derived.ProofKit
import Derived.OpenShut
import Derived.ShutString
import Derived.ChangeOld
import Derived.SizedLaws
import Derived.Deep.QuietTactic
import Derived.BigQuiet
import Derived.Lib.Strings
import Derived.Lib.SmallJoins
import Derived.Deep.Slices
import Derived.Deep.Strs
import Derived.Laws.BitsAllLaws
import Derived.Deep.RegionWith
namespace Go.Proofs.YtapocgcdjkbnhaaDoor
set_option linter.unusedVariables false
set_option linter.unusedSimpArgs false
open Go.RowKit
def u8s (bs : List UInt8) : List Value:=bs.map fun b => .int .u8 (b.toNat : Int)
theorem u8s_length (bs : List UInt8) : (u8s bs).length = bs.length:=by simp [u8s]
theorem u8s_get (bs : List UInt8) (i : Nat) (h : i < bs.length) : (u8s bs)[i]? = some (.int .u8 (bs[i].toNat : Int)):=by
 simp [u8s,List.getElem?_eq_getElem h]
def Bs (w : World) (v : Value) (bs : List UInt8) : Prop :=
 ∃ a cap,v = .slice a bs.length cap∧bs.length ≤ cap∧cap ≤ maxLen ∧
  (bs ≠ [] → ∃ b off,a = some ⟨b,off,none⟩∧b < w.heap.size∧∀ i (h : i < bs.length),w.cell? ⟨b,off + i,none⟩ = some (.int .u8 (bs[i].toNat : Int)))

theorem Bs.nil (w : World) : Bs w (.slice none 0 0) []:=⟨none,0,rfl,Nat.le_refl _,Nat.zero_le _,fun h => absurd rfl h⟩

theorem Bs.of_block {w w' : World} {v : Value} {bs : List UInt8} (h : Bs w v bs) (hs : w.heap.size ≤ w'.heap.size) (hk : ∀ k,v.ownBlock = some k → k < w.heap.size → w'.heap[k]? = w.heap[k]?) : Bs w' v bs:=by
 obtain ⟨a,cap,rfl,h1,h2,h3⟩:=h
 refine ⟨a,cap,rfl,h1,h2,fun hne => ?_⟩
 obtain ⟨b,off,rfl,hb,hc⟩:=h3 hne
 refine ⟨b,off,rfl,by omega,fun i hi => ?_⟩
 rw [← hc i hi]
 exact World.cell?_of_block (hk b rfl hb)

theorem Bs.below {w w' : World} {v : Value} {bs : List UInt8} {B : Nat} (h : Bs w v bs) (hb : Below B w w') (hk : ∀ k,v.ownBlock = some k → k < B) : Bs w' v bs :=
 h.of_block hb.size fun k hv _ => hb.block k (hk k hv)

theorem Bs.later {w w' : World} {v : Value} {bs : List UInt8} (h : Bs w v bs) (hb : Below w.heap.size w w') : Bs w' v bs :=
 h.of_block hb.size fun k _ hk => hb.block k hk

theorem Below.drewN {B : Nat} {a w : World} (h : Below B a w) (n : Nat) : Below B a (w.drewN n):=⟨h.os,h.tape,h.output,h.size,h.block⟩

theorem Bs.made (w : World) (bs : List UInt8) (e : TypeId) (hm : bs.length ≤ maxLen) : Bs (w.alloc (.cells (u8s bs).toArray e)) (.slice (some ⟨w.heap.size,0,none⟩) bs.length bs.length) bs:=by
 refine ⟨_,_,rfl,Nat.le_refl _,hm,fun _ => ⟨_,_,rfl,by simp,fun i hi => ?_⟩⟩
 rw [Nat.zero_add,World.cell?_alloc_at _ _ _ _ rfl]
 simp [u8s_get bs i hi]
end Go.Proofs.YtapocgcdjkbnhaaDoor

namespace Go.Proofs.YtapocgcdjkbnhaaDoor
set_option linter.unusedVariables false
set_option linter.unusedSimpArgs false
open Go.ChangeShapes Go.WideShapes Go.ChangeAt Go.RowKit
open Go.ChangeMaps (open_string shut_string)
theorem Tryd.own : ownKnob Tryd.prog.godebug = none:=by kernel_rfl
theorem Tryd.laidOut : laidOutB Tryd.prog = true:=by kernel_rfl
end Go.Proofs.YtapocgcdjkbnhaaDoor

namespace Go.Proofs.YtapocgcdjkbnhaaDoor
set_option linter.unusedVariables false
set_option linter.unusedSimpArgs false
open Go.RowKit
def sizeI (n : Int) : Int:=if n < 0 then 0 else if 536870911 < n then 0 else if n ≤ 127 then 1 else if n ≤ 16383 then 2 else 4
def markI (n : Int) : Int:=if n = 2 then 128 else if n = 4 then 192 else 0
def wantI (c : Int) : Int:=if c < 128 then 1 else if c < 192 then 2 else if c < 224 then 4 else 0

theorem ret_bool {a b : Bool} (h : a = b) : Ending.returned (.bool a) = .returned (.bool b):=by rw [h]
theorem ret_int {k : IntKind} {a b : Int} (h : a = b) : Ending.returned (.int k a) = .returned (.int k b):=by rw [h]
theorem ret_int2 {k l : IntKind} {a b c d : Int} (h : a = b) (g : c = d) : Ending.returned (.tuple #[.int k a,.int l c]) = .returned (.tuple #[.int k b,.int l d]):=by rw [h,g]
def okB (b : UInt8) : Bool:=decide (33 ≤ b.toNat) && decide (b.toNat ≤ 126)
def fineB (l : List UInt8) : Bool:=decide (1 ≤ l.length) && decide (l.length ≤ 24) && l.all okB

theorem toList_len (s : ByteArray) : s.data.toList.length = s.size:=Array.length_toList
theorem fine_no {s : ByteArray} (h : s.size < 1 ∨ 24 < s.size) : fineB s.data.toList = false:=by
 unfold fineB; rw [toList_len]
 rcases h with h | h
 ·have : decide (1 ≤ s.size) = false:=decide_eq_false (by omega)
  rw [this]; rfl
 ·have : decide (s.size ≤ 24) = false:=decide_eq_false (by omega)
  rw [this]; simp

theorem str_get (s : ByteArray) (k : Nat) (h : k < s.size) : s.data.toList[k]'(by rw [toList_len]; exact h) = s[k]:=by simp; rfl
theorem take_str_succ (s : ByteArray) (k : Nat) (h : k < s.size) : s.data.toList.take (k + 1) = s.data.toList.take k ++ [s[k]]:=by
 rw [List.take_succ_eq_append_getElem (by rw [toList_len]; exact h),str_get s k h]
theorem ok_yes {s : ByteArray} {k : Nat} (h : k < s.size) (ht : (s.data.toList.take k).all okB = true) (a : 33 ≤ s[k].toNat) (b : s[k].toNat ≤ 126) : (s.data.toList.take (k + 1)).all okB = true:=by
 rw [take_str_succ s k h,List.all_append,ht]; simp [okB,a,b]
theorem ok_no {s : ByteArray} {k : Nat} (h : k < s.size) (a : ¬ (33 ≤ s[k].toNat∧s[k].toNat ≤ 126)) : fineB s.data.toList = false:=by
 have : s.data.toList.all okB = false:=by
  rw [List.all_eq_false]
  refine ⟨s[k], ?_, ?_⟩
  ·rw [← str_get s k h]; exact List.getElem_mem _
  ·simp only [okB,Bool.and_eq_true,decide_eq_true_eq]; exact a
 unfold fineB; rw [this,Bool.and_false]
theorem ok_all {s : ByteArray} (ht : (s.data.toList.take s.size).all okB = true) : s.data.toList.all okB = true:=by
 rwa [List.take_of_length_le (by rw [toList_len]; exact Nat.le_refl _)] at ht

theorem refFine_any (s : ByteArray) (hs : s.size ≤ maxLen) (w : World) :
  Calls Tryd.prog 32 #[.string s] w fun e w' => e = .returned (.bool (fineB s.data.toList))∧w' = w:=by
 unfold maxLen at hs
 go_enter Tryd.func32,Tryd.ntmps32
 go_wp2
 go_loopw [3] (fun i wr => ∃ k : Nat,k ≤ s.size∧i = .int .i64 k∧wr = w∧(s.data.toList.take k).all okB = true) (fun i _ => s.size - (intOf i).toNat)
 case atStart => exact ⟨0,Nat.zero_le _,rfl,rfl,by simp⟩
 case round =>
  obtain ⟨k,hk,rfl,rfl,ht⟩:=hrel
  have HT : Hid ((s.data.toList.take k).all okB = true):=ht
  clear ht
  by_cases hlt : k < s.size
  ·by_cases hb : 33 ≤ s[k].toNat∧s[k].toNat ≤ 126
   ·obtain ⟨b1,b2⟩:=hb
    go_wp2
    go_roundw
    case rel => exact ⟨k + 1,by omega,by go_num,by simp,ok_yes hlt HT.out b1 b2⟩
    case measure => simp [intOf]; omega
   ·have HF : Hid (fineB s.data.toList = false):=ok_no hlt hb
    by_cases c1 : s[k].toNat < 33
    ·clear hb
     go_wp2
     go_ret
     exact ⟨ret_bool HF.out.symm,rfl⟩
    ·have c2 : 126 < s[k].toNat:=by omega
     clear hb
     go_wp2
     go_ret
     exact ⟨ret_bool HF.out.symm,rfl⟩
  ·have e : k = s.size:=by omega
   subst e
   by_cases c1 : 0 < s.size
   ·by_cases c2 : s.size ≤ 24
    ·have HF : Hid (fineB s.data.toList = true):=by
      show _ = _
      unfold fineB; rw [toList_len,ok_all HT.out]; simp; omega
     go_wp2
     go_ret
     exact ⟨ret_bool (by rw [HF.out]; simp; omega),rfl⟩
    ·have HF : Hid (fineB s.data.toList = false):=fine_no (.inr (by omega))
     go_wp2
     go_ret
     exact ⟨ret_bool (by rw [HF.out]; simp; omega),rfl⟩
   ·have HF : Hid (fineB s.data.toList = false):=fine_no (.inl (by omega))
    go_wp2
    go_ret
    exact ⟨ret_bool HF.out.symm,rfl⟩
def plainB (k i d : Int) (r : Bool) : Bool :=
  decide (0 ≤ d∧d ≤ 3∧0 ≤ i∧(k = 1∧d = 0∧r = false∧i = 0 ∨ (k = 2 ∨ k = 3 ∨ k = 4)∧i = 0 ∨ (k = 5 ∨ k = 6)∧i < 32 ∨ k = 7∧i ≤ 7))
def mayB (p : Nat) (k i d : Int) (r : Bool) : Bool :=
  if p = 1 then plainB k i d r && (k != 1) && !r else if p = 2 then plainB k i d r && (k != 1) else if p = 3 then plainB k i d r && !r else plainB k i d r

abbrev Ty:=Int × Int × Int × Bool
def tv (t : Ty) : Value := .agg #[.int .i64 t.1,.int .i64 t.2.1,.int .i64 t.2.2.1,.bool t.2.2.2]
def plainT (t : Ty) : Bool:=plainB t.1 t.2.1 t.2.2.1 t.2.2.2
def mayT (p : Nat) (t : Ty) : Bool:=mayB p t.1 t.2.1 t.2.2.1 t.2.2.2

set_option maxHeartbeats 1000000 in
theorem refPlain_any (k i d : Int) (r : Bool) (w : World) :
    Calls Tryd.prog 57 #[.agg #[.int .i64 k,.int .i64 i,.int .i64 d,.bool r]] w fun e w' => e = .returned (.bool (plainB k i d r))∧Below w.heap.size w w':=by
  go_enter Tryd.func57,Tryd.ntmps57
  go_wp2
  all_goals go_ret
  all_goals refine ⟨ret_bool ?_,(Below.refl _ _).alloc (Nat.le_refl _) _⟩
  all_goals try simp only [beq_iff_eq,beq_eq_false_iff_ne,ne_eq] at *
  all_goals (rw [Bool.eq_iff_iff]; cases r <;> first | contradiction | (simp [plainB] <;> omega))

theorem bcell {W w1 : World} (hb : Below W.heap.size W w1) : (∀ b o,b < W.heap.size → w1.cell? ⟨b,o,none⟩ = W.cell? ⟨b,o,none⟩)∧(∀ b o,b < W.heap.size → w1.frozen? ⟨b,o,none⟩ = W.frozen? ⟨b,o,none⟩) :=
  ⟨fun b o h => hb.cell (p:=⟨b,o,none⟩) h,fun b o h => hb.frozen (p:=⟨b,o,none⟩) h⟩
theorem below_box {w w1 : World} {o : Obj} (hb : Below (w.alloc o).heap.size (w.alloc o) w1) : Below w.heap.size w w1 :=
  ((Below.refl _ _).alloc (Nat.le_refl _) _).trans (hb.mono (by simp))

theorem where1_any (k i d : Int) (r : Bool) (w : World) :
    Calls Tryd.prog 48 #[.agg #[.int .i64 k,.int .i64 i,.int .i64 d,.bool r],.int .i64 1] w fun e w' => e = .returned (.bool (mayB 1 k i d r))∧Below w.heap.size w w':=by
  go_enter Tryd.func48,Tryd.ntmps48
  go_wp2_with fail
  refine (refPlain_any k i d r _).mono ?_
  rintro e w1 ⟨rfl,hb⟩
  have hB:=below_box hb
  obtain ⟨hc,hf⟩:=bcell hb
  clear hb
  go_wp2
  all_goals go_ret
  all_goals refine ⟨ret_bool ?_,hB⟩
  all_goals first | (have hq : plainB k i d r = true:=by simpa using ‹(!plainB k i d r) = false›
                     simp [mayB, *]) | (have hq : plainB k i d r = false:=by simpa using ‹(!plainB k i d r) = true›
                                        simp [mayB, *])

theorem where2_any (k i d : Int) (r : Bool) (w : World) :
    Calls Tryd.prog 48 #[.agg #[.int .i64 k,.int .i64 i,.int .i64 d,.bool r],.int .i64 2] w fun e w' => e = .returned (.bool (mayB 2 k i d r))∧Below w.heap.size w w':=by
  go_enter Tryd.func48,Tryd.ntmps48
  go_wp2_with fail
  refine (refPlain_any k i d r _).mono ?_
  rintro e w1 ⟨rfl,hb⟩
  have hB:=below_box hb
  obtain ⟨hc,hf⟩:=bcell hb
  clear hb
  go_wp2
  all_goals go_ret
  all_goals refine ⟨ret_bool ?_,hB⟩
  all_goals first | (have hq : plainB k i d r = true:=by simpa using ‹(!plainB k i d r) = false›
                     simp [mayB, *]) | (have hq : plainB k i d r = false:=by simpa using ‹(!plainB k i d r) = true›
                                        simp [mayB, *])

theorem where3_any (k i d : Int) (r : Bool) (w : World) :
    Calls Tryd.prog 48 #[.agg #[.int .i64 k,.int .i64 i,.int .i64 d,.bool r],.int .i64 3] w fun e w' => e = .returned (.bool (mayB 3 k i d r))∧Below w.heap.size w w':=by
  go_enter Tryd.func48,Tryd.ntmps48
  go_wp2_with fail
  refine (refPlain_any k i d r _).mono ?_
  rintro e w1 ⟨rfl,hb⟩
  have hB:=below_box hb
  obtain ⟨hc,hf⟩:=bcell hb
  clear hb
  go_wp2
  all_goals go_ret
  all_goals refine ⟨ret_bool ?_,hB⟩
  all_goals first | (have hq : plainB k i d r = true:=by simpa using ‹(!plainB k i d r) = false›
                     simp [mayB, *]) | (have hq : plainB k i d r = false:=by simpa using ‹(!plainB k i d r) = true›
                                        simp [mayB, *])
def At (w : World) (g : Nat) (C : Array Value) (t : TypeId) : Prop:=w.heap[g]? = some (.cells C t (0,0))

theorem At.cell {w : World} {g : Nat} {C : Array Value} {t : TypeId} (h : At w g C t) : ∀ o,w.cell? ⟨g,o,none⟩ = C[o]?:=by
 unfold At at h
 intro o
 simp [World.cell?,h]
theorem At.melt {w : World} {g : Nat} {C : Array Value} {t : TypeId} (h : At w g C t) : ∀ o,w.frozen? ⟨g,o,none⟩ = false:=by
 unfold At at h
 intro o
 simp [World.frozen?,h]
theorem At.lt {w : World} {g : Nat} {C : Array Value} {t : TypeId} (h : At w g C t) : g < w.heap.size:=(Array.getElem?_eq_some_iff.1 h).1
theorem At.below {w w' : World} {g B : Nat} {C : Array Value} {t : TypeId} (h : At w g C t) (hb : Below B w w') (hg : g < B) : At w' g C t:=by
 unfold At at h ⊢
 rw [hb.block g hg]; exact h
theorem At.later {w w' : World} {g : Nat} {C : Array Value} {t : TypeId} (h : At w g C t) (hb : Below w.heap.size w w') : At w' g C t:=h.below hb h.lt
theorem At.made (w : World) (C : Array Value) (t : TypeId) : At (w.alloc (.cells C t)) w.heap.size C t:=by
 unfold At
 have:=heap_alloc_new w (.cells C t)
 simpa using this
theorem At.next {w : World} {g : Nat} {C : Array Value} {t : TypeId} (h : At w g C t) (o : Obj) : At (w.alloc o) g C t:=h.later ((Below.refl _ _).alloc (Nat.le_refl _) _)
theorem At.set {w : World} {g : Nat} {C : Array Value} {t : TypeId} (h : At w g C t) (o : Nat) (u : Value) : At (w.setCell ⟨g,o,none⟩ u) g (C.setIfInBounds o u) t:=by
 unfold At at h ⊢
 rw [setCell_eq_setRow w g o _ _ _ _ h,setRow_heap w g _ _ _ _ h]

theorem At.set4 {w : World} {g : Nat} {c0 c1 c2 c3 : Value} {t : TypeId} (h : At w g #[c0,c1,c2,c3] t) (x0 x1 x2 x3 : Value) :
  At ((((w.setCell ⟨g,0,none⟩ x0).setCell ⟨g,1,none⟩ x1).setCell ⟨g,2,none⟩ x2).setCell ⟨g,3,none⟩ x3) g #[x0,x1,x2,x3] t:=by
 have:=(((h.set 0 x0).set 1 x1).set 2 x2).set 3 x3
 simpa using this
theorem below_set4 {B g : Nat} {w w1 : World} (h : Below B w w1) (hg : B ≤ g) (x0 x1 x2 x3 : Value) : Below B w ((((w1.setCell ⟨g,0,none⟩ x0).setCell ⟨g,1,none⟩ x1).setCell ⟨g,2,none⟩ x2).setCell ⟨g,3,none⟩ x3) :=
 (((h.setCell hg _).setCell hg _).setCell hg _).setCell hg _
def opsT : List (List UInt8 × Int × Int) := [
 ([110,111,112],0,0),
 ([108,100,97,114,103],4,0),
 ([115,116,97,114,103],4,0),
 ([108,100,97,114,103,97],4,0),
 ([108,100,108,111,99],3,0),
 ([115,116,108,111,99],3,0),
 ([108,100,108,111,99,97],3,0),
 ([108,100,99,52],1,0),
 ([108,100,99,56],2,0),
 ([108,100,110,117,108,108],0,0),
 ([100,117,112],0,0),
 ([112,111,112],0,0),
 ([97,100,100],0,0),
 ([115,117,98],0,0),
 ([109,117,108],0,0),
 ([100,105,118],0,0),
 ([114,101,109],0,0),
 ([97,110,100],0,0),
 ([111,114],0,0),
 ([120,111,114],0,0),
 ([115,104,108],0,0),
 ([115,104,114],0,0),
 ([110,101,103],0,0),
 ([110,111,116],0,0),
 ([97,100,100,111,118,102],0,0),
 ([115,117,98,111,118,102],0,0),
 ([109,117,108,111,118,102],0,0),
 ([99,111,110,118,52],0,0),
 ([99,111,110,118,56],0,0),
 ([99,111,110,118,111,118,102,52],0,0),
 ([99,101,113],0,0),
 ([99,103,116],0,0),
 ([99,108,116],0,0),
 ([98,114],5,1),
 ([98,114,116,114,117,101],5,2),
 ([98,114,102,97,108,115,101],5,2),
 ([98,101,113],5,2),
 ([98,103,101],5,2),
 ([98,103,116],5,2),
 ([98,108,101],5,2),
 ([98,108,116],5,2),
 ([98,110,101],5,2),
 ([99,97,108,108],6,0),
 ([99,97,108,108,118,105,114,116],6,0),
 ([110,101,119,111,98,106],6,0),
 ([114,101,116],0,3),
 ([116,97,105,108],0,0),
 ([108,100,102,108,100],7,0),
 ([115,116,102,108,100],7,0),
 ([108,100,102,108,100,97],7,0),
 ([108,100,115,102,108,100],7,0),
 ([115,116,115,102,108,100],7,0),
 ([108,100,115,102,108,100,97],7,0),
 ([108,100,111,98,106],8,0),
 ([115,116,111,98,106],8,0),
 ([105,110,105,116,111,98,106],8,0),
 ([110,101,119,97,114,114],8,0),
 ([108,100,108,101,110],0,0),
 ([108,100,101,108,101,109],8,0),
 ([115,116,101,108,101,109],8,0),
 ([108,100,101,108,101,109,97],8,0),
 ([98,111,120],8,0),
 ([117,110,98,111,120],8,0),
 ([117,110,98,111,120,97,110,121],8,0),
 ([99,97,115,116,99,108,97,115,115],8,0),
 ([105,115,105,110,115,116],8,0),
 ([108,100,102,116,110],6,0),
 ([110,101,119,100,101,108],8,0),
 ([116,104,114,111,119],0,3),
 ([114,101,116,104,114,111,119],0,3),
 ([108,101,97,118,101],5,4),
 ([101,110,100,102,105,110,97,108,108,121],0,5),
 ([101,110,100,102,105,108,116,101,114],0,5),
 ([105,110],0,0),
 ([111,117,116],0,0)]

def opI (n : Int) : List UInt8 × Int × Int:=if 1 ≤ n∧n ≤ 75 then opsT.getD (n - 1).toNat ([],0,0) else ([],0,0)
def opS (n : Int) : ByteArray:=⟨(opI n).1.toArray⟩
def opP (n : Int) : Int:=(opI n).2.1
def opW (n : Int) : Int:=(opI n).2.2
theorem opI_out {n : Int} (h : ¬ (1 ≤ n∧n ≤ 75)) : opI n = ([],0,0):=by unfold opI; rw [if_neg h]
theorem opS_out {n : Int} (h : ¬ (1 ≤ n∧n ≤ 75)) : opS n = ⟨#[]⟩:=by unfold opS; rw [opI_out h]
theorem opP_out {n : Int} (h : ¬ (1 ≤ n∧n ≤ 75)) : opP n = 0:=by unfold opP; rw [opI_out h]
def bLo (p : Int) : Int:=if p = 1 then -2147483648 else if p = 2 then -9223372036854775808 else 0
def bHi (p : Int) : Int:=if p = 1 then 2147483647 else if p = 2 then 9223372036854775807 else if p = 3 then 11 else if p = 4 then 6 else if p = 5 then 159 else if p = 6 then 63 else if p = 7 then 63 else 0
def zeroB (k i d : Int) (r : Bool) : Bool:=k == 0 && i == 0 && d == 0 && !r
def fitB (p n k i d : Int) (r : Bool) : Bool:=decide (bLo p ≤ n) && decide (n ≤ bHi p) && if p = 8 then mayB 1 k i d r else zeroB k i d r

theorem most_any (p : Int) (w : World) :
  Calls Tryd.prog 72 #[.int .i64 p] w fun e w' => e = .returned (.tuple #[.int .i64 (bHi p),.int .i64 (bLo p)])∧w' = w:=by
 go_enter Tryd.func72,Tryd.ntmps72
 go_wp2
 all_goals (go_ret2; exact ⟨ret_int2 (by (try simp only [beq_iff_eq,beq_eq_false_iff_ne,ne_eq] at *); simp [bHi, *]) (by (try simp only [beq_iff_eq,beq_eq_false_iff_ne,ne_eq] at *); simp [bLo, *]),rfl⟩)

theorem eq_ty (W : World) (k i d k' i' d' : Int) (r r' : Bool) : (binOp .eql 28 (.agg #[.int .i64 k,.int .i64 i,.int .i64 d,.bool r]) (.agg #[.int .i64 k',.int .i64 i',.int .i64 d',.bool r'])).run Tryd.prog W = .ok (.bool (k == k' && i == i' && d == d' && r == r')) W:=by
 simp [go_sem]
 cases h1 : (k == k') <;> cases h2 : (i == i') <;> cases h3 : (d == d') <;> cases h4 : (r == r') <;> simp_all [go_sem]

def fitE (op n k i d : Int) (r : Bool) : Int:=if 1 ≤ op∧op ≤ 75 then if fitB (opP op) n k i d r = true then 0 else 17 else 3
end Go.Proofs.YtapocgcdjkbnhaaDoor

namespace Go.Proofs.YtapocgcdjkbnhaaDoor
set_option linter.unusedVariables false
set_option linter.unusedSimpArgs false
open Go.ChangeShapes Go.WideShapes Go.ChangeAt Go.RowKit
theorem list4 {α : Type} {cs : List α} (h : cs.length = 4) : ∃ c0 c1 c2 c3,cs = [c0,c1,c2,c3]:=by
 match cs,h with
 | [c0,c1,c2,c3],_ => exact ⟨c0,c1,c2,c3,rfl⟩
theorem list6 {α : Type} {cs : List α} (h : cs.length = 6) : ∃ c0 c1 c2 c3 c4 c5,cs = [c0,c1,c2,c3,c4,c5]:=by
 match cs,h with
 | [c0,c1,c2,c3,c4,c5],_ => exact ⟨c0,c1,c2,c3,c4,c5,rfl⟩
theorem Tryd.cellsTy : Tryd.prog.cellsOf 28 = 4:=by kernel_rfl
theorem Tryd.cellsInt : Tryd.prog.cellsOf 3 = 1:=by kernel_rfl
theorem Tryd.cellsBool : Tryd.prog.cellsOf 4 = 1:=by kernel_rfl

theorem tyCells {H : Type} {enc : TypeId × Value → H} {W : World} {cs : List Value} {n : Nat} {y : DataW H × List MemPlace}
  (h : DataW.trod enc Tryd.prog W 0 (fun _ => true) true n 28 cs = some y) : ∃ t : Ty,cs = [.int .i64 t.1,.int .i64 t.2.1,.int .i64 t.2.2.1,.bool t.2.2.2]:=by
 obtain ⟨y0,y1,y2,y3,m,_,hl,h0,h1,h2,h3⟩:=Go.Joins.trod_struct4 Tryd.underlying28 h
 rw [Tryd.cellsTy] at hl
 obtain ⟨c0,c1,c2,c3,rfl⟩:=list4 hl
 simp only [Tryd.cellsInt,Tryd.cellsBool,List.drop_zero,List.drop_succ_cons,List.take_succ_cons,List.take_zero] at h0 h1 h2 h3
 obtain ⟨x0,e0,_,_⟩:=DataW.trod_int Tryd.underlying3 h0
 obtain ⟨x1,e1,_,_⟩:=DataW.trod_int Tryd.underlying3 h1
 obtain ⟨x2,e2,_,_⟩:=DataW.trod_int Tryd.underlying3 h2
 obtain ⟨x3,e3,_⟩:=DataW.trod_bool Tryd.underlying4 h3
 simp only [List.cons.injEq,and_true] at e0 e1 e2 e3
 subst e0 e1 e2 e3
 exact ⟨(x0,x1,x2,x3),rfl⟩

set_option maxRecDepth 100000 in
theorem open_api_Type {H : Type} {enc : TypeId × Value → H} {W : World} {base : Nat} {v : Value} {d : DataW H} {p : List MemPlace}
  (hv : Value.okWide Tryd.prog W .any base 28 v) (h : DataW.Trod enc Tryd.prog W 0 (fun _ => true) true 28 v d p) : ∃ t : Ty,v = tv t:=by
 obtain ⟨cs,rfl,hsz⟩:=okWide_struct Tryd.underlying28 hv
 obtain ⟨fuel,hf⟩:=h
 obtain ⟨t,ht⟩:=tyCells hf
 refine ⟨t, ?_⟩
 unfold tv
 have : cs = #[.int .i64 t.1,.int .i64 t.2.1,.int .i64 t.2.2.1,.bool t.2.2.2]:=by
  apply Array.toList_inj.1
  simpa [Value.cells] using ht
 rw [this]

abbrev Ins:=Int × Int × Ty
theorem Tryd.cellsI64 : Tryd.prog.cellsOf 2 = 1:=by kernel_rfl
theorem Tryd.cellsInstr : Tryd.prog.cellsOf 77 = 6:=by kernel_rfl

theorem insCells {H : Type} {enc : TypeId × Value → H} {W : World} {cs : List Value} {n : Nat} {y : DataW H × List MemPlace} (hl : cs.length = 6)
  (h : DataW.trod enc Tryd.prog W 0 (fun _ => true) true n 77 cs = some y) : ∃ x : Ins,cs = [.int .i64 x.1,.int .i64 x.2.1,.int .i64 x.2.2.1,.int .i64 x.2.2.2.1,.int .i64 x.2.2.2.2.1,.bool x.2.2.2.2.2]:=by
 obtain ⟨c0,c1,c2,c3,c4,c5,rfl⟩:=list6 hl
 obtain ⟨y0,y1,y2,m,_,_,h0,h1,h2⟩:=Go.Deep.trod_struct3 Tryd.underlying77 h
 simp only [Tryd.cellsInt,Tryd.cellsI64,Tryd.cellsTy,List.drop_zero,List.drop_succ_cons,List.take_succ_cons,List.take_zero] at h0 h1 h2
 obtain ⟨x0,e0,_,_⟩:=DataW.trod_int Tryd.underlying3 h0
 obtain ⟨x1,e1,_,_⟩:=DataW.trod_int Tryd.underlying2 h1
 obtain ⟨t,e2⟩:=tyCells h2
 simp only [List.cons.injEq,and_true] at e0 e1 e2
 obtain ⟨rfl,rfl,rfl,rfl⟩:=e2
 subst e0 e1
 exact ⟨(x0,x1,t),rfl⟩
end Go.Proofs.YtapocgcdjkbnhaaDoor

namespace Go.Proofs.YtapocgcdjkbnhaaDoor
set_option linter.unusedVariables false
set_option linter.unusedSimpArgs false
open Go.RowKit
def ext (bs : List UInt8) (n : Nat) : List UInt8:=bs ++ List.replicate n 0
structure Only (rb : Nat) (w w' : World) : Prop where
 os : w'.os = w.os
 tape : w'.tape = w.tape
 output : w'.output = w.output
 size : w.heap.size ≤ w'.heap.size
 block : ∀ k,k < w.heap.size → k ≠ rb → w'.heap[k]? = w.heap[k]?

theorem Only.refl (rb : Nat) (w : World) : Only rb w w:=⟨rfl,rfl,rfl,Nat.le_refl _,fun _ _ _ => rfl⟩
theorem Only.trans {rb : Nat} {a b c : World} (h : Only rb a b) (k : Only rb b c) : Only rb a c :=
 ⟨k.os.trans h.os,k.tape.trans h.tape,k.output.trans h.output,Nat.le_trans h.size k.size,fun i hi hne => (k.block i (Nat.lt_of_lt_of_le hi h.size) hne).trans (h.block i hi hne)⟩
theorem Only.below {rb B : Nat} {w w' : World} (h : Only rb w w') (hB : B ≤ rb) (hs : B ≤ w.heap.size) : Below B w w' :=
 ⟨h.os,h.tape,h.output,h.size,fun k hk => h.block k (by omega) (by omega)⟩
theorem Only.of_below {rb : Nat} {w w' : World} (h : Below w.heap.size w w') : Only rb w w':=⟨h.os,h.tape,h.output,h.size,fun k hk _ => h.block k hk⟩
theorem Only.alloc {rb : Nat} {a w : World} (h : Only rb a w) (o : Obj) : Only rb a (w.alloc o) :=
 h.trans (Only.of_below ((Below.refl _ _).alloc (Nat.le_refl _) o))

theorem Bs.only {w w' : World} {v : Value} {bs : List UInt8} {rb : Nat} (h : Bs w v bs) (ho : Only rb w w') (hk : bs ≠ [] → v.ownBlock ≠ some rb) : Bs w' v bs:=by
 by_cases hb : bs = []
 ·subst hb
  obtain ⟨a,cap,rfl,h1,h2,h3⟩:=h
  exact ⟨a,cap,rfl,h1,h2,fun hne => absurd rfl hne⟩
 ·exact h.of_block ho.size fun k hv hlt => ho.block k hlt (fun e => hk hb (e ▸ hv))
def Own (w : World) (base : Nat) (e : TypeId) (v : Value) (xs : List UInt8) : Prop:=w.ownsRow base e 1 v xs.length (u8s xs)

theorem Own.bs {w : World} {base : Nat} {e : TypeId} {v : Value} {xs : List UInt8} (h : Own w base e v xs) : Bs w v xs:=by
 obtain ⟨h1,h2⟩:=h
 rcases h2 with ⟨rfl,h0⟩ | ⟨g,cap,cur,rfl,hg,hh,hn,hm,hs,ht⟩
 ·have : xs = []:=List.eq_nil_of_length_eq_zero h0
  subst this; exact Bs.nil w
 ·refine ⟨_,cap,rfl,hn,hm,fun _ => ⟨g,0,rfl,(Array.getElem?_eq_some_iff.1 hh).1,fun i hi => ?_⟩⟩
  have : (cur.toList.take (xs.length * 1))[i]? = some (.int .u8 (xs[i].toNat : Int)):=by rw [ht]; exact u8s_get xs i hi
  simp only [World.cell?,hh]
  rw [List.getElem?_take,if_pos (by omega)] at this
  simpa using this

theorem Own.block {w : World} {base : Nat} {e : TypeId} {v : Value} {xs : List UInt8} (h : Own w base e v xs) : ∀ k,v.ownBlock = some k → base ≤ k∧k < w.heap.size:=World.ownsRow.lt h

theorem Own.later {w w' : World} {base : Nat} {e : TypeId} {v : Value} {xs : List UInt8} (h : Own w base e v xs) (hb : Below w.heap.size w w') : Own w' base e v xs:=by
 obtain ⟨h1,h2⟩:=h
 refine ⟨h1, ?_⟩
 rcases h2 with h2 | ⟨g,cap,cur,hv,hg,hh,r⟩
 ·exact Or.inl h2
 ·exact Or.inr ⟨g,cap,cur,hv,hg,by rw [hb.block g (Array.getElem?_eq_some_iff.1 hh).1]; exact hh,r⟩

theorem Own.nil (w : World) (base : Nat) (e : TypeId) : Own w base e (.slice none 0 0) []:=World.ownsRow_nil w base e 1

theorem Own.lit (w : World) (base : Nat) (e : TypeId) (xs : List UInt8) (C : Array Value) (n : Nat) (hb : base ≤ w.heap.size) (hC : C = (u8s xs).toArray) (hn : n = xs.length) (hm : xs.length ≤ maxLen) :
  Own (w.alloc (.cells C e)) base e (.slice (some ⟨w.heap.size,0,none⟩) n n) xs:=by
 subst hC hn
 have:=World.ownsRow_lit (base:=base) (e:=e) (size := 1) w (u8s xs).toArray xs.length hb hm (by simp [u8s_length])
 unfold Own
 simpa using this

theorem wpList_want {P : Program} {ops : Array Oper} {Q : Exit → Act → World → Prop} {a : Act} {w : World} {rest : List Oper} {o : Oper} (hw : Region.wanted o (yielded ops a.tmps) = true)
  (h : ∀ K : Act → World → Prop,(∀ a w,wpList P ops Q rest a w → K a w) → o.wp P a w K Q) : wpList P ops Q (o :: rest) a w :=
 wpList_step fun K hK => by rw [if_pos hw]; exact h K hK

def seg (bs : List UInt8) (at_ n : Nat) : List UInt8:=(bs.drop at_).take n
def leN : List UInt8 → Nat
 | [] => 0
 | b :: r => b.toNat + 256 * leN r
def beA (x : Nat) (l : List UInt8) : Nat:=l.foldl (fun y b => 256 * y + b.toNat) x
def unpS (bs : List UInt8) (at_ c s mk : Nat) : Nat × Nat × Nat :=
 if s = 0 then (0,0,2) else if bs.length < at_ + s then (0,0,1) else if sizeI (beA (c - mk) (seg bs (at_ + 1) (s - 1)) : Int) = (s : Int) then (beA (c - mk) (seg bs (at_ + 1) (s - 1)),s,0) else (0,0,2)
def wantN (c : Nat) : Nat:=(wantI (c : Int)).toNat
def markN (s : Nat) : Nat:=(markI (s : Int)).toNat
def unp (bs : List UInt8) (at_ : Nat) : Nat × Nat × Nat :=
 if h : at_ < bs.length then unpS bs at_ bs[at_].toNat (wantN bs[at_].toNat) (markN (wantN bs[at_].toNat)) else (0,0,1)
structure Strm where
 r : List UInt8
 n : List UInt8
 b : List UInt8
 c : List UInt8

def Strm.nil : Strm:=⟨[],[],[],[]⟩
def Strm.put (s : Strm) (k : Nat) (x : List UInt8) : Strm :=
 match k with
 | 0 => ⟨x,s.n,s.b,s.c⟩
 | 1 => ⟨s.r,x,s.b,s.c⟩
 | 2 => ⟨s.r,s.n,x,s.c⟩
 | _ => ⟨s.r,s.n,s.b,x⟩
def tagB : Nat → List UInt8
 | 0 => [82,79,87,83]
 | 1 => [78,65,77,69]
 | 2 => [66,76,79,66]
 | _ => [67,79,68,69]
def numAt (bs : List UInt8) (at_ n : Nat) : Nat:=leN (seg bs at_ n)

def ePlace (i : Nat) : Nat := 8 + 12 * i
def eAt (bs : List UInt8) (i : Nat) : Nat:=numAt bs (ePlace i) 4
def eLen (bs : List UInt8) (i : Nat) : Nat:=numAt bs (ePlace i + 4) 4
def eTag (bs : List UInt8) (i : Nat) : List UInt8:=seg bs (ePlace i + 8) 4

structure SSt where
 s : Strm
 met : List Nat
 ivs : List (Nat × Nat)
def tagOf (met : List Nat) (t : List UInt8) : Option Nat := [0,1,2,3].find? fun j => decide (tagB j = t) && !met.contains j
def shares (ivs : List (Nat × Nat)) (at_ n : Nat) : Bool:=ivs.any fun p => decide (max p.1 at_ < min (p.1 + p.2) (at_ + n))

def entry (bs : List UInt8) (i : Nat) (st : SSt) : Nat ⊕ SSt :=
 match tagOf st.met (eTag bs i) with
 | none => .inl 2
 | some k => if eAt bs i < 56 ∨ eAt bs i % 4 ≠ 0 then .inl 3 else if bs.length < eAt bs i + eLen bs i then .inl 1 else if shares st.ivs (eAt bs i) (eLen bs i) = true then .inl 2
  else .inr ⟨st.s.put k (seg bs (eAt bs i) (eLen bs i)),st.met ++ [k],st.ivs ++ [(eAt bs i,eLen bs i)]⟩

/-! ### joined -/
/-! ### pieces of lists -/
/-! ### what is joined -/
/-! ### read -/
structure Tabs where
 entry : Int
 rows : List (List (List Int))
def Tabs.nil : Tabs:=⟨0,[]⟩
/-! ### written -/
/-! ### there and back -/
def codedT (x : Int) : Int:=if x = 0 then -1 else if x < 4 ∨ 65535 < x ∨ x % 2 = 1 then 0 else if x % 4 = 2 then 4 else 0
def codedR (x : Int) : Int:=if x = 0 then 0 else if x < 4 ∨ 65535 < x ∨ x % 2 = 1 then 0 else x / 4
def codedE (x : Int) : Int:=if x = 0 then 0 else if x < 4 ∨ 65535 < x ∨ x % 2 = 1 then 5 else 0
def badR (e : Nat) : Ty × Nat × Nat:=((0,0,0,false),0,e)
def numR (bs : List UInt8) (r : Bool) (j c a : Nat) : Ty × Nat × Nat :=
 if (unp bs a).2.2 ≠ 0 then badR (unp bs a).2.2
 else if c = 19 then (if 7 < (unp bs a).1 then badR 5 else ((7,((unp bs a).1 : Int),(j : Int),r),a + (unp bs a).2.1,0))
 else if codedE ((unp bs a).1 : Int) ≠ 0 ∨ codedT ((unp bs a).1 : Int) ≠ 0 ∨ 32 < codedR ((unp bs a).1 : Int) then badR 5
 else ((if c = 17 then 6 else 5,codedR ((unp bs a).1 : Int) - 1,(j : Int),r),a + (unp bs a).2.1,0)
def tailR (bs : List UInt8) (r : Bool) (j c a : Nat) : Ty × Nat × Nat :=
 if c = 1 then (if r = true ∨ 0 < j then badR 2 else ((1,0,0,false),a,0))
 else if c = 8 then ((2,0,(j : Int),r),a,0)
 else if c = 10 then ((3,0,(j : Int),r),a,0)
 else if c = 28 then ((4,0,(j : Int),r),a,0)
 else if c = 17 ∨ c = 18 ∨ c = 19 then numR bs r j c a
 else badR 2
def getD (bs : List UInt8) (r : Bool) : Nat → Nat → Ty × Nat × Nat
 | 0,a => if h : a < bs.length then (if bs[a].toNat = 29 then badR 6 else tailR bs r 3 bs[a].toNat (a + 1)) else badR 1
 | n + 1,a => if h : a < bs.length then (if bs[a].toNat = 29 then getD bs r n (a + 1) else tailR bs r (2 - n) bs[a].toNat (a + 1)) else badR 1
theorem plain_facts {k i d : Int} {r : Bool} (h : plainB k i d r = true) : 0 ≤ d∧d ≤ 3∧0 ≤ i∧(k = 1∧d = 0∧r = false∧i = 0 ∨ (k = 2 ∨ k = 3 ∨ k = 4)∧i = 0 ∨ (k = 5 ∨ k = 6)∧i < 32 ∨ k = 7∧i ≤ 7):=by
 unfold plainB at h
 exact of_decide_eq_true h
structure Rule (f : FuncId) (p : Nat) : Prop where
 enter : ∀ args w,(callFunc f args).run Tryd.prog w = .ok (.enter f args) w
 may : ∀ k i d r w,Calls Tryd.prog f #[.agg #[.int .i64 k,.int .i64 i,.int .i64 d,.bool r]] w fun e w' => e = .returned (.bool (mayB p k i d r))∧Below w.heap.size w w'
 plain : ∀ k i d r,mayB p k i d r = true → plainB k i d r = true
end Go.Proofs.YtapocgcdjkbnhaaDoor
