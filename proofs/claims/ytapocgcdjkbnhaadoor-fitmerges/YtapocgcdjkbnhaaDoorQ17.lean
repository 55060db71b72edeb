/- Texts joined: RefNamed11. -/
import Derived.Test.YtapocgcdjkbnhaaDoorQ13
import Derived.Test.YtapocgcdjkbnhaaDoorQ10
import Derived.Test.YtapocgcdjkbnhaaDoorQ16
import Derived.Deep.RegionHeld3
namespace Go.Proofs.YtapocgcdjkbnhaaDoor
set_option linter.unusedVariables false
set_option linter.unusedSimpArgs false
open Go.RowKit
attribute [local go_sem ↓] Go.wp_at_zero Go.wp_at_succ
abbrev opN40 : Oper := { dst:=some 19,op:=Op.move (Operand.tmp 5),type := 3,pos := "ref.go:162",after:=#[],guard:=none }
abbrev opN41 : Oper := { dst:=some 20,op:=Op.move (Operand.tmp 1),type := 3,pos := "ref.go:162",after:=#[],guard:=none }
abbrev opN42 : Oper := { dst:=some 21,op:=Op.binOp BinOp.neq 3 (Operand.tmp 19) (Operand.tmp 20) 3,type := 4,pos := "ref.go:162",after:=#[{ on := 0,ground:=Ground.data }, { on := 1,ground:=Ground.data }],guard:=none }
abbrev opN43 : Oper := { dst:=some 22,op:=Op.move (Operand.tmp 21),type := 4,pos := "ref.go:162",after:=#[{ on := 2,ground:=Ground.data }],guard:=none }
abbrev opN44 : Oper := { dst:=some 23,op:=Op.fieldAddr 26 (Operand.tmp 2) 0,type := 0,pos := "ref.go:162",after:=#[{ on := 3,ground:=Ground.guard }],guard:=some (3,true) }
abbrev opN45 : Oper := { dst:=some 24,op:=Op.load 22 (Operand.tmp 23),type := 22,pos := "ref.go:162",after:=#[{ on := 4,ground:=Ground.data }, { on := 3,ground:=Ground.guard }],guard:=some (3,true) }
abbrev opN46 : Oper := { dst:=some 25,op:=Op.move (Operand.tmp 5),type := 3,pos := "ref.go:162",after:=#[{ on := 3,ground:=Ground.guard }],guard:=some (3,true) }
abbrev opN47 : Oper := { dst:=some 26,op:=Op.indexAddr 22 (Operand.tmp 24) (Operand.tmp 25),type := 0,pos := "ref.go:162",after:=#[{ on := 5,ground:=Ground.data }, { on := 6,ground:=Ground.data }, { on := 3,ground:=Ground.guard }],guard:=some (3,true) }
abbrev opN48 : Oper := { dst:=some 27,op:=Op.fieldAddr 42 (Operand.tmp 26) 0,type := 0,pos := "ref.go:162",after:=#[{ on := 7,ground:=Ground.data }, { on := 3,ground:=Ground.guard }],guard:=some (3,true) }
abbrev opN49 : Oper := { dst:=some 28,op:=Op.load 9 (Operand.tmp 27),type := 9,pos := "ref.go:162",after:=#[{ on := 8,ground:=Ground.data }, { on := 3,ground:=Ground.guard }],guard:=some (3,true) }
abbrev opN410 : Oper := { dst:=some 29,op:=Op.fieldAddr 26 (Operand.tmp 2) 0,type := 0,pos := "ref.go:162",after:=#[{ on := 3,ground:=Ground.guard }],guard:=some (3,true) }
abbrev opN411 : Oper := { dst:=some 30,op:=Op.load 22 (Operand.tmp 29),type := 22,pos := "ref.go:162",after:=#[{ on := 10,ground:=Ground.data }, { on := 3,ground:=Ground.guard }],guard:=some (3,true) }
abbrev opN412 : Oper := { dst:=some 31,op:=Op.move (Operand.tmp 1),type := 3,pos := "ref.go:162",after:=#[{ on := 3,ground:=Ground.guard }],guard:=some (3,true) }
abbrev opN413 : Oper := { dst:=some 32,op:=Op.indexAddr 22 (Operand.tmp 30) (Operand.tmp 31),type := 0,pos := "ref.go:162",after:=#[{ on := 11,ground:=Ground.data }, { on := 12,ground:=Ground.data }, { on := 3,ground:=Ground.guard }],guard:=some (3,true) }
abbrev opN414 : Oper := { dst:=some 33,op:=Op.fieldAddr 42 (Operand.tmp 32) 0,type := 0,pos := "ref.go:162",after:=#[{ on := 13,ground:=Ground.data }, { on := 3,ground:=Ground.guard }],guard:=some (3,true) }
abbrev opN415 : Oper := { dst:=some 34,op:=Op.load 9 (Operand.tmp 33),type := 9,pos := "ref.go:162",after:=#[{ on := 14,ground:=Ground.data }, { on := 3,ground:=Ground.guard }],guard:=some (3,true) }
abbrev opN416 : Oper := { dst:=some 35,op:=Op.binOp BinOp.eql 9 (Operand.tmp 28) (Operand.tmp 34) 9,type := 4,pos := "ref.go:162",after:=#[{ on := 9,ground:=Ground.data }, { on := 15,ground:=Ground.data }, { on := 3,ground:=Ground.guard }],guard:=some (3,true) }
abbrev opN417 : Oper := { dst:=some 36,op:=Op.pick (Operand.tmp 22) (Operand.tmp 35) (Operand.const (Value.bool false)),type := 4,pos := "ref.go:162",after:=#[{ on := 3,ground:=Ground.data }, { on := 16,ground:=Ground.data }],guard:=none }
abbrev opN220 : Oper := { dst:=some 84,op:=Op.fieldAddr 26 (Operand.tmp 2) 2,type := 0,pos := "ref.go:177",after:=#[],guard:=none }
abbrev opN221 : Oper := { dst:=some 85,op:=Op.load 24 (Operand.tmp 84),type := 24,pos := "ref.go:177",after:=#[{ on := 0,ground:=Ground.data }],guard:=none }
abbrev opN222 : Oper := { dst:=some 86,op:=Op.move (Operand.tmp 9),type := 40,pos := "ref.go:177",after:=#[],guard:=none }
abbrev opN223 : Oper := { dst:=some 87,op:=Op.move (Operand.tmp 10),type := 3,pos := "ref.go:177",after:=#[],guard:=none }
abbrev opN224 : Oper := { dst:=some 88,op:=Op.indexAddr 40 (Operand.tmp 86) (Operand.tmp 87),type := 0,pos := "ref.go:177",after:=#[{ on := 2,ground:=Ground.data }, { on := 3,ground:=Ground.data }],guard:=none }
abbrev opN225 : Oper := { dst:=some 89,op:=Op.load 3 (Operand.tmp 88),type := 3,pos := "ref.go:177",after:=#[{ on := 4,ground:=Ground.data }],guard:=none }
abbrev opN226 : Oper := { dst:=some 90,op:=Op.indexAddr 24 (Operand.tmp 85) (Operand.tmp 89),type := 0,pos := "ref.go:177",after:=#[{ on := 1,ground:=Ground.data }, { on := 5,ground:=Ground.data }],guard:=none }
abbrev opN227 : Oper := { dst:=some 91,op:=Op.fieldAddr 47 (Operand.tmp 90) 0,type := 0,pos := "ref.go:177",after:=#[{ on := 6,ground:=Ground.data }],guard:=none }
abbrev opN228 : Oper := { dst:=some 92,op:=Op.load 9 (Operand.tmp 91),type := 9,pos := "ref.go:177",after:=#[{ on := 7,ground:=Ground.data }],guard:=none }
abbrev opN229 : Oper := { dst:=some 93,op:=Op.fieldAddr 26 (Operand.tmp 2) 2,type := 0,pos := "ref.go:177",after:=#[],guard:=none }
abbrev opN2210 : Oper := { dst:=some 94,op:=Op.load 24 (Operand.tmp 93),type := 24,pos := "ref.go:177",after:=#[{ on := 9,ground:=Ground.data }],guard:=none }
abbrev opN2211 : Oper := { dst:=some 95,op:=Op.move (Operand.tmp 9),type := 40,pos := "ref.go:177",after:=#[],guard:=none }
abbrev opN2212 : Oper := { dst:=some 96,op:=Op.move (Operand.tmp 11),type := 3,pos := "ref.go:177",after:=#[],guard:=none }
abbrev opN2213 : Oper := { dst:=some 97,op:=Op.indexAddr 40 (Operand.tmp 95) (Operand.tmp 96),type := 0,pos := "ref.go:177",after:=#[{ on := 11,ground:=Ground.data }, { on := 12,ground:=Ground.data }],guard:=none }
abbrev opN2214 : Oper := { dst:=some 98,op:=Op.load 3 (Operand.tmp 97),type := 3,pos := "ref.go:177",after:=#[{ on := 13,ground:=Ground.data }],guard:=none }
abbrev opN2215 : Oper := { dst:=some 99,op:=Op.indexAddr 24 (Operand.tmp 94) (Operand.tmp 98),type := 0,pos := "ref.go:177",after:=#[{ on := 10,ground:=Ground.data }, { on := 14,ground:=Ground.data }],guard:=none }
abbrev opN2216 : Oper := { dst:=some 100,op:=Op.fieldAddr 47 (Operand.tmp 99) 0,type := 0,pos := "ref.go:177",after:=#[{ on := 15,ground:=Ground.data }],guard:=none }
abbrev opN2217 : Oper := { dst:=some 101,op:=Op.load 9 (Operand.tmp 100),type := 9,pos := "ref.go:177",after:=#[{ on := 16,ground:=Ground.data }],guard:=none }
abbrev opN2218 : Oper := { dst:=some 102,op:=Op.binOp BinOp.eql 9 (Operand.tmp 92) (Operand.tmp 101) 9,type := 4,pos := "ref.go:177",after:=#[{ on := 8,ground:=Ground.data }, { on := 17,ground:=Ground.data }],guard:=none }
abbrev opN2219 : Oper := { dst:=some 103,op:=Op.move (Operand.tmp 102),type := 4,pos := "ref.go:177",after:=#[{ on := 18,ground:=Ground.data }],guard:=none }
abbrev opN2220 : Oper := { dst:=some 104,op:=Op.fieldAddr 26 (Operand.tmp 2) 2,type := 0,pos := "ref.go:177",after:=#[{ on := 19,ground:=Ground.guard }],guard:=some (19,true) }
abbrev opN2221 : Oper := { dst:=some 105,op:=Op.load 24 (Operand.tmp 104),type := 24,pos := "ref.go:177",after:=#[{ on := 20,ground:=Ground.data }, { on := 19,ground:=Ground.guard }],guard:=some (19,true) }
abbrev opN2222 : Oper := { dst:=some 106,op:=Op.move (Operand.tmp 9),type := 40,pos := "ref.go:177",after:=#[{ on := 19,ground:=Ground.guard }],guard:=some (19,true) }
abbrev opN2223 : Oper := { dst:=some 107,op:=Op.move (Operand.tmp 10),type := 3,pos := "ref.go:177",after:=#[{ on := 19,ground:=Ground.guard }],guard:=some (19,true) }
abbrev opN2224 : Oper := { dst:=some 108,op:=Op.indexAddr 40 (Operand.tmp 106) (Operand.tmp 107),type := 0,pos := "ref.go:177",after:=#[{ on := 22,ground:=Ground.data }, { on := 23,ground:=Ground.data }, { on := 19,ground:=Ground.guard }],guard:=some (19,true) }
abbrev opN2225 : Oper := { dst:=some 109,op:=Op.load 3 (Operand.tmp 108),type := 3,pos := "ref.go:177",after:=#[{ on := 24,ground:=Ground.data }, { on := 19,ground:=Ground.guard }],guard:=some (19,true) }
abbrev opN2226 : Oper := { dst:=some 110,op:=Op.indexAddr 24 (Operand.tmp 105) (Operand.tmp 109),type := 0,pos := "ref.go:177",after:=#[{ on := 21,ground:=Ground.data }, { on := 25,ground:=Ground.data }, { on := 19,ground:=Ground.guard }],guard:=some (19,true) }
abbrev opN2227 : Oper := { dst:=some 111,op:=Op.load 47 (Operand.tmp 110),type := 47,pos := "ref.go:177",after:=#[{ on := 26,ground:=Ground.data }, { on := 19,ground:=Ground.guard }],guard:=some (19,true) }
abbrev opN2228 : Oper := { dst:=some 112,op:=Op.fieldAddr 26 (Operand.tmp 2) 2,type := 0,pos := "ref.go:177",after:=#[{ on := 19,ground:=Ground.guard }],guard:=some (19,true) }
abbrev opN2229 : Oper := { dst:=some 113,op:=Op.load 24 (Operand.tmp 112),type := 24,pos := "ref.go:177",after:=#[{ on := 28,ground:=Ground.data }, { on := 19,ground:=Ground.guard }],guard:=some (19,true) }
abbrev opN2230 : Oper := { dst:=some 114,op:=Op.move (Operand.tmp 9),type := 40,pos := "ref.go:177",after:=#[{ on := 19,ground:=Ground.guard }],guard:=some (19,true) }
abbrev opN2231 : Oper := { dst:=some 115,op:=Op.move (Operand.tmp 11),type := 3,pos := "ref.go:177",after:=#[{ on := 19,ground:=Ground.guard }],guard:=some (19,true) }
abbrev opN2232 : Oper := { dst:=some 116,op:=Op.indexAddr 40 (Operand.tmp 114) (Operand.tmp 115),type := 0,pos := "ref.go:177",after:=#[{ on := 30,ground:=Ground.data }, { on := 31,ground:=Ground.data }, { on := 19,ground:=Ground.guard }],guard:=some (19,true) }
abbrev opN2233 : Oper := { dst:=some 117,op:=Op.load 3 (Operand.tmp 116),type := 3,pos := "ref.go:177",after:=#[{ on := 32,ground:=Ground.data }, { on := 19,ground:=Ground.guard }],guard:=some (19,true) }
abbrev opN2234 : Oper := { dst:=some 118,op:=Op.indexAddr 24 (Operand.tmp 113) (Operand.tmp 117),type := 0,pos := "ref.go:177",after:=#[{ on := 29,ground:=Ground.data }, { on := 33,ground:=Ground.data }, { on := 19,ground:=Ground.guard }],guard:=some (19,true) }
abbrev opN2235 : Oper := { dst:=some 119,op:=Op.load 47 (Operand.tmp 118),type := 47,pos := "ref.go:177",after:=#[{ on := 34,ground:=Ground.data }, { on := 19,ground:=Ground.guard }],guard:=some (19,true) }
abbrev opN2236 : Oper := { dst:=some 120,op:=Op.call { callee:=Callee.value (Operand.func 40),args:=#[Operand.tmp 111,Operand.tmp 119],argTypes:=#[47,47] },type := 4,pos := "ref.go:177",after:=#[{ on := 27,ground:=Ground.data }, { on := 35,ground:=Ground.data }, { on := 19,ground:=Ground.chain }, { on := 19,ground:=Ground.guard }],guard:=some (19,true) }
abbrev opN2237 : Oper := { dst:=some 121,op:=Op.pick (Operand.tmp 103) (Operand.tmp 120) (Operand.const (Value.bool false)),type := 4,pos := "ref.go:177",after:=#[{ on := 19,ground:=Ground.data }, { on := 36,ground:=Ground.data }],guard:=none }

theorem str_dec (s t : ByteArray) : (s.toList == t.toList) = decide (s = t):=by
 rw [str_eq,Bool.eq_iff_iff,decide_eq_true_iff,decide_eq_true_iff]
 constructor
 ·intro h; cases s; cases t; simp only [ByteArray.mk.injEq]; exact Array.toList_inj.1 h
 ·rintro rfl; rfl

def PrOk (ap : Int → Int → Bool) (l : List Int) (i : Nat) : Prop := ∀ k (h : k < l.length),k < i → (l.take k).all (ap l[k]) = true
theorem PrOk.zero (ap : Int → Int → Bool) (l : List Int) : PrOk ap l 0:=fun k h hk => absurd hk (by omega)
theorem PrOk.step {ap : Int → Int → Bool} {l : List Int} {i : Nat} (h : PrOk ap l i) (hi : i < l.length) (h1 : (l.take i).all (ap l[i]) = true) : PrOk ap l (i + 1):=fun k hk hlt => by
 by_cases e : k = i
 ·subst e; exact h1
 ·exact h k hk (by omega)
theorem PrOk.all {ap : Int → Int → Bool} {l : List Int} {i : Nat} (h : PrOk ap l i) (hi : ¬ i < l.length) : difB ap l = true:=difB_iff.2 fun k hk => h k hk (by omega)
theorem PrOk.no {ap : Int → Int → Bool} {l : List Int} {i k : Nat} (hi : i < l.length) (hk : k < i) (h : ap l[i] l[k] = false) : difB ap l = false:=by
 cases hc : difB ap l with
 | false => rfl
 | true =>
  have:=difB_iff.1 hc i hi
  have h2:=List.all_eq_true.1 this l[k] (by rw [List.mem_take_iff_getElem]; exact ⟨k,by omega,rfl⟩)
  rw [h] at h2; cases h2
theorem take_all_step {ap : Int → Bool} {l : List Int} {k : Nat} (hk : k < l.length) (h : (l.take k).all ap = true) (hx : ap l[k] = true) : (l.take (k + 1)).all ap = true:=by
 rw [List.take_succ_eq_append_getElem hk,List.all_append,h]; simpa using hx
def TnOk (g : Img) (q i : Nat) (nm : ByteArray) : Prop := ∀ k (h : k < g.ts.length),k < i → k = q ∨ g.ts[k].nm ≠ nm
theorem tnm_iff {g : Img} {q : Nat} (hq : q < g.ts.length) : tnmB g (q : Int) = true ↔ TnOk g q g.ts.length g.ts[q].nm:=by
 unfold tnmB
 rw [Int.toNat_natCast,List.getElem?_eq_getElem hq]
 simp only [List.all_eq_true,List.mem_range,Bool.or_eq_true,decide_eq_true_iff]
 constructor
 ·intro h k hk _
  rcases h k hk with h | h
  ·exact Or.inl (by omega)
  ·rw [List.getElem?_eq_getElem hk] at h
   exact Or.inr (by simpa using h)
 ·intro h k hk
  rcases h k hk hk with h | h
  ·exact Or.inl (by omega)
  ·right
   rw [List.getElem?_eq_getElem hk]
   simpa using h
theorem tnm_no {g : Img} {q k : Nat} (hq : q < g.ts.length) (hk : k < g.ts.length) (hne : k ≠ q) (h : g.ts[k].nm = g.ts[q].nm) : tnmB g (q : Int) = false:=by
 cases hc : tnmB g (q : Int) with
 | false => rfl
 | true =>
  rcases (tnm_iff hq).1 hc k hk hk with e | e
  ·exact absurd e hne
  ·exact absurd h e
theorem fnI_at {g : Img} {k : Nat} (h : k < g.fs.length) : fnI g (k : Int) = g.fs[k].nm:=by unfold fnI; rw [Int.toNat_natCast,List.getElem?_eq_getElem h]
theorem smI_at {g : Img} {a b : Nat} (ha : a < g.ms.length) (hb : b < g.ms.length) : smI g (a : Int) (b : Int) = smM g.ms[a] g.ms[b]:=by unfold smI; rw [Int.toNat_natCast,Int.toNat_natCast,List.getElem?_eq_getElem ha,List.getElem?_eq_getElem hb]

set_option maxHeartbeats 16000000 in
set_option maxRecDepth 100000 in
theorem refNamed_any11 {g : Img} {q : Nat} {w : World} (hg : Im w g) (hi : imB g = true) (hq : q < g.ts.length) :
  Calls Tryd.prog 25 #[imV g,.int .i64 q] w fun e w' => e = .returned (.bool (nmdB g (q : Int)))∧Below w.heap.size w w':=by
 obtain ⟨w0,hw0⟩ : ∃ W,W = w.alloc (.cells (imC g) 26):=⟨_,rfl⟩
 have HW0 : Hid (w0 = _):=hw0
 obtain ⟨hb0,hgb⟩:=GB.made hg hw0
 have HB0 : Hid (Below w.heap.size w w0):=hb0
 have HG : Hid (GB w0 w.heap.size g):=hgb
 have HI : Hid (imB g = true):=hi
 have HFlM : Hid (∀ x ∈ g.ms,0 ≤ x.fl):=fun x hx => by
  unfold imB at hi
  simp only [Bool.and_eq_true] at hi
  have:=List.all_eq_true.1 hi.1.2.1 x hx
  unfold mdB witB at this
  simp only [Bool.and_eq_true,decide_eq_true_iff] at this
  omega
 have hln:=im_len hi
 have HC4 : Hid (∀ W,Below w0.heap.size w0 W → W.cell? ⟨w.heap.size,0,none⟩ = some (.slice g.ta g.ts.length g.tc)∧W.cell? ⟨w.heap.size,1,none⟩ = some (.slice g.fa g.fs.length g.fc)∧W.cell? ⟨w.heap.size,2,none⟩ = some (.slice g.ma g.ms.length g.mc)∧W.cell? ⟨w.heap.size,3,none⟩ = some (.int .i64 g.en)):=fun W hW => (hgb.later hW).cells
 have HFl : Hid (∀ W,Below w0.heap.size w0 W → Calls Tryd.prog 38 #[.agg (imC g),.int .i64 q] W fun e w' => ∃ v,e = .returned v∧OwnI w' W.heap.size v (fldN g (q : Int))∧Below W.heap.size W w'):=fun W hW => refFields_any (HG.out.im.later hW) HI.out
 have HMt : Hid (∀ W,Below w0.heap.size w0 W → Calls Tryd.prog 39 #[.agg (imC g),.int .i64 q] W fun e w' => ∃ v,e = .returned v∧OwnI w' W.heap.size v (mtdN g (q : Int))∧Below W.heap.size W w'):=fun W hW => refMethods_any (HG.out.im.later hW) HI.out
 have HR : Hid (nmdB g (q : Int) = (tnmB g (q : Int) && difB (fun a b => decide (fnI g a ≠ fnI g b)) (fldN g (q : Int)) && difB (fun a b => !smI g a b) (mtdN g (q : Int)))):=rfl
 unfold imC at HW0 HFl HMt
 clear hw0 hb0 hgb hg hi
 unfold imV
 go_enter Tryd.func25,Tryd.ntmps25
 go_wp2_with (rw [← HW0.out])
 go_loopw [5] (fun z wr => ∃ i : Nat,i ≤ g.ts.length∧z = .int .i64 i∧Hid (Below w0.heap.size w0 wr)∧Hid (TnOk g q i g.ts[q].nm)) (fun z _ => g.ts.length - (intOf z).toNat)
 case atStart => exact ⟨0,Nat.zero_le _,rfl,Below.refl _ _,fun k _ h => absurd h (by omega)⟩
 case round =>
  obtain ⟨i,hi2,rfl,HB,HT⟩:=hrel
  by_cases hil : i < g.ts.length
  ·have hii : (i : Int) < (g.ts.length : Int):=by omega
   have hqi : (q : Int) < (g.ts.length : Int):=by omega
   obtain ⟨tb,off,hta,h8,h9,hty⟩:=HG.out.ty (by intro e; rw [e] at hq; simp at hq)
   obtain ⟨c0,hd⟩:=hty wr HB.out
   obtain ⟨k0,_,_,_⟩:=hd i hil
   obtain ⟨j0,_,_,_⟩:=hd q hq
   unfold maxLen at h9
   clear hd hty hta
   by_cases hiq : i = q
   ·have hne : ((i : Int) != (q : Int)) = false:=by simp; omega
    have HT2 : Hid (TnOk g q (i + 1) g.ts[q].nm):=fun k hk hlt => by
     by_cases e : k = i
     ·exact Or.inl (by omega)
     ·exact HT.out k hk (by omega)
    clear hiq j0
    go_wp2_with fail
    refine wp_region_held_drew (S:=(fun W : World => True)) (by kernel_rfl) (trivial) (fun hHeld => ?_)
    refine tY 0 opN40 (.int .i64 i) hHeld ?_
    refine tY 1 opN41 (.int .i64 q) hHeld ?_
    refine tY 2 opN42 (.bool false) hHeld ?_
    refine tY 3 opN43 (.bool false) hHeld ?_
    refine tN 4 opN44 hHeld ?_
    refine tN 5 opN45 hHeld ?_
    refine tN 6 opN46 hHeld ?_
    refine tN 7 opN47 hHeld ?_
    refine tN 8 opN48 hHeld ?_
    refine tN 9 opN49 hHeld ?_
    refine tN 10 opN410 hHeld ?_
    refine tN 11 opN411 hHeld ?_
    refine tN 12 opN412 hHeld ?_
    refine tN 13 opN413 hHeld ?_
    refine tN 14 opN414 hHeld ?_
    refine tN 15 opN415 hHeld ?_
    refine tN 16 opN416 hHeld ?_
    refine tY 17 opN417 (.bool false) hHeld ?_
    refine wpAnyH_done (by kernel_rfl) ?_ _

    go_wp2_with fail
    go_roundw
    case rel => exact ⟨i + 1,by omega,by go_num,Below.drewN HB.out 1,HT2.out⟩
    case measure => simp [intOf]; omega
   ·have hne : ((i : Int) != (q : Int)) = true:=by simp; omega
    have HNo : Hid (g.ts[i].nm = g.ts[q].nm → tnmB g (q : Int) = false):=fun h => tnm_no hq hil hiq h
    have HYs : Hid (g.ts[i].nm ≠ g.ts[q].nm → TnOk g q (i + 1) g.ts[q].nm):=fun h k hk hlt => by
     by_cases e : k = i
     ·subst e; exact Or.inr h
     ·exact HT.out k hk (by omega)
    have hstr:=str_dec g.ts[i].nm g.ts[q].nm
    by_cases hnm : g.ts[i].nm = g.ts[q].nm
    ·have HBad : Hid (tnmB g (q : Int) = false):=HNo.out hnm
     rw [decide_eq_true hnm] at hstr
     clear hnm HNo HYs
     generalize g.ts[i].nm = n1 at *
     generalize g.ts[q].nm = n2 at *
     go_wp2_with fail
     go_quiet (fail)
     go_wp2_with fail
     go_ret
     exact ⟨ret_bool (by rw [HR.out,HBad.out]; rfl),bstep HB0.out (Below.drewN HB.out _)⟩
    ·have HT2 : Hid _:=HYs.out hnm
     rw [decide_eq_false hnm] at hstr
     clear HNo HYs hnm
     generalize g.ts[i].nm = n1 at *
     generalize g.ts[q].nm = n2 at *
     go_wp2_with fail
     go_quiet (fail)
     go_wp2_with fail
     go_roundw
     case rel => exact ⟨i + 1,by omega,by go_num,Below.drewN HB.out _,HT2.out⟩
     case measure => simp [intOf]; omega
  ·have hii : ¬ (i : Int) < (g.ts.length : Int):=by omega
   have HTn : Hid (tnmB g (q : Int) = true):=(tnm_iff hq).2 (fun k hk _ => HT.out k hk (by omega))
   have HR1 : Hid (nmdB g (q : Int) = (difB (fun a b => decide (fnI g a ≠ fnI g b)) (fldN g (q : Int)) && difB (fun a b => !smI g a b) (mtdN g (q : Int)))):=by show _ = _; rw [HR.out,HTn.out]; rfl
   obtain ⟨c0,c1,c2,c3⟩:=HC4.out wr HB.out
   clear HT
   go_wp2_with fail
   refine Calls.mono (HFl.out wr HB.out) ?_
   rintro e w1 ⟨fv,rfl,hf,hb1⟩
   have HB1 : Hid (Below w0.heap.size w0 w1):=bstep HB.out hb1
   obtain ⟨L,hL⟩ : ∃ X,X = fldN g (q : Int):=⟨_,rfl⟩
   have HLE : Hid (L = fldN g (q : Int)):=hL
   rw [← hL] at hf
   have hll:=fldN_len g (q : Int)
   rw [← hL] at hll
   obtain ⟨la,lc,hfv,_,hlc⟩:=(show Is w1 fv L from hf.is).shape
   subst hfv
   have HOL:=LiF.of hf
   obtain ⟨len9,h99⟩ : ∃ n,n = L.length:=⟨_,rfl⟩
   rw [← h99] at HOL
   have HGl : Hid (∀ {i : Nat},i < L.length → ∃ b,la = some ⟨b,0,none⟩):=HOL.out.at0
   have HOL : Hid (LiF w1 la len9 lc L):=HOL
   rw [← h99]
   clear hf hb1 c0 c1 c2 c3 hL
   go_wp2_with fail
   go_loopw [7,8] (fun z _ wr => ∃ i : Nat,i ≤ L.length∧z = .int .i64 i∧Hid (Below w1.heap.size w1 wr)∧Hid (PrOk (fun a b => decide (fnI g a ≠ fnI g b)) L i)) (fun z _ _ => L.length - (intOf z).toNat)
   case atStart => exact ⟨0,Nat.zero_le _,rfl,Below.refl _ _,PrOk.zero _ _⟩
   case round =>
    obtain ⟨i,hi2,rfl,HBo,HP⟩:=hrel
    have HBof : Hid (Below w1.heap.size w1 wr):=HBo
    by_cases hil : i < L.length
    ·have hii : (i : Int) < (len9 : Int):=by omega
     go_wp2_with fail
     go_loopw [8] (fun z wr => ∃ k : Nat,k ≤ i∧z = .int .i64 k∧Hid (Below w1.heap.size w1 wr)∧Hid ((L.take k).all ((fun a b => decide (fnI g a ≠ fnI g b)) L[i]) = true)) (fun z _ => i - (intOf z).toNat)
     case atStart => exact ⟨0,Nat.zero_le _,rfl,HBo.out,by show _ = _; simp⟩
     case round =>
      clear HBo HBof
      obtain ⟨k,hk2,rfl,HBi,HA⟩:=hrel
      by_cases hki : k < i
      ·have hkl : k < L.length:=by omega
       have hkii : (k : Int) < (i : Int):=by omega
       have hkii2 : (k : Int) < (len9 : Int):=by omega
       obtain ⟨A,hA,hAl⟩:=fldN_num (show L[i] ∈ fldN g (q : Int) by rw [← HLE.out]; exact List.getElem_mem hil)
       obtain ⟨B,hB,hBl⟩:=fldN_num (show L[k] ∈ fldN g (q : Int) by rw [← HLE.out]; exact List.getElem_mem hkl)
       have hAi : (A : Int) < (g.fs.length : Int):=by omega
       have hBi : (B : Int) < (g.fs.length : Int):=by omega
       have HAp : Hid ((fun a b => decide (fnI g a ≠ fnI g b)) L[i] L[k] = decide (g.fs[A].nm ≠ g.fs[B].nm)):=by show _ = _; simp only [hA,hB,fnI_at hAl,fnI_at hBl]
       have HNo : Hid ((fun a b => decide (fnI g a ≠ fnI g b)) L[i] L[k] = false → difB (fun a b => decide (fnI g a ≠ fnI g b)) L = false):=fun h => PrOk.no hil hki h
       have HYs : Hid ((fun a b => decide (fnI g a ≠ fnI g b)) L[i] L[k] = true → (L.take (k + 1)).all ((fun a b => decide (fnI g a ≠ fnI g b)) L[i]) = true):=fun h => take_all_step hkl HA.out h
       rw [HAp.out] at HNo HYs
       obtain ⟨gl,goff,hgl,hgb,_,h6,h7,hc⟩:=(show Is wr (.slice la len9 lc) L from Sl.later HOL.out.is HBi.out).at hil
       obtain ⟨gl',hg0⟩:=HGl.out hil
       have hgo : gl' = gl∧0 = goff:=by rw [hgl] at hg0; simpa [eq_comm] using hg0
       obtain ⟨rfl,rfl⟩:=hgo
       have cA:=hc i hil
       have cB:=hc k hkl
       rw [hA] at cA
       rw [hB] at cB
       rw [Nat.zero_add] at cA cB
       obtain ⟨tb,off,hta,h8,h9,hty⟩:=HG.out.fd (by intro e; rw [e] at hAl; simp at hAl)
       obtain ⟨c1,hd⟩:=hty wr (bstep HB1.out HBi.out)
       have eA:=(hd A hAl).cells_F
       have eB:=(hd B hBl).cells_F

       have hstr:=str_dec g.fs[A].nm g.fs[B].nm
       have nA:=eA.1
       have nB:=eB.1
       unfold maxLen at h7 h9
       subst hgl
       clear hc hA hB HAp hty hd eA eB hg0 hta
       by_cases hnm : g.fs[A].nm = g.fs[B].nm
       ·have HBad : Hid (difB (fun a b => decide (fnI g a ≠ fnI g b)) L = false):=HNo.out (by simpa using hnm)
        rw [decide_eq_true hnm] at hstr
        clear hnm HNo HYs
        generalize g.fs[A].nm = n1 at *
        generalize g.fs[B].nm = n2 at *
        go_wp2_with fail
        go_quiet (fail)
        go_wp2_with fail
        go_ret
        exact ⟨ret_bool (by rw [HR1.out,← HLE.out,HBad.out]; simp),bstep HB0.out (Below.drewN (bstep HB1.out HBi.out) _)⟩
       ·have HA2 : Hid _:=HYs.out (by simpa using hnm)
        rw [decide_eq_false hnm] at hstr
        clear hnm HNo HYs
        generalize g.fs[A].nm = n1 at *
        generalize g.fs[B].nm = n2 at *
        go_wp2_with fail
        go_quiet (fail)
        go_wp2_with fail
        go_roundw
        case rel => exact ⟨k + 1,by omega,by go_num,Below.drewN HBi.out _,HA2.out⟩
        case measure => simp [intOf]; omega

      ·have hkii : ¬ (k : Int) < (i : Int):=by omega
       have HPn : Hid (PrOk (fun a b => decide (fnI g a ≠ fnI g b)) L (i + 1)):=HP.out.step hil (by have:=HA.out; rwa [show k = i by omega] at this)
       go_wp2_with fail
       go_roundw
       case rel => exact ⟨i + 1,by omega,by go_num,HBi.out,HPn.out⟩
       case measure => simp [intOf]; omega
    ·have hii : ¬ (i : Int) < (len9 : Int):=by omega
     have HDf : Hid (difB (fun a b => decide (fnI g a ≠ fnI g b)) (fldN g (q : Int)) = true):=by show _ = _; rw [← HLE.out]; exact HP.out.all hil
     have HBe : Hid (Below w0.heap.size w0 wr):=bstep HB1.out HBo.out
     clear HBo HP HBof
     have HR2 : Hid (nmdB g (q : Int) = difB (fun a b => !smI g a b) (mtdN g (q : Int))):=by show _ = _; rw [HR1.out,HDf.out]; rfl
     obtain ⟨c0,c1,c2,c3⟩:=HC4.out wr HBe.out
     clear HDf HGl HOL HLE
     go_wp2_with fail
     refine Calls.mono (HMt.out wr HBe.out) ?_
     rintro e w2 ⟨mv,rfl,hm,hb2⟩
     have HB2 : Hid (Below w0.heap.size w0 w2):=bstep HBe.out hb2
     obtain ⟨L,hL⟩ : ∃ X,X = mtdN g (q : Int):=⟨_,rfl⟩
     have HLE : Hid (L = mtdN g (q : Int)):=hL
     rw [← hL] at hm
     have hll:=mtdN_len g (q : Int)
     rw [← hL] at hll
     obtain ⟨la,lc,hmv,_,hlc⟩:=(show Is w2 mv L from hm.is).shape
     subst hmv
     have HOL:=LiF.of hm
     obtain ⟨len9,h99⟩ : ∃ n,n = L.length:=⟨_,rfl⟩
     rw [← h99] at HOL
     have HGl : Hid (∀ {i : Nat},i < L.length → ∃ b,la = some ⟨b,0,none⟩):=HOL.out.at0
     have HOL : Hid (LiF w2 la len9 lc L):=HOL
     rw [← h99]
     clear hm hb2 c0 c1 c2 c3 hL
     go_wp2_with fail
     go_loopw [10,11] (fun z _ wr => ∃ i : Nat,i ≤ L.length∧z = .int .i64 i∧Hid (Below w2.heap.size w2 wr)∧Hid (PrOk (fun a b => !smI g a b) L i)) (fun z _ _ => L.length - (intOf z).toNat)
     case atStart => exact ⟨0,Nat.zero_le _,rfl,Below.refl _ _,PrOk.zero _ _⟩
     case round =>
      obtain ⟨i,hi2,rfl,HBo,HP⟩:=hrel
      have HBof : Hid (Below w2.heap.size w2 wr):=HBo
      by_cases hil : i < L.length
      ·have hii : (i : Int) < (len9 : Int):=by omega
       go_wp2_with fail
       go_loopw [11] (fun z wr => ∃ k : Nat,k ≤ i∧z = .int .i64 k∧Hid (Below w2.heap.size w2 wr)∧Hid ((L.take k).all ((fun a b => !smI g a b) L[i]) = true)) (fun z _ => i - (intOf z).toNat)
       case atStart => exact ⟨0,Nat.zero_le _,rfl,HBo.out,by show _ = _; simp⟩
       case round =>
        clear HBo HBof
        obtain ⟨k,hk2,rfl,HBi,HA⟩:=hrel
        by_cases hki : k < i
        ·have hkl : k < L.length:=by omega
         have hkii : (k : Int) < (i : Int):=by omega
         have hkii2 : (k : Int) < (len9 : Int):=by omega
         obtain ⟨A,hA,hAl⟩:=mtdN_num (show L[i] ∈ mtdN g (q : Int) by rw [← HLE.out]; exact List.getElem_mem hil)
         obtain ⟨B,hB,hBl⟩:=mtdN_num (show L[k] ∈ mtdN g (q : Int) by rw [← HLE.out]; exact List.getElem_mem hkl)
         have hAi : (A : Int) < (g.ms.length : Int):=by omega
         have hBi : (B : Int) < (g.ms.length : Int):=by omega
         have HAp : Hid ((fun a b => !smI g a b) L[i] L[k] = !smM g.ms[A] g.ms[B]):=by show _ = _; simp only [hA,hB,smI_at hAl hBl]
         have HNo : Hid ((fun a b => !smI g a b) L[i] L[k] = false → difB (fun a b => !smI g a b) L = false):=fun h => PrOk.no hil hki h
         have HYs : Hid ((fun a b => !smI g a b) L[i] L[k] = true → (L.take (k + 1)).all ((fun a b => !smI g a b) L[i]) = true):=fun h => take_all_step hkl HA.out h
         rw [HAp.out] at HNo HYs
         obtain ⟨gl,goff,hgl,hgb,_,h6,h7,hc⟩:=(show Is wr (.slice la len9 lc) L from Sl.later HOL.out.is HBi.out).at hil
         obtain ⟨gl',hg0⟩:=HGl.out hil
         have hgo : gl' = gl∧0 = goff:=by rw [hgl] at hg0; simpa [eq_comm] using hg0
         obtain ⟨rfl,rfl⟩:=hgo
         have cA:=hc i hil
         have cB:=hc k hkl
         rw [hA] at cA
         rw [hB] at cB
         rw [Nat.zero_add] at cA cB
         obtain ⟨tb,off,hta,h8,h9,hty⟩:=HG.out.md (by intro e; rw [e] at hAl; simp at hAl)
         obtain ⟨c1,hd⟩:=hty wr (bstep HB2.out HBi.out)
         have eA:=(hd A hAl).cells_M
         have eB:=(hd B hBl).cells_M

         have hAm:=List.getElem_mem hAl
         have hBm:=List.getElem_mem hBl
         have hstr:=str_dec g.ms[A].nm g.ms[B].nm
         have hgw : ∀ x ∈ g.ms,x.ok wr:=fun x hx => (HG.out.im.mok x hx).later (bstep HB2.out HBi.out)
         have HSS : Hid (∀ W,Below wr.heap.size wr W → Calls Tryd.prog 40 #[mdV g.ms[A],mdV g.ms[B]] W fun e w' => e = .returned (.bool (sgM g.ms[A] g.ms[B]))∧Below W.heap.size W w'):=fun W hW => refSameSig_any ((hgw _ hAm).later hW) ((hgw _ hBm).later hW) (HFlM.out _ hAm) (HFlM.out _ hBm)
         have HKM : Hid (∀ W,Below wr.heap.size wr W → W.cell? ⟨w.heap.size,2,none⟩ = some (.slice (some ⟨tb,off,none⟩) g.ms.length g.mc)∧W.cell? ⟨gl',i,none⟩ = some (.int .i64 A)∧W.cell? ⟨gl',k,none⟩ = some (.int .i64 B)∧W.cell? ⟨tb,off + A * 12,none⟩ = some (.string g.ms[A].nm)∧W.cell? ⟨tb,off + A * 12 + 1,none⟩ = some (.int .i64 g.ms[A].ow)∧W.cell? ⟨tb,off + A * 12 + 2,none⟩ = some (.int .i64 g.ms[A].fl)∧W.cell? ⟨tb,off + A * 12 + 3,none⟩ = some (.slice g.ms[A].pa g.ms[A].ps.length g.ms[A].pc)∧W.cell? ⟨tb,off + A * 12 + 4,none⟩ = some (.int .i64 g.ms[A].rt.1)∧W.cell? ⟨tb,off + A * 12 + 5,none⟩ = some (.int .i64 g.ms[A].rt.2.1)∧W.cell? ⟨tb,off + A * 12 + 6,none⟩ = some (.int .i64 g.ms[A].rt.2.2.1)∧W.cell? ⟨tb,off + A * 12 + 7,none⟩ = some (.bool g.ms[A].rt.2.2.2)∧W.cell? ⟨tb,off + A * 12 + 8,none⟩ = some (.slice g.ms[A].la g.ms[A].ls.length g.ms[A].lc)∧W.cell? ⟨tb,off + A * 12 + 9,none⟩ = some (.int .i64 g.ms[A].mx)∧W.cell? ⟨tb,off + A * 12 + 10,none⟩ = some (.slice g.ms[A].ca g.ms[A].co.length g.ms[A].cc)∧W.cell? ⟨tb,off + A * 12 + 11,none⟩ = some (.slice g.ms[A].ka g.ms[A].cl.length g.ms[A].kc)∧W.cell? ⟨tb,off + B * 12,none⟩ = some (.string g.ms[B].nm)∧W.cell? ⟨tb,off + B * 12 + 1,none⟩ = some (.int .i64 g.ms[B].ow)∧W.cell? ⟨tb,off + B * 12 + 2,none⟩ = some (.int .i64 g.ms[B].fl)∧W.cell? ⟨tb,off + B * 12 + 3,none⟩ = some (.slice g.ms[B].pa g.ms[B].ps.length g.ms[B].pc)∧W.cell? ⟨tb,off + B * 12 + 4,none⟩ = some (.int .i64 g.ms[B].rt.1)∧W.cell? ⟨tb,off + B * 12 + 5,none⟩ = some (.int .i64 g.ms[B].rt.2.1)∧W.cell? ⟨tb,off + B * 12 + 6,none⟩ = some (.int .i64 g.ms[B].rt.2.2.1)∧W.cell? ⟨tb,off + B * 12 + 7,none⟩ = some (.bool g.ms[B].rt.2.2.2)∧W.cell? ⟨tb,off + B * 12 + 8,none⟩ = some (.slice g.ms[B].la g.ms[B].ls.length g.ms[B].lc)∧W.cell? ⟨tb,off + B * 12 + 9,none⟩ = some (.int .i64 g.ms[B].mx)∧W.cell? ⟨tb,off + B * 12 + 10,none⟩ = some (.slice g.ms[B].ca g.ms[B].co.length g.ms[B].cc)∧W.cell? ⟨tb,off + B * 12 + 11,none⟩ = some (.slice g.ms[B].ka g.ms[B].cl.length g.ms[B].kc)):=fun W hW => by
          have hz:=hty W (bstep HB2.out (bstep HBi.out hW))
          have h1 : W.cell? ⟨gl',i,none⟩ = some (.int .i64 A):=by rw [← cA]; exact hW.cell (p:=⟨gl',i,none⟩) hgb
          have h2 : W.cell? ⟨gl',k,none⟩ = some (.int .i64 B):=by rw [← cB]; exact hW.cell (p:=⟨gl',k,none⟩) hgb
          have zA:=(hz.2 A hAl).cells_M
          obtain ⟨a0,a1,a2,a3,a4,a5,a6,a7,a8,a9,a10,a11⟩:=zA
          exact ⟨hz.1,h1,h2,a0,a1,a2,a3,a4,a5,a6,a7,a8,a9,a10,a11,(hz.2 B hBl).cells_M⟩
         have HSm:=smM_eq g.ms[A] g.ms[B]
         have HSe : Hid (smM g.ms[A] g.ms[B] = _):=HSm
         unfold maxLen at h7 h9
         subst hgl
         clear hc hA hB HAp hty hd hg0 hta hAm hBm hgw HSm eA eB c1 cA cB
         generalize g.ms[A] = x at *
         generalize g.ms[B] = y at *
         unfold mdV at HSS
         obtain ⟨sv,hsv⟩ : ∃ b,b = sgM x y:=⟨_,rfl⟩
         rw [← hsv] at HSe HSS
         clear hsv
         by_cases hnm : x.nm = y.nm
         ·rw [decide_eq_true hnm] at hstr
          have HSe2 : Hid (smM x y = sv):=by show _ = _; rw [HSe.out,decide_eq_true hnm]; rfl
          clear hnm HSe
          cases sv with
          | true =>
           have HBad : Hid (difB (fun a b => !smI g a b) L = false):=HNo.out (by rw [HSe2.out]; rfl)
           clear HNo HYs
           go_wp2_with fail
           refine wp_region_held_drew (S:=(fun W : World => W.cell? ⟨w.heap.size,2,none⟩ = some (.slice (some ⟨tb,off,none⟩) g.ms.length g.mc)∧W.cell? ⟨gl',i,none⟩ = some (.int .i64 A)∧W.cell? ⟨gl',k,none⟩ = some (.int .i64 B)∧W.cell? ⟨tb,off + A * 12,none⟩ = some (.string x.nm)∧W.cell? ⟨tb,off + A * 12 + 1,none⟩ = some (.int .i64 x.ow)∧W.cell? ⟨tb,off + A * 12 + 2,none⟩ = some (.int .i64 x.fl)∧W.cell? ⟨tb,off + A * 12 + 3,none⟩ = some (.slice x.pa x.ps.length x.pc)∧W.cell? ⟨tb,off + A * 12 + 4,none⟩ = some (.int .i64 x.rt.1)∧W.cell? ⟨tb,off + A * 12 + 5,none⟩ = some (.int .i64 x.rt.2.1)∧W.cell? ⟨tb,off + A * 12 + 6,none⟩ = some (.int .i64 x.rt.2.2.1)∧W.cell? ⟨tb,off + A * 12 + 7,none⟩ = some (.bool x.rt.2.2.2)∧W.cell? ⟨tb,off + A * 12 + 8,none⟩ = some (.slice x.la x.ls.length x.lc)∧W.cell? ⟨tb,off + A * 12 + 9,none⟩ = some (.int .i64 x.mx)∧W.cell? ⟨tb,off + A * 12 + 10,none⟩ = some (.slice x.ca x.co.length x.cc)∧W.cell? ⟨tb,off + A * 12 + 11,none⟩ = some (.slice x.ka x.cl.length x.kc)∧W.cell? ⟨tb,off + B * 12,none⟩ = some (.string y.nm)∧W.cell? ⟨tb,off + B * 12 + 1,none⟩ = some (.int .i64 y.ow)∧W.cell? ⟨tb,off + B * 12 + 2,none⟩ = some (.int .i64 y.fl)∧W.cell? ⟨tb,off + B * 12 + 3,none⟩ = some (.slice y.pa y.ps.length y.pc)∧W.cell? ⟨tb,off + B * 12 + 4,none⟩ = some (.int .i64 y.rt.1)∧W.cell? ⟨tb,off + B * 12 + 5,none⟩ = some (.int .i64 y.rt.2.1)∧W.cell? ⟨tb,off + B * 12 + 6,none⟩ = some (.int .i64 y.rt.2.2.1)∧W.cell? ⟨tb,off + B * 12 + 7,none⟩ = some (.bool y.rt.2.2.2)∧W.cell? ⟨tb,off + B * 12 + 8,none⟩ = some (.slice y.la y.ls.length y.lc)∧W.cell? ⟨tb,off + B * 12 + 9,none⟩ = some (.int .i64 y.mx)∧W.cell? ⟨tb,off + B * 12 + 10,none⟩ = some (.slice y.ca y.co.length y.cc)∧W.cell? ⟨tb,off + B * 12 + 11,none⟩ = some (.slice y.ka y.cl.length y.kc))) (by kernel_rfl) (HKM.out _ (bdrew _)) (fun hHeld => ?_)
           refine tY 0 opN220 (.pointer (some ⟨w.heap.size,2,none⟩)) hHeld ?_
           refine tY 1 opN221 (.slice (some ⟨tb,off,none⟩) g.ms.length g.mc) hHeld ?_
           refine tY 2 opN222 (.slice (some ⟨gl',0,none⟩) len9 lc) hHeld ?_
           refine tY 3 opN223 (.int .i64 i) hHeld ?_
           refine tY 4 opN224 (.pointer (some ⟨gl',i,none⟩)) hHeld ?_
           refine tY 5 opN225 (.int .i64 A) hHeld ?_
           refine tY 6 opN226 (.pointer (some ⟨tb,off + A * 12,none⟩)) hHeld ?_
           refine tY 7 opN227 (.pointer (some ⟨tb,off + A * 12,none⟩)) hHeld ?_
           refine tY 8 opN228 (.string x.nm) hHeld ?_
           refine tY 9 opN229 (.pointer (some ⟨w.heap.size,2,none⟩)) hHeld ?_
           refine tY 10 opN2210 (.slice (some ⟨tb,off,none⟩) g.ms.length g.mc) hHeld ?_
           refine tY 11 opN2211 (.slice (some ⟨gl',0,none⟩) len9 lc) hHeld ?_
           refine tY 12 opN2212 (.int .i64 k) hHeld ?_
           refine tY 13 opN2213 (.pointer (some ⟨gl',k,none⟩)) hHeld ?_
           refine tY 14 opN2214 (.int .i64 B) hHeld ?_
           refine tY 15 opN2215 (.pointer (some ⟨tb,off + B * 12,none⟩)) hHeld ?_
           refine tY 16 opN2216 (.pointer (some ⟨tb,off + B * 12,none⟩)) hHeld ?_
           refine tY 17 opN2217 (.string y.nm) hHeld ?_
           refine tY 18 opN2218 (.bool true) hHeld ?_
           refine tY 19 opN2219 (.bool true) hHeld ?_
           refine tY 20 opN2220 (.pointer (some ⟨w.heap.size,2,none⟩)) hHeld ?_
           refine tY 21 opN2221 (.slice (some ⟨tb,off,none⟩) g.ms.length g.mc) hHeld ?_
           refine tY 22 opN2222 (.slice (some ⟨gl',0,none⟩) len9 lc) hHeld ?_
           refine tY 23 opN2223 (.int .i64 i) hHeld ?_
           refine tY 24 opN2224 (.pointer (some ⟨gl',i,none⟩)) hHeld ?_
           refine tY 25 opN2225 (.int .i64 A) hHeld ?_
           refine tY 26 opN2226 (.pointer (some ⟨tb,off + A * 12,none⟩)) hHeld ?_
           refine tY 27 opN2227 (.agg #[.string x.nm,.int .i64 x.ow,.int .i64 x.fl,.slice x.pa x.ps.length x.pc,.int .i64 x.rt.1,.int .i64 x.rt.2.1,.int .i64 x.rt.2.2.1,.bool x.rt.2.2.2,.slice x.la x.ls.length x.lc,.int .i64 x.mx,.slice x.ca x.co.length x.cc,.slice x.ka x.cl.length x.kc]) hHeld ?_
           refine tY 28 opN2228 (.pointer (some ⟨w.heap.size,2,none⟩)) hHeld ?_
           refine tY 29 opN2229 (.slice (some ⟨tb,off,none⟩) g.ms.length g.mc) hHeld ?_
           refine tY 30 opN2230 (.slice (some ⟨gl',0,none⟩) len9 lc) hHeld ?_
           refine tY 31 opN2231 (.int .i64 k) hHeld ?_
           refine tY 32 opN2232 (.pointer (some ⟨gl',k,none⟩)) hHeld ?_
           refine tY 33 opN2233 (.int .i64 B) hHeld ?_
           refine tY 34 opN2234 (.pointer (some ⟨tb,off + B * 12,none⟩)) hHeld ?_
           refine tY 35 opN2235 (.agg #[.string y.nm,.int .i64 y.ow,.int .i64 y.fl,.slice y.pa y.ps.length y.pc,.int .i64 y.rt.1,.int .i64 y.rt.2.1,.int .i64 y.rt.2.2.1,.bool y.rt.2.2.2,.slice y.la y.ls.length y.lc,.int .i64 y.mx,.slice y.ca y.co.length y.cc,.slice y.ka y.cl.length y.kc]) hHeld ?_
           refine wpAnyH_ready (rs := [36]) (by kernel_rfl) (by simp) ?_
           refine AllReadyH.cons (o:=opN2236) rfl (fun K hK => ?_) AllReadyH.nil
           go_simp
           refine (HSS.out _ (bdrew _)).mono ?_
           rintro e w3 ⟨rfl,hb3⟩
           have hBc : Below wr.heap.size wr w3:=bstep (bdrew _) hb3
           try go_wp2_with fail
           refine hK.out _ _ (HKM.out _ hBc) (fun hHeld => ?_)
           clear hK K
           try simp only [Act.put,sA,s0,sS]
           refine tY 37 opN2237 (.bool true) hHeld ?_
           refine wpAnyH_done (by kernel_rfl) ?_ _

           have HBe : Hid (Below w0.heap.size w0 w3):=bstep (bstep HB2.out HBi.out) hBc
           clear hBc hb3
           go_wp2_with fail
           go_ret
           exact ⟨ret_bool (by rw [HR2.out,← HLE.out,HBad.out]),bstep HB0.out HBe.out⟩
          | false =>
           have HA2 : Hid _:=HYs.out (by rw [HSe2.out]; rfl)
           clear HNo HYs
           go_wp2_with fail
           refine wp_region_held_drew (S:=(fun W : World => W.cell? ⟨w.heap.size,2,none⟩ = some (.slice (some ⟨tb,off,none⟩) g.ms.length g.mc)∧W.cell? ⟨gl',i,none⟩ = some (.int .i64 A)∧W.cell? ⟨gl',k,none⟩ = some (.int .i64 B)∧W.cell? ⟨tb,off + A * 12,none⟩ = some (.string x.nm)∧W.cell? ⟨tb,off + A * 12 + 1,none⟩ = some (.int .i64 x.ow)∧W.cell? ⟨tb,off + A * 12 + 2,none⟩ = some (.int .i64 x.fl)∧W.cell? ⟨tb,off + A * 12 + 3,none⟩ = some (.slice x.pa x.ps.length x.pc)∧W.cell? ⟨tb,off + A * 12 + 4,none⟩ = some (.int .i64 x.rt.1)∧W.cell? ⟨tb,off + A * 12 + 5,none⟩ = some (.int .i64 x.rt.2.1)∧W.cell? ⟨tb,off + A * 12 + 6,none⟩ = some (.int .i64 x.rt.2.2.1)∧W.cell? ⟨tb,off + A * 12 + 7,none⟩ = some (.bool x.rt.2.2.2)∧W.cell? ⟨tb,off + A * 12 + 8,none⟩ = some (.slice x.la x.ls.length x.lc)∧W.cell? ⟨tb,off + A * 12 + 9,none⟩ = some (.int .i64 x.mx)∧W.cell? ⟨tb,off + A * 12 + 10,none⟩ = some (.slice x.ca x.co.length x.cc)∧W.cell? ⟨tb,off + A * 12 + 11,none⟩ = some (.slice x.ka x.cl.length x.kc)∧W.cell? ⟨tb,off + B * 12,none⟩ = some (.string y.nm)∧W.cell? ⟨tb,off + B * 12 + 1,none⟩ = some (.int .i64 y.ow)∧W.cell? ⟨tb,off + B * 12 + 2,none⟩ = some (.int .i64 y.fl)∧W.cell? ⟨tb,off + B * 12 + 3,none⟩ = some (.slice y.pa y.ps.length y.pc)∧W.cell? ⟨tb,off + B * 12 + 4,none⟩ = some (.int .i64 y.rt.1)∧W.cell? ⟨tb,off + B * 12 + 5,none⟩ = some (.int .i64 y.rt.2.1)∧W.cell? ⟨tb,off + B * 12 + 6,none⟩ = some (.int .i64 y.rt.2.2.1)∧W.cell? ⟨tb,off + B * 12 + 7,none⟩ = some (.bool y.rt.2.2.2)∧W.cell? ⟨tb,off + B * 12 + 8,none⟩ = some (.slice y.la y.ls.length y.lc)∧W.cell? ⟨tb,off + B * 12 + 9,none⟩ = some (.int .i64 y.mx)∧W.cell? ⟨tb,off + B * 12 + 10,none⟩ = some (.slice y.ca y.co.length y.cc)∧W.cell? ⟨tb,off + B * 12 + 11,none⟩ = some (.slice y.ka y.cl.length y.kc))) (by kernel_rfl) (HKM.out _ (bdrew _)) (fun hHeld => ?_)
           refine tY 0 opN220 (.pointer (some ⟨w.heap.size,2,none⟩)) hHeld ?_
           refine tY 1 opN221 (.slice (some ⟨tb,off,none⟩) g.ms.length g.mc) hHeld ?_
           refine tY 2 opN222 (.slice (some ⟨gl',0,none⟩) len9 lc) hHeld ?_
           refine tY 3 opN223 (.int .i64 i) hHeld ?_
           refine tY 4 opN224 (.pointer (some ⟨gl',i,none⟩)) hHeld ?_
           refine tY 5 opN225 (.int .i64 A) hHeld ?_
           refine tY 6 opN226 (.pointer (some ⟨tb,off + A * 12,none⟩)) hHeld ?_
           refine tY 7 opN227 (.pointer (some ⟨tb,off + A * 12,none⟩)) hHeld ?_
           refine tY 8 opN228 (.string x.nm) hHeld ?_
           refine tY 9 opN229 (.pointer (some ⟨w.heap.size,2,none⟩)) hHeld ?_
           refine tY 10 opN2210 (.slice (some ⟨tb,off,none⟩) g.ms.length g.mc) hHeld ?_
           refine tY 11 opN2211 (.slice (some ⟨gl',0,none⟩) len9 lc) hHeld ?_
           refine tY 12 opN2212 (.int .i64 k) hHeld ?_
           refine tY 13 opN2213 (.pointer (some ⟨gl',k,none⟩)) hHeld ?_
           refine tY 14 opN2214 (.int .i64 B) hHeld ?_
           refine tY 15 opN2215 (.pointer (some ⟨tb,off + B * 12,none⟩)) hHeld ?_
           refine tY 16 opN2216 (.pointer (some ⟨tb,off + B * 12,none⟩)) hHeld ?_
           refine tY 17 opN2217 (.string y.nm) hHeld ?_
           refine tY 18 opN2218 (.bool true) hHeld ?_
           refine tY 19 opN2219 (.bool true) hHeld ?_
           refine tY 20 opN2220 (.pointer (some ⟨w.heap.size,2,none⟩)) hHeld ?_
           refine tY 21 opN2221 (.slice (some ⟨tb,off,none⟩) g.ms.length g.mc) hHeld ?_
           refine tY 22 opN2222 (.slice (some ⟨gl',0,none⟩) len9 lc) hHeld ?_
           refine tY 23 opN2223 (.int .i64 i) hHeld ?_
           refine tY 24 opN2224 (.pointer (some ⟨gl',i,none⟩)) hHeld ?_
           refine tY 25 opN2225 (.int .i64 A) hHeld ?_
           refine tY 26 opN2226 (.pointer (some ⟨tb,off + A * 12,none⟩)) hHeld ?_
           refine tY 27 opN2227 (.agg #[.string x.nm,.int .i64 x.ow,.int .i64 x.fl,.slice x.pa x.ps.length x.pc,.int .i64 x.rt.1,.int .i64 x.rt.2.1,.int .i64 x.rt.2.2.1,.bool x.rt.2.2.2,.slice x.la x.ls.length x.lc,.int .i64 x.mx,.slice x.ca x.co.length x.cc,.slice x.ka x.cl.length x.kc]) hHeld ?_
           refine tY 28 opN2228 (.pointer (some ⟨w.heap.size,2,none⟩)) hHeld ?_
           refine tY 29 opN2229 (.slice (some ⟨tb,off,none⟩) g.ms.length g.mc) hHeld ?_
           refine tY 30 opN2230 (.slice (some ⟨gl',0,none⟩) len9 lc) hHeld ?_
           refine tY 31 opN2231 (.int .i64 k) hHeld ?_
           refine tY 32 opN2232 (.pointer (some ⟨gl',k,none⟩)) hHeld ?_
           refine tY 33 opN2233 (.int .i64 B) hHeld ?_
           refine tY 34 opN2234 (.pointer (some ⟨tb,off + B * 12,none⟩)) hHeld ?_
           refine tY 35 opN2235 (.agg #[.string y.nm,.int .i64 y.ow,.int .i64 y.fl,.slice y.pa y.ps.length y.pc,.int .i64 y.rt.1,.int .i64 y.rt.2.1,.int .i64 y.rt.2.2.1,.bool y.rt.2.2.2,.slice y.la y.ls.length y.lc,.int .i64 y.mx,.slice y.ca y.co.length y.cc,.slice y.ka y.cl.length y.kc]) hHeld ?_
           refine wpAnyH_ready (rs := [36]) (by kernel_rfl) (by simp) ?_
           refine AllReadyH.cons (o:=opN2236) rfl (fun K hK => ?_) AllReadyH.nil
           go_simp
           refine (HSS.out _ (bdrew _)).mono ?_
           rintro e w3 ⟨rfl,hb3⟩
           have hBc : Below wr.heap.size wr w3:=bstep (bdrew _) hb3
           try go_wp2_with fail
           refine hK.out _ _ (HKM.out _ hBc) (fun hHeld => ?_)
           clear hK K
           try simp only [Act.put,sA,s0,sS]
           refine tY 37 opN2237 (.bool false) hHeld ?_
           refine wpAnyH_done (by kernel_rfl) ?_ _

           have HBe : Hid (Below w2.heap.size w2 w3):=bstep HBi.out hBc
           clear hBc hb3
           go_wp2_with fail
           go_roundw
           case rel => exact ⟨k + 1,by omega,by go_num,HBe.out,HA2.out⟩
           case measure => simp [intOf]; omega
         ·rw [decide_eq_false hnm] at hstr
          have HA2 : Hid _:=HYs.out (by rw [HSe.out,decide_eq_false hnm]; rfl)
          clear hnm HSe HNo HYs
          go_wp2_with fail
          refine wp_region_held_drew (S:=(fun W : World => W.cell? ⟨w.heap.size,2,none⟩ = some (.slice (some ⟨tb,off,none⟩) g.ms.length g.mc)∧W.cell? ⟨gl',i,none⟩ = some (.int .i64 A)∧W.cell? ⟨gl',k,none⟩ = some (.int .i64 B)∧W.cell? ⟨tb,off + A * 12,none⟩ = some (.string x.nm)∧W.cell? ⟨tb,off + A * 12 + 1,none⟩ = some (.int .i64 x.ow)∧W.cell? ⟨tb,off + A * 12 + 2,none⟩ = some (.int .i64 x.fl)∧W.cell? ⟨tb,off + A * 12 + 3,none⟩ = some (.slice x.pa x.ps.length x.pc)∧W.cell? ⟨tb,off + A * 12 + 4,none⟩ = some (.int .i64 x.rt.1)∧W.cell? ⟨tb,off + A * 12 + 5,none⟩ = some (.int .i64 x.rt.2.1)∧W.cell? ⟨tb,off + A * 12 + 6,none⟩ = some (.int .i64 x.rt.2.2.1)∧W.cell? ⟨tb,off + A * 12 + 7,none⟩ = some (.bool x.rt.2.2.2)∧W.cell? ⟨tb,off + A * 12 + 8,none⟩ = some (.slice x.la x.ls.length x.lc)∧W.cell? ⟨tb,off + A * 12 + 9,none⟩ = some (.int .i64 x.mx)∧W.cell? ⟨tb,off + A * 12 + 10,none⟩ = some (.slice x.ca x.co.length x.cc)∧W.cell? ⟨tb,off + A * 12 + 11,none⟩ = some (.slice x.ka x.cl.length x.kc)∧W.cell? ⟨tb,off + B * 12,none⟩ = some (.string y.nm)∧W.cell? ⟨tb,off + B * 12 + 1,none⟩ = some (.int .i64 y.ow)∧W.cell? ⟨tb,off + B * 12 + 2,none⟩ = some (.int .i64 y.fl)∧W.cell? ⟨tb,off + B * 12 + 3,none⟩ = some (.slice y.pa y.ps.length y.pc)∧W.cell? ⟨tb,off + B * 12 + 4,none⟩ = some (.int .i64 y.rt.1)∧W.cell? ⟨tb,off + B * 12 + 5,none⟩ = some (.int .i64 y.rt.2.1)∧W.cell? ⟨tb,off + B * 12 + 6,none⟩ = some (.int .i64 y.rt.2.2.1)∧W.cell? ⟨tb,off + B * 12 + 7,none⟩ = some (.bool y.rt.2.2.2)∧W.cell? ⟨tb,off + B * 12 + 8,none⟩ = some (.slice y.la y.ls.length y.lc)∧W.cell? ⟨tb,off + B * 12 + 9,none⟩ = some (.int .i64 y.mx)∧W.cell? ⟨tb,off + B * 12 + 10,none⟩ = some (.slice y.ca y.co.length y.cc)∧W.cell? ⟨tb,off + B * 12 + 11,none⟩ = some (.slice y.ka y.cl.length y.kc))) (by kernel_rfl) (HKM.out _ (bdrew _)) (fun hHeld => ?_)
          refine tY 0 opN220 (.pointer (some ⟨w.heap.size,2,none⟩)) hHeld ?_
          refine tY 1 opN221 (.slice (some ⟨tb,off,none⟩) g.ms.length g.mc) hHeld ?_
          refine tY 2 opN222 (.slice (some ⟨gl',0,none⟩) len9 lc) hHeld ?_
          refine tY 3 opN223 (.int .i64 i) hHeld ?_
          refine tY 4 opN224 (.pointer (some ⟨gl',i,none⟩)) hHeld ?_
          refine tY 5 opN225 (.int .i64 A) hHeld ?_
          refine tY 6 opN226 (.pointer (some ⟨tb,off + A * 12,none⟩)) hHeld ?_
          refine tY 7 opN227 (.pointer (some ⟨tb,off + A * 12,none⟩)) hHeld ?_
          refine tY 8 opN228 (.string x.nm) hHeld ?_
          refine tY 9 opN229 (.pointer (some ⟨w.heap.size,2,none⟩)) hHeld ?_
          refine tY 10 opN2210 (.slice (some ⟨tb,off,none⟩) g.ms.length g.mc) hHeld ?_
          refine tY 11 opN2211 (.slice (some ⟨gl',0,none⟩) len9 lc) hHeld ?_
          refine tY 12 opN2212 (.int .i64 k) hHeld ?_
          refine tY 13 opN2213 (.pointer (some ⟨gl',k,none⟩)) hHeld ?_
          refine tY 14 opN2214 (.int .i64 B) hHeld ?_
          refine tY 15 opN2215 (.pointer (some ⟨tb,off + B * 12,none⟩)) hHeld ?_
          refine tY 16 opN2216 (.pointer (some ⟨tb,off + B * 12,none⟩)) hHeld ?_
          refine tY 17 opN2217 (.string y.nm) hHeld ?_
          refine tY 18 opN2218 (.bool false) hHeld ?_
          refine tY 19 opN2219 (.bool false) hHeld ?_
          refine tN 20 opN2220 hHeld ?_
          refine tN 21 opN2221 hHeld ?_
          refine tN 22 opN2222 hHeld ?_
          refine tN 23 opN2223 hHeld ?_
          refine tN 24 opN2224 hHeld ?_
          refine tN 25 opN2225 hHeld ?_
          refine tN 26 opN2226 hHeld ?_
          refine tN 27 opN2227 hHeld ?_
          refine tN 28 opN2228 hHeld ?_
          refine tN 29 opN2229 hHeld ?_
          refine tN 30 opN2230 hHeld ?_
          refine tN 31 opN2231 hHeld ?_
          refine tN 32 opN2232 hHeld ?_
          refine tN 33 opN2233 hHeld ?_
          refine tN 34 opN2234 hHeld ?_
          refine tN 35 opN2235 hHeld ?_
          refine tN 36 opN2236 hHeld ?_
          refine tY 37 opN2237 (.bool false) hHeld ?_
          refine wpAnyH_done (by kernel_rfl) ?_ _

          go_wp2_with fail
          go_roundw
          case rel => exact ⟨k + 1,by omega,by go_num,Below.drewN HBi.out 1,HA2.out⟩
          case measure => simp [intOf]; omega

        ·have hkii : ¬ (k : Int) < (i : Int):=by omega
         have HPn : Hid (PrOk (fun a b => !smI g a b) L (i + 1)):=HP.out.step hil (by have:=HA.out; rwa [show k = i by omega] at this)
         go_wp2_with fail
         go_roundw
         case rel => exact ⟨i + 1,by omega,by go_num,HBi.out,HPn.out⟩
         case measure => simp [intOf]; omega
      ·have hii : ¬ (i : Int) < (len9 : Int):=by omega
       have HDf : Hid (difB (fun a b => !smI g a b) (mtdN g (q : Int)) = true):=by show _ = _; rw [← HLE.out]; exact HP.out.all hil
       have HBe : Hid (Below w0.heap.size w0 wr):=bstep HB2.out HBo.out
       clear HBo HP HBof
       go_wp2_with fail
       go_ret
       exact ⟨ret_bool (by rw [HR2.out,HDf.out]),bstep HB0.out HBe.out⟩
end Go.Proofs.YtapocgcdjkbnhaaDoor
