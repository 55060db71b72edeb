/- Texts joined: RefForm10, RefSized11. -/
import Derived.Test.YtapocgcdjkbnhaaDoorQ19
import Derived.Test.YtapocgcdjkbnhaaDoorQ20
import Derived.Test.YtapocgcdjkbnhaaDoorQ13
import Derived.Test.YtapocgcdjkbnhaaDoorQ18
namespace Go.Proofs.YtapocgcdjkbnhaaDoor
set_option linter.unusedVariables false
set_option linter.unusedSimpArgs false
open Go.RowKit
attribute [local go_sem ↓] Go.wp_at_zero Go.wp_at_succ
theorem all_step {α : Type} {p : α → Bool} {l : List α} {q : Nat} (hq : q < l.length) (h : (l.take q).all p = true) (hx : p l[q] = true) : (l.take (q + 1)).all p = true:=by
 rw [List.take_succ_eq_append_getElem hq,List.all_append,h]; simpa using hx
theorem all_no {α : Type} {p : α → Bool} {l : List α} {q : Nat} (hq : q < l.length) (hx : p l[q] = false) : l.all p = false:=by
 rw [List.all_eq_false]; exact ⟨_,List.getElem_mem hq,by rw [hx]; decide⟩
theorem all_done {α : Type} {p : α → Bool} {l : List α} {q : Nat} (hq : ¬ q < l.length) (h : (l.take q).all p = true) : l.all p = true:=by
 rwa [List.take_of_length_le (by omega)] at h
theorem Es.at {α : Type} {E : Enc α} {w : World} {a : Option Addr} {c : Nat} {l : List α} (h : Es E w (.slice a l.length c) l) {q : Nat} (hq : q < l.length) :
  ∃ b off,a = some ⟨b,off,none⟩∧b < w.heap.size∧l.length ≤ c∧c ≤ maxLen∧∀ i (hi : i < l.length),El E w b (off + i * E.size) l[i]:=by
 obtain ⟨b,off,cap,hv,h1,h2,hb,hc⟩:=h.parts (by intro e; rw [e] at hq; simp at hq)
 simp only [Value.slice.injEq] at hv
 obtain ⟨rfl,_,rfl⟩:=hv
 exact ⟨b,off,rfl,hb,h1,h2,hc⟩

set_option maxHeartbeats 4000000 in
theorem refFormedType_any (n : Nat) (x : TD) {w : World} (hx : x.ok w) (hnm : x.nm.size ≤ maxLen) :
  Calls Tryd.prog 31 #[tdV x,.int .i64 n] w fun e w' => e = .returned (.bool (tdB n x))∧Below w.heap.size w w':=by
 obtain ⟨w0,hw0⟩ : ∃ W,W = w.alloc (.cells (tdA x) 42):=⟨_,rfl⟩
 have HW0 : Hid (w0 = _):=hw0
 have hb0 : Below w.heap.size w w0:=by rw [hw0]; exact made_below _ _ _
 have HB0 : Hid (Below w.heap.size w w0):=hb0
 have hA : At w0 w.heap.size (tdA x) 42:=by rw [hw0]; exact At.made w _ _
 have HX : Hid (Es intE w0 (.slice x.fa x.fs.length x.fc) x.fs):=hx.later hb0
 have hlm:=hx.len
 unfold maxLen at hlm
 have c1:=hA.cell
 have HF : Hid (tdB n x = (fineB x.nm.data.toList && witB x.fl 31 && (decide (x.ex = -1) || numB x.ex n) && decide (x.fs.length ≤ 4) && x.fs.all (fun i => numB i n))):=rfl
 have HR : Hid (Calls Tryd.prog 32 #[.string x.nm] w0 fun e w' => e = .returned (.bool (fineB x.nm.data.toList))∧w' = w0):=refFine_any x.nm hnm w0
 unfold tdA at c1 HW0
 clear hw0 hb0 hA hx hnm
 unfold tdV
 go_enter Tryd.func31,Tryd.ntmps31
 go_wp2_with (rw [← HW0.out])
 refine Calls.mono HR.out ?_
 rintro e wz ⟨rfl,hz⟩
 subst wz
 cases hfi : fineB x.nm.data.toList with
 | false =>
  go_wp2_with fail
  go_ret
  exact ⟨ret_bool (by rw [HF.out,hfi]; simp),HB0.out⟩
 | true =>
 by_cases h1 : x.fl < 0
 ·have hq : witB x.fl 31 = false:=by unfold witB; simp; omega
  go_wp2_with fail
  go_ret
  exact ⟨ret_bool (by rw [HF.out,hq]; simp),HB0.out⟩
 by_cases h2 : 31 < x.fl
 ·have hq : witB x.fl 31 = false:=by unfold witB; simp; omega
  go_wp2_with fail
  go_ret
  exact ⟨ret_bool (by rw [HF.out,hq]; simp),HB0.out⟩
 have hw : witB x.fl 31 = true:=by unfold witB; simp; omega
 by_cases h3 : x.ex < -1
 ·have hq : (decide (x.ex = -1) || numB x.ex n) = false:=by unfold numB; simp; omega
  go_wp2_with fail
  go_ret
  exact ⟨ret_bool (by rw [HF.out,hq]; simp),HB0.out⟩
 by_cases h4 : (n : Int) ≤ x.ex
 ·have hq : (decide (x.ex = -1) || numB x.ex n) = false:=by unfold numB; simp; omega
  go_wp2_with fail
  go_ret
  exact ⟨ret_bool (by rw [HF.out,hq]; simp),HB0.out⟩
 have he : (decide (x.ex = -1) || numB x.ex n) = true:=by unfold numB; simp; omega
 by_cases h5 : 4 < x.fs.length
 ·have h5' : (4 : Int) < (x.fs.length : Int):=by omega
  have hq : decide (x.fs.length ≤ 4) = false:=by simp; omega
  go_wp2_with fail
  go_ret
  exact ⟨ret_bool (by rw [HF.out,hq]; simp),HB0.out⟩
 have h5' : ¬ (4 : Int) < (x.fs.length : Int):=by omega
 have HG : Hid (tdB n x = x.fs.all (fun i => numB i n)):=by
  show _ = _
  rw [HF.out,hfi,hw,he,decide_eq_true (show x.fs.length ≤ 4 by omega)]; simp
 clear hfi hw he HF
 go_wp2_with fail
 go_loopw [5] (fun z wr => ∃ q : Nat,q ≤ x.fs.length∧z = .int .i64 q∧wr = w0∧Hid ((x.fs.take q).all (fun i => numB i n) = true)) (fun z _ => x.fs.length - (intOf z).toNat)
 case atStart => exact ⟨0,Nat.zero_le _,rfl,rfl,by show _ = _; simp⟩
 case round =>
  obtain ⟨q,hq,rfl,rfl,HA⟩:=hrel
  by_cases hql : q < x.fs.length
  ·obtain ⟨b,off,hfa,hb,h6,h7,hc⟩:=HX.out.at hql
   have cq:=(hc q hql).cells_N
   have HY : Hid (numB x.fs[q] n = true → (x.fs.take (q + 1)).all (fun i => numB i n) = true):=fun h => all_step hql HA.out h
   have HN : Hid (numB x.fs[q] n = false → x.fs.all (fun i => numB i n) = false):=fun h => all_no (p:=fun i => numB i n) hql h
   generalize x.fs[q] = y at *
   unfold maxLen at h7
   rw [hfa] at c1
   clear hc
   by_cases g1 : y < 0
   ·have hN:=HN.out (by unfold numB; simp; omega)
    go_wp2_with fail
    go_ret
    exact ⟨ret_bool (by rw [HG.out,hN]),HB0.out⟩
   by_cases g2 : (n : Int) ≤ y
   ·have hN:=HN.out (by unfold numB; simp; omega)
    go_wp2_with fail
    go_ret
    exact ⟨ret_bool (by rw [HG.out,hN]),HB0.out⟩
   have HY2 : Hid ((x.fs.take (q + 1)).all (fun i => numB i n) = true):=HY.out (by unfold numB; simp; omega)
   clear HY HN
   go_wp2_with fail
   go_roundw
   case rel => exact ⟨q + 1,by omega,by go_num,by simp,HY2.out⟩
   case measure => simp [intOf]; omega
  ·have HD : Hid (x.fs.all (fun i => numB i n) = true):=all_done (p:=fun i => numB i n) hql HA.out
   go_wp2_with fail
   go_ret
   exact ⟨ret_bool (by rw [HG.out,HD.out]),HB0.out⟩
abbrev opZ60 : Oper := { dst:=some 24,op:=Op.move (Operand.tmp 5),type := 3,pos := "ref.go:203",after:=#[],guard:=none }
abbrev opZ61 : Oper := { dst:=some 25,op:=Op.binOp BinOp.eql 3 (Operand.tmp 24) (Operand.const (Value.int IntKind.i64 3)) 3,type := 4,pos := "ref.go:203",after:=#[{ on := 0,ground:=Ground.data }],guard:=none }
abbrev opZ62 : Oper := { dst:=some 26,op:=Op.move (Operand.tmp 25),type := 4,pos := "ref.go:203",after:=#[{ on := 1,ground:=Ground.data }],guard:=none }
abbrev opZ63 : Oper := { dst:=some 27,op:=Op.move (Operand.tmp 5),type := 3,pos := "ref.go:203",after:=#[{ on := 2,ground:=Ground.guard }],guard:=some (2,false) }
abbrev opZ64 : Oper := { dst:=some 28,op:=Op.binOp BinOp.eql 3 (Operand.tmp 27) (Operand.const (Value.int IntKind.i64 2)) 3,type := 4,pos := "ref.go:203",after:=#[{ on := 3,ground:=Ground.data }, { on := 2,ground:=Ground.guard }],guard:=some (2,false) }
abbrev opZ65 : Oper := { dst:=some 29,op:=Op.move (Operand.tmp 28),type := 4,pos := "ref.go:203",after:=#[{ on := 4,ground:=Ground.data }, { on := 2,ground:=Ground.chain }, { on := 2,ground:=Ground.guard }],guard:=some (2,false) }
abbrev opZ66 : Oper := { dst:=some 30,op:=Op.fieldAddr 26 (Operand.tmp 2) 1,type := 0,pos := "ref.go:203",after:=#[{ on := 5,ground:=Ground.guard }],guard:=some (5,true) }
abbrev opZ67 : Oper := { dst:=some 31,op:=Op.load 23 (Operand.tmp 30),type := 23,pos := "ref.go:203",after:=#[{ on := 6,ground:=Ground.data }, { on := 5,ground:=Ground.guard }],guard:=some (5,true) }
abbrev opZ68 : Oper := { dst:=some 32,op:=Op.move (Operand.tmp 6),type := 40,pos := "ref.go:203",after:=#[{ on := 5,ground:=Ground.guard }],guard:=some (5,true) }
abbrev opZ69 : Oper := { dst:=some 33,op:=Op.move (Operand.tmp 7),type := 3,pos := "ref.go:203",after:=#[{ on := 5,ground:=Ground.guard }],guard:=some (5,true) }
abbrev opZ610 : Oper := { dst:=some 34,op:=Op.indexAddr 40 (Operand.tmp 32) (Operand.tmp 33),type := 0,pos := "ref.go:203",after:=#[{ on := 8,ground:=Ground.data }, { on := 9,ground:=Ground.data }, { on := 5,ground:=Ground.guard }],guard:=some (5,true) }
abbrev opZ611 : Oper := { dst:=some 35,op:=Op.load 3 (Operand.tmp 34),type := 3,pos := "ref.go:203",after:=#[{ on := 10,ground:=Ground.data }, { on := 5,ground:=Ground.guard }],guard:=some (5,true) }
abbrev opZ612 : Oper := { dst:=some 36,op:=Op.indexAddr 23 (Operand.tmp 31) (Operand.tmp 35),type := 0,pos := "ref.go:203",after:=#[{ on := 7,ground:=Ground.data }, { on := 11,ground:=Ground.data }, { on := 5,ground:=Ground.guard }],guard:=some (5,true) }
abbrev opZ613 : Oper := { dst:=some 37,op:=Op.fieldAddr 59 (Operand.tmp 36) 3,type := 0,pos := "ref.go:203",after:=#[{ on := 12,ground:=Ground.data }, { on := 5,ground:=Ground.guard }],guard:=some (5,true) }
abbrev opZ614 : Oper := { dst:=some 38,op:=Op.load 4 (Operand.tmp 37),type := 4,pos := "ref.go:203",after:=#[{ on := 13,ground:=Ground.data }, { on := 5,ground:=Ground.guard }],guard:=some (5,true) }
abbrev opZ615 : Oper := { dst:=some 39,op:=Op.unOp UnOp.not 4 (Operand.tmp 38),type := 4,pos := "ref.go:203",after:=#[{ on := 14,ground:=Ground.data }, { on := 5,ground:=Ground.guard }],guard:=some (5,true) }
abbrev opZ616 : Oper := { dst:=some 40,op:=Op.pick (Operand.tmp 29) (Operand.tmp 39) (Operand.const (Value.bool false)),type := 4,pos := "ref.go:203",after:=#[{ on := 5,ground:=Ground.data }, { on := 15,ground:=Ground.data }, { on := 2,ground:=Ground.guard }],guard:=some (2,false) }
abbrev opZ617 : Oper := { dst:=some 41,op:=Op.pick (Operand.tmp 26) (Operand.const (Value.bool true)) (Operand.tmp 40),type := 4,pos := "ref.go:203",after:=#[{ on := 2,ground:=Ground.data }, { on := 16,ground:=Ground.data }],guard:=none }

def Apt (w : World) (lv mv : Value) : Prop := ∀ k,mv.ownBlock = some k → k < w.heap.size∧lv.ownBlock ≠ some k
theorem Apt.later {w w' : World} {lv mv : Value} (h : Apt w lv mv) (hb : Below w.heap.size w w') : Apt w' lv mv:=fun k hk => ⟨Nat.lt_of_lt_of_le (h k hk).1 hb.size,(h k hk).2⟩
theorem Apt.add {w w3 w5 : World} {lv lv5 mv : Value} {X : List Int} {o : Obj} (h : Apt w lv mv) (hi : Is w mv X) (h3 : w3 = w.alloc o) (hg : w3.grownBy w5 lv.ownBlock) (hp : lv5.ownBlock = lv.ownBlock ∨ lv5.ownBlock = some w3.heap.size) :
  Is w5 mv X∧Apt w5 lv5 mv:=by
 have s3 : w3.heap.size = w.heap.size + 1:=by rw [h3]; simp
 have s5:=hg.size
 refine ⟨hi.keep (by omega) (fun k hk => ?_),fun k hk => ⟨by have:=(h k hk).1; omega, ?_⟩⟩
 ·rw [hg.block k (by have:=(h k hk).1; omega) (fun e => (h k hk).2 e.symm),h3]
  exact heap_alloc_old w _ (h k hk).1
 ·rcases hp with hp | hp
  ·rw [hp]; exact (h k hk).2
  ·rw [hp]; intro e; simp at e; have:=(h k hk).1; omega
theorem prtL_num {g : Img} {t x : Int} (h : x ∈ prtL g t) : numB x g.ts.length = true:=by
 unfold prtL at h
 obtain ⟨i,hi,rfl⟩:=List.mem_map.1 h
 have hp:=(List.mem_filter.1 hi).2
 unfold prtB at hp
 simp only [Bool.and_eq_true,decide_eq_true_iff] at hp
 have hk:=hp.2.2
 unfold kndI at hk
 cases hn : numB (fvtI g i).2.1 g.ts.length with
 | true => rfl
 | false => rw [hn] at hk; simp at hk
theorem prtL_len (g : Img) (t : Int) : (prtL g t).length ≤ g.fs.length:=by
 unfold prtL
 rw [List.length_map]
 exact Nat.le_trans (List.length_filter_le _ _) (fldN_len g t)
theorem prtL_nd (g : Img) (t : Int) : Nd g.ts.length (prtL g t).length (prtL g t):=⟨fun x hx => prtL_num hx,by rw [List.drop_length]; exact List.nodup_nil⟩
theorem prt_has {g : Img} (t : Int) {k : Nat} (hk : (prtL g t).length + g.ts.length < k) : (goL g.ts.length (prtL g) k 0 (prtL g t)).contains t = (reachL g.ts.length (prtL g) (prtL g t)).contains t:=by
 rw [Bool.eq_iff_iff,List.contains_iff_mem,List.contains_iff_mem,goL_iff (prtL_nd g t) hk,reachL_iff]

set_option maxHeartbeats 16000000 in
set_option maxRecDepth 100000 in
theorem refSized_any {g : Img} {q : Nat} {w : World} (hg : Im w g) (hi : imB g = true) (hq : q < g.ts.length) :
  Calls Tryd.prog 26 #[imV g,.int .i64 q] w fun e w' => e = .returned (.bool (szdB g (q : Int)))∧Below w.heap.size w w':=by
 obtain ⟨w0,hw0⟩ : ∃ W,W = w.alloc (.cells (imC g) 26):=⟨_,rfl⟩
 have HW0 : Hid (w0 = _):=hw0
 obtain ⟨hb0,hgb⟩:=GB.made hg hw0
 have HB0 : Hid (Below w.heap.size w w0):=hb0
 have HG : Hid (GB w0 w.heap.size g):=hgb
 have HI : Hid (imB g = true):=hi
 have hln:=im_len hi
 have HKd : Hid (Calls Tryd.prog 14 #[.agg (imC g),.int .i64 q] w0 fun e w' => e = .returned (.int .i64 (kndI g (q : Int)))∧Below w0.heap.size w0 w'):=refKind_any (q : Int) hgb.im (FlOk.of hi)
 have HFl : Hid (∀ W,Below w0.heap.size w0 W → Calls Tryd.prog 38 #[.agg (imC g),.int .i64 q] W fun e w' => ∃ v,e = .returned v∧OwnI w' W.heap.size v (fldN g (q : Int))∧Below W.heap.size W w'):=fun W hW => refFields_any (HG.out.im.later hW) HI.out
 have HPa : Hid (∀ W (t : Int),Below w0.heap.size w0 W → Calls Tryd.prog 41 #[.agg (imC g),.int .i64 t] W fun e w' => ∃ v,e = .returned v∧OwnI w' W.heap.size v (prtL g t)∧Below W.heap.size W w'):=fun W t hW => refParts_any (HG.out.im.later hW) HI.out
 have HC4 : Hid (∀ W,Below w0.heap.size w0 W → W.cell? ⟨w.heap.size,0,none⟩ = some (.slice g.ta g.ts.length g.tc)∧W.cell? ⟨w.heap.size,1,none⟩ = some (.slice g.fa g.fs.length g.fc)∧W.cell? ⟨w.heap.size,2,none⟩ = some (.slice g.ma g.ms.length g.mc)∧W.cell? ⟨w.heap.size,3,none⟩ = some (.int .i64 g.en)):=fun W hW => (hgb.later hW).cells
 have HR : Hid (szdB g (q : Int) = if kndI g (q : Int) = 2 then (fldN g (q : Int)).all (fstI g) else if kndI g (q : Int) = 3 then decide (fldN g (q : Int) = []) else if kndI g (q : Int) = 1 then !(reachL g.ts.length (prtL g) (prtL g (q : Int))).contains (q : Int) else true):=rfl
 obtain ⟨c0,c1,c2,c3⟩:=hgb.cells
 unfold imC at HW0 HKd HFl HPa
 clear hw0 hb0 hgb hg hi
 unfold imV
 go_enter Tryd.func26,Tryd.ntmps26
 go_wp2_with (rw [← HW0.out])
 refine Calls.mono HKd.out ?_
 rintro e w1 ⟨rfl,hb1⟩
 have HB1 : Hid (Below w0.heap.size w0 w1):=hb1
 clear hb1 c0 c1 c2 c3 HKd
 obtain ⟨c0,c1,c2,c3⟩:=HC4.out w1 HB1.out
 generalize kndI g (q : Int) = kv at *
 go_wp2_with fail
 refine Calls.mono (HFl.out w1 HB1.out) ?_
 rintro e w2 ⟨fv,rfl,hf,hb2⟩
 have HB2 : Hid (Below w0.heap.size w0 w2):=bstep HB1.out hb2
 obtain ⟨L,hL⟩ : ∃ X,X = fldN g (q : Int):=⟨_,rfl⟩
 have HLE : Hid (L = fldN g (q : Int)):=hL
 rw [← hL] at hf HR
 have hll:=fldN_len g (q : Int)
 rw [← hL] at hll
 obtain ⟨la,lc,hfv,_,hlc⟩:=(show Is w2 fv L from hf.is).shape
 subst hfv
 have HOL : Hid (LiF w2 la L.length lc L):=LiF.of hf
 clear hf hb2 c0 c1 c2 c3 hL HFl
 go_wp2_with fail
 go_loopw [7] (fun z wr => ∃ i : Nat,i ≤ L.length∧z = .int .i64 i∧Hid (Below w2.heap.size w2 wr)∧Hid ((kv = 3 → i = 0)∧(kv = 2 → (L.take i).all (fstI g) = true))) (fun z _ => L.length - (intOf z).toNat)
 case atStart => exact ⟨0,Nat.zero_le _,rfl,Below.refl _ _,fun _ => rfl,fun _ => by simp⟩
 case round =>
  obtain ⟨i,hi2,rfl,HB,HA⟩:=hrel
  by_cases hil : i < L.length
  ·have hii : (i : Int) < (L.length : Int):=by omega
   by_cases hk3 : kv = 3
   ·subst hk3
    have HBad : Hid (szdB g (q : Int) = false):=by
     show _ = _
     rw [HR.out,if_neg (by decide),if_pos rfl,decide_eq_false_iff_not]
     intro e; rw [e] at hil; simp at hil
    clear HA
    go_wp2_with fail
    refine wp_region_held_drew (S:=(fun W : World => True)) (by kernel_rfl) (trivial) (fun hHeld => ?_)
    refine tY 0 opZ60 (.int .i64 3) hHeld ?_
    refine tY 1 opZ61 (.bool true) hHeld ?_
    refine tY 2 opZ62 (.bool true) hHeld ?_
    refine tN 3 opZ63 hHeld ?_
    refine tN 4 opZ64 hHeld ?_
    refine tN 5 opZ65 hHeld ?_
    refine tN 6 opZ66 hHeld ?_
    refine tN 7 opZ67 hHeld ?_
    refine tN 8 opZ68 hHeld ?_
    refine tN 9 opZ69 hHeld ?_
    refine tN 10 opZ610 hHeld ?_
    refine tN 11 opZ611 hHeld ?_
    refine tN 12 opZ612 hHeld ?_
    refine tN 13 opZ613 hHeld ?_
    refine tN 14 opZ614 hHeld ?_
    refine tN 15 opZ615 hHeld ?_
    refine tN 16 opZ616 hHeld ?_
    refine tY 17 opZ617 (.bool true) hHeld ?_
    refine wpAnyH_done (by kernel_rfl) ?_ _

    go_wp2_with fail
    go_ret
    exact ⟨ret_bool HBad.out.symm,bstep HB0.out (bstep HB2.out (Below.drewN HB.out 1))⟩
   ·by_cases hk2 : kv = 2
    ·subst hk2
     have HRr : Hid (szdB g (q : Int) = L.all (fstI g)):=by show _ = _; rw [HR.out,if_pos rfl]
     obtain ⟨A,hA,hAl⟩:=fldN_num (show L[i] ∈ fldN g (q : Int) by rw [← HLE.out]; exact List.getElem_mem hil)
     have hAi : (A : Int) < (g.fs.length : Int):=by omega
     have HYs : Hid (g.fs[A].st = true → (L.take (i + 1)).all (fstI g) = true):=fun h => all_step hil (HA.out.2 rfl) (by rw [hA,fstI_at hAl]; exact h)
     have HNo : Hid (g.fs[A].st = false → L.all (fstI g) = false):=fun h => all_no hil (by rw [hA,fstI_at hAl]; exact h)
     obtain ⟨gl,hgl⟩:=HOL.out.at0 hil
     obtain ⟨gl2,goff,hgl2,hgb,_,h6,h7,hc⟩:=(show Is wr (.slice la L.length lc) L from Sl.later HOL.out.is HB.out).at hil
     rw [hgl] at hgl2
     cases hgl2
     have cA:=hc i hil
     rw [hA,Nat.zero_add] at cA
     obtain ⟨tb,off,hta,h8,h9,hty⟩:=HG.out.fd (by intro e; rw [e] at hAl; simp at hAl)
     obtain ⟨c1,hd⟩:=hty wr (bstep HB2.out HB.out)
     obtain ⟨k0,k1,k2,k3,k4,k5,k6⟩:=(hd A hAl).cells_F
     unfold maxLen at h7 h9
     subst hgl
     clear hc hty hta hA hd HA hk3
     generalize g.fs[A].st = sv at *
     cases sv with
     | true =>
      have HA2 : Hid _:=HYs.out rfl
      clear HYs HNo
      go_wp2_with fail
      go_quiet (fail)
      go_wp2_with fail
      go_roundw
      case rel => exact ⟨i + 1,by omega,by go_num,Below.drewN HB.out _,fun h => absurd h (by decide),fun _ => HA2.out⟩
      case measure => simp [intOf]; omega
     | false =>
      have HBad : Hid _:=HNo.out rfl
      clear HYs HNo
      go_wp2_with fail
      go_quiet (fail)
      go_wp2_with fail
      go_ret
      exact ⟨ret_bool (by rw [HRr.out,HBad.out]),bstep HB0.out (bstep HB2.out (Below.drewN HB.out _))⟩
    ·have h3b : (kv == 3) = false:=by simpa using hk3
     have h2b : (kv == 2) = false:=by simpa using hk2
     have HK3 : Hid (¬ kv = 3):=hk3
     have HK2 : Hid (¬ kv = 2):=hk2
     clear HA hk3 hk2
     go_wp2_with fail
     refine wp_region_held_drew (S:=(fun W : World => True)) (by kernel_rfl) (trivial) (fun hHeld => ?_)
     refine tY 0 opZ60 (.int .i64 kv) hHeld ?_
     refine tY 1 opZ61 (.bool false) hHeld ?_
     refine tY 2 opZ62 (.bool false) hHeld ?_
     refine tY 3 opZ63 (.int .i64 kv) hHeld ?_
     refine tY 4 opZ64 (.bool false) hHeld ?_
     refine tY 5 opZ65 (.bool false) hHeld ?_
     refine tN 6 opZ66 hHeld ?_
     refine tN 7 opZ67 hHeld ?_
     refine tN 8 opZ68 hHeld ?_
     refine tN 9 opZ69 hHeld ?_
     refine tN 10 opZ610 hHeld ?_
     refine tN 11 opZ611 hHeld ?_
     refine tN 12 opZ612 hHeld ?_
     refine tN 13 opZ613 hHeld ?_
     refine tN 14 opZ614 hHeld ?_
     refine tN 15 opZ615 hHeld ?_
     refine tY 16 opZ616 (.bool false) hHeld ?_
     refine tY 17 opZ617 (.bool false) hHeld ?_
     refine wpAnyH_done (by kernel_rfl) ?_ _

     go_wp2_with fail
     go_roundw
     case rel => exact ⟨i + 1,by omega,by go_num,Below.drewN HB.out 1,fun h => absurd h HK3.out,fun h => absurd h HK2.out⟩
     case measure => simp [intOf]; omega
  ·have hii : ¬ (i : Int) < (L.length : Int):=by omega
   have HBr : Hid (Below w0.heap.size w0 wr):=bstep HB2.out HB.out
   by_cases hk1 : kv = 1
   ·subst hk1
    have HR1 : Hid (szdB g (q : Int) = !(reachL g.ts.length (prtL g) (prtL g (q : Int))).contains (q : Int)):=by show _ = _; rw [HR.out,if_neg (by decide),if_neg (by decide),if_pos rfl]
    obtain ⟨c0,c1,c2,c3⟩:=HC4.out wr HBr.out
    clear HA HB
    go_wp2_with fail
    refine Calls.mono (HPa.out wr _ HBr.out) ?_
    rintro e w3 ⟨pv,rfl,hp,hb3⟩
    have HB3 : Hid (Below w0.heap.size w0 w3):=bstep HBr.out hb3
    have HP : Hid (OwnI w3 wr.heap.size pv (prtL g (q : Int))):=hp
    have hpl:=prtL_len g (q : Int)
    clear hp hb3 c0 c1 c2 c3
    go_wp2_with (at_builtin; go_must (refine wpList_append_at rfl (.tmp 44) (.tmp 47) 40 40 rfl w3.heap.size 3 (.int .i64 0) 8 Tryd.underlying40 Tryd.infoInt7 rfl (v := .slice none 0 0) (y:=pv) (xs := []) rfl rfl (OwnV.nil _ _ _) (Sl.src HP.out.is Tryd.underlying40 (i64s_one _)) (by rw [i64s_length]; simp; unfold maxLen; omega) (by rw [i64s_length]; simp; omega) (Nat.le_refl _) ?_; intro v5 w5 ho5 hg5 hp5 hs5))
    have HO5 : Hid (OwnI w5 w3.heap.size v5 (prtL g (q : Int))):=ho5
    have HB5 : Hid (Below w3.heap.size w3 w5):=grown_none hg5
    clear ho5 hg5 hp5 hs5
    go_loopw [8,9,10,11] (fun lv z _ _ wr => ∃ (i : Nat) (M : List Int),i ≤ M.length∧z = .int .i64 i∧Hid (OwnI wr w3.heap.size lv M)∧Hid (Nd g.ts.length (prtL g (q : Int)).length M)∧Hid (goL g.ts.length (prtL g) ((prtL g (q : Int)).length + g.ts.length + 1 - i) i M = goL g.ts.length (prtL g) ((prtL g (q : Int)).length + g.ts.length + 1) 0 (prtL g (q : Int)))∧Hid (Below w3.heap.size w3 wr)) (fun _ z _ _ _ => (prtL g (q : Int)).length + g.ts.length + 1 - (intOf z).toNat)
    case atStart => exact ⟨0,_,Nat.zero_le _,rfl,HO5.out,prtL_nd _ _,rfl,HB5.out⟩
    case round =>
     obtain ⟨i,M,hiM,rfl,HO,HN,HGo,HB⟩:=hrel
     have hMl:=HN.out.len
     by_cases hil : i < M.length
     ·have hii : (i : Int) < (M.length : Int):=by omega
      obtain ⟨gl,capl,hlv,p1,p2,p3,p4,p5⟩:=HO.out.parts (by intro e; rw [e] at hil; simp at hil)
      have cq:=p5 i hil
      obtain ⟨j,hj,hjl⟩:=num_nat (HN.out.1 _ (List.getElem_mem hil))
      rw [hj] at cq
      have HG2 : Hid (goL g.ts.length (prtL g) ((prtL g (q : Int)).length + g.ts.length + 1 - (i + 1)) (i + 1) (comeL g.ts.length M (prtL g (j : Int))) = goL g.ts.length (prtL g) ((prtL g (q : Int)).length + g.ts.length + 1) 0 (prtL g (q : Int))):=by
       show _ = _
       rw [← HGo.out,show (prtL g (q : Int)).length + g.ts.length + 1 - i = ((prtL g (q : Int)).length + g.ts.length + 1 - (i + 1)) + 1 by omega,goL_next hil,hj]
      have HBr2 : Hid (Below w0.heap.size w0 wr):=bstep HB3.out HB.out
      have HK : Hid (∀ W,Below wr.heap.size wr W → W.cell? ⟨w.heap.size,0,none⟩ = some (.slice g.ta g.ts.length g.tc)∧W.cell? ⟨w.heap.size,1,none⟩ = some (.slice g.fa g.fs.length g.fc)∧W.cell? ⟨w.heap.size,2,none⟩ = some (.slice g.ma g.ms.length g.mc)∧W.cell? ⟨w.heap.size,3,none⟩ = some (.int .i64 g.en)∧W.cell? ⟨gl,i,none⟩ = some (.int .i64 j)):=fun W hW => by
       have h4:=HC4.out W (bstep HBr2.out hW)
       exact ⟨h4.1,h4.2.1,h4.2.2.1,h4.2.2.2,by rw [← cq]; exact hW.cell (p:=⟨gl,i,none⟩) p4⟩
      obtain ⟨e0,e1,e2,e3,e4⟩:=HK.out wr (Below.refl _ _)
      have HPj : Hid (∀ W,Below wr.heap.size wr W → Calls Tryd.prog 41 #[.agg #[.slice g.ta g.ts.length g.tc,.slice g.fa g.fs.length g.fc,.slice g.ma g.ms.length g.mc,.int .i64 g.en],.int .i64 j] W fun e w' => ∃ v,e = .returned v∧OwnI w' W.heap.size v (prtL g (j : Int))∧Below W.heap.size W w'):=fun W hW => HPa.out W _ (bstep HBr2.out hW)
      subst hlv
      unfold maxLen at p2
      clear p5 cq hj HGo
      go_wp2_with fail
      go_region_held3 (fun W : World => W.cell? ⟨w.heap.size,0,none⟩ = some (.slice g.ta g.ts.length g.tc)∧W.cell? ⟨w.heap.size,1,none⟩ = some (.slice g.fa g.fs.length g.fc)∧W.cell? ⟨w.heap.size,2,none⟩ = some (.slice g.ma g.ms.length g.mc)∧W.cell? ⟨w.heap.size,3,none⟩ = some (.int .i64 g.en)∧W.cell? ⟨gl,i,none⟩ = some (.int .i64 j))
       (first | (exact HK.out _ hBc) | (exact HK.out _ (bdrew _)))
       (first | (go_at_call 41; refine (HPj.out _ (bdrew _)).mono ?_; rintro e w6 ⟨mv,rfl,hm,hb6⟩; have hBc : Below wr.heap.size wr w6:=bstep (bdrew _) hb6))
      rename_i hheld
      clear hheld
      obtain ⟨X,hX⟩ : ∃ X,X = prtL g (j : Int):=⟨_,rfl⟩
      have HXn : Hid (∀ x ∈ X,numB x g.ts.length = true):=fun x hx => prtL_num (by rw [← hX]; exact hx)
      rw [← hX] at hm HG2
      have HO6 : Hid (OwnI w6 w3.heap.size (.slice (some ⟨gl,0,none⟩) M.length capl) M):=HO.out.later hBc
      have HB6 : Hid (Below w3.heap.size w3 w6):=bstep HB.out hBc
      have hAp : Apt w6 (.slice (some ⟨gl,0,none⟩) M.length capl) mv:=fun k hk => by
       have:=hm.block k hk
       refine ⟨this.2,fun e => ?_⟩
       simp [Value.ownBlock] at e
       have:=this.1
       simp at this
       omega
      obtain ⟨ma,mc,hmv,_,hmc⟩:=(show Is w6 mv X from hm.is).shape
      have HMv : Hid (Is w6 mv X∧Apt w6 (.slice (some ⟨gl,0,none⟩) M.length capl) mv):=⟨hm.is,hAp⟩
      subst hmv
      clear hm hAp hb6 hBc e0 e1 e2 e3 e4 hX HK HPj HO
      go_wp2_with fail
      go_loopw [8,11] (fun lv z wr => ∃ k : Nat,k ≤ X.length∧z = .int .i64 k∧Hid (OwnI wr w3.heap.size lv (comeL g.ts.length M (X.take k)))∧Hid (Nd g.ts.length (prtL g (q : Int)).length (comeL g.ts.length M (X.take k)))∧Hid (Is wr (.slice ma X.length mc) X∧Apt wr lv (.slice ma X.length mc))∧Hid (Below w3.heap.size w3 wr)) (fun _ z _ => X.length - (intOf z).toNat)
      case atStart => exact ⟨0,Nat.zero_le _,rfl,HO6.out,HN.out,HMv.out,HB6.out⟩
      case round =>
       clear HN HB
       obtain ⟨k,hk2,rfl,HO,HN,HM,HB⟩:=hrel
       by_cases hkl : k < X.length
       ·have hki : (k : Int) < (X.length : Int):=by omega
        obtain ⟨mb,moff,hma,hmb,_,h6,h7,hc⟩:=HM.out.1.at hkl
        have cx:=hc k hkl
        have HST : Hid (comeL g.ts.length M (X.take (k + 1)) = stepC g.ts.length (comeL g.ts.length M (X.take k)) X[k]):=comeL_take hkl
        have HNx : Hid (numB X[k] g.ts.length = true):=HXn.out _ (List.getElem_mem hkl)
        have HNn : Hid (Nd g.ts.length (prtL g (q : Int)).length (stepC g.ts.length (comeL g.ts.length M (X.take k)) X[k])):=HN.out.step _
        obtain ⟨M2,hM2⟩ : ∃ M2,M2 = comeL g.ts.length M (X.take k):=⟨_,rfl⟩
        rw [← hM2] at HO HST HNn HN
        have hm2:=HN.out.len
        subst hma
        unfold maxLen at h7
        clear hc hM2
        generalize X[k] = x at *
        go_wp2_with fail
        refine (refHas_any HO.out.is x).mono ?_
        rintro e wz ⟨rfl,hz⟩
        subst wz
        cases hh : M2.contains x with
        | true =>
         have HS2 : Hid (comeL g.ts.length M (X.take (k + 1)) = M2):=by show _ = _; rw [HST.out,stepC_old hh]
         clear hh cx
         go_wp2_with fail
         go_roundw
         case rel => exact ⟨k + 1,by omega,by go_num,by rw [HS2.out]; exact HO.out,by rw [HS2.out]; exact HN.out,HM.out,HB.out⟩
         case measure => simp [intOf]; omega
        | false =>
         have HS2 : Hid (comeL g.ts.length M (X.take (k + 1)) = M2 ++ [x]):=by show _ = _; rw [HST.out,stepC_new HNx.out hh]
         rw [stepC_new HNx.out hh] at HNn
         clear hh
         go_wp2_with (at_builtin; go_must (refine wpList_append_int_at (v:=u8) rfl (.tmp 74) (.tmp 79) rfl w3.heap.size rfl rfl (HO.out.later (made_below _ _ _)) (one_int wr x _ rfl) (by omega) (Nat.le_trans HB.out.size (made_below _ _ _).size) ?_; intro v7 w7 ho7 hg7 hp7; have hB7:=(bbox HB.out _).trans (grown_below11 (HO.out.later (made_below _ _ _)) hg7 (Nat.le_refl _) (Nat.le_trans HB.out.size (made_below _ _ _).size)); have hM7:=HM.out.2.add HM.out.1 rfl hg7 hp7))
         go_roundw
         case rel => exact ⟨k + 1,by omega,by go_num,by rw [HS2.out]; exact ho7,by rw [HS2.out]; exact HNn.out,hM7,hB7⟩
         case measure => simp [intOf]; omega
       ·have hki : ¬ (k : Int) < (X.length : Int):=by omega
        have HE : Hid (comeL g.ts.length M (X.take k) = comeL g.ts.length M X):=comeL_done hkl
        have hpre:=(comeL_pre g.ts.length (X.take k) M).length_le
        go_wp2_with fail
        go_roundw
        case rel => exact ⟨i + 1,_,by omega,by go_num,HO.out,HN.out,by rw [HE.out]; exact HG2.out,HB.out⟩
        case measure => simp [intOf]; omega
     ·obtain ⟨la5,lc5,hlv5,_,_⟩:=(show Is wr u8 M from HO.out.is).shape
      have hii : ¬ (i : Int) < (M.length : Int):=by omega
      have HE : Hid (M.contains (q : Int) = (reachL g.ts.length (prtL g) (prtL g (q : Int))).contains (q : Int)):=by
       show _ = _
       rw [← prt_has (q : Int) (show (prtL g (q : Int)).length + g.ts.length < (prtL g (q : Int)).length + g.ts.length + 1 by omega),← HGo.out,goL_end hil]
      have HHs : Hid (Calls Tryd.prog 36 #[u8,.int .i64 q] wr fun e w' => e = .returned (.bool (M.contains (q : Int)))∧w' = wr):=refHas_any HO.out.is _
      subst hlv5
      have HBr2 : Hid (Below w0.heap.size w0 wr):=bstep HB3.out HB.out
      clear HO HGo
      generalize M.contains (q : Int) = r at *
      go_wp2_with fail
      refine Calls.mono HHs.out ?_
      rintro e wz ⟨rfl,hz⟩
      subst wz
      go_wp2_with fail
      go_ret
      exact ⟨ret_bool (by rw [HR1.out,HE.out]),bstep HB0.out HBr2.out⟩
   ·have hkb : (kv != 1) = true:=by simpa using hk1
    have HT : Hid (szdB g (q : Int) = true):=by
     show _ = _
     rw [HR.out]
     by_cases h2 : kv = 2
     ·rw [if_pos h2]
      have:=HA.out.2 h2
      rwa [List.take_of_length_le (by omega)] at this
     ·rw [if_neg h2]
      by_cases h3 : kv = 3
      ·rw [if_pos h3,decide_eq_true_iff]
       have:=HA.out.1 h3
       exact List.eq_nil_of_length_eq_zero (by omega)
      ·rw [if_neg h3,if_neg hk1]
    clear HA hk1
    go_wp2_with fail
    go_ret
    exact ⟨ret_bool HT.out.symm,bstep HB0.out HBr.out⟩
end Go.Proofs.YtapocgcdjkbnhaaDoor
