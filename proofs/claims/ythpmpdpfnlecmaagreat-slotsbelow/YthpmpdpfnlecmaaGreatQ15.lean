/- Texts joined: ClearRow, Row13, Delete13, ChkKind11. -/
import Derived.Test.YthpmpdpfnlecmaaGreatQ01
import Derived.Laws.CopyRow
import Derived.Test.YthpmpdpfnlecmaaGreatQ09
import Derived.Test.YthpmpdpfnlecmaaGreatQ07
import Derived.Test.YthpmpdpfnlecmaaGreatQ14
import Derived.Test.YthpmpdpfnlecmaaGreatQ11
import Derived.Test.YthpmpdpfnlecmaaGreatQ12
namespace Go.Proofs.YthpmpdpfnlecmaaGreat
set_option linter.unusedVariables false
set_option linter.unusedSimpArgs false
open Go.RowKit
theorem run_clear_some {P : Program} (w : World) (t ty e : TypeId) (i : TypeInfo) (z : Value) (n : Nat) (zs : List Value) (ht : P.underlying t = some (.slice e)) (hi : P.info? e = some i) (hz : i.zero = some z) (hzs : (Builtin.zeroCells z.cells n).toList = zs) (h1 : ∀ v ∈ zs,v.oneCell' = true) (hn : 0 < n)
  (g o c : Nat) (cur : Array Value) (hg : At w g cur e) (ho : o + zs.length ≤ cur.size) :
  (Builtin.clear_ #[t] ty #[.slice (some ⟨g,o,none⟩) n c]).run P w = .ok (.tuple #[]) (w.setRow g (cur.toList.take o ++ zs ++ cur.toList.drop (o + zs.length)).toArray):=by
 have hst:=run_storeCells_at P g o e zs 0 cur w hg (by simpa using ho) h1
 simp only [Nat.add_zero] at hst
 obtain ⟨m,rfl⟩ : ∃ m,n = m + 1:=⟨n - 1,by omega⟩
 simp [Builtin.clear_,run_underlying ht,zeroValue,typeInfo,hi,hz,hzs,hst]

theorem below_row {base : Nat} (w : World) (g : Nat) (C : Array Value) (hg : base ≤ g) : Below base w (w.setRow g C) :=
 ⟨rfl,rfl,rfl,by simp,fun k hk => setRow_other w g k _ (by omega)⟩
def IRow (w : World) (base g cap : Nat) (A : List Int) : Prop:=OwnI w base (.slice (some ⟨g,0,none⟩) A.length cap) A
theorem IRow.at {w : World} {base g cap : Nat} {A : List Int} (h : IRow w base g cap A) : ∃ cur,At w g cur 3∧cur.size = cap∧A.length ≤ cap∧cap ≤ maxLen∧base ≤ g∧cur.toList.take A.length = i64s A:=by
 rcases h.2 with ⟨h0,_⟩ | ⟨g',cap',cur,he,hbg,hh,hn,hm,hs,ht⟩
 ·exact absurd h0 (by simp)
 ·simp only [Value.slice.injEq,Option.some.injEq,Addr.mk.injEq] at he
  obtain ⟨⟨rfl,_,_⟩,_,rfl⟩:=he
  rw [i64s_length] at hn ht
  rw [Nat.mul_one] at hs ht
  exact ⟨cur,hh,hs,hn,hm,hbg,ht⟩
theorem IRow.of_at {w : World} {base g cap : Nat} {A : List Int} {cur : Array Value} (h : At w g cur 3) (hs : cur.size = cap) (hn : A.length ≤ cap) (hm : cap ≤ maxLen) (hb : base ≤ g) (ht : cur.toList.take A.length = i64s A) : IRow w base g cap A :=
 ⟨by rw [i64s_length,Nat.mul_one],.inr ⟨g,cap,cur,by rw [i64s_length],hb,h,by rw [i64s_length]; exact hn,hm,by rw [Nat.mul_one]; exact hs,by rw [i64s_length,Nat.mul_one]; exact ht⟩⟩
theorem IRow.of {w : World} {base : Nat} {v : Value} {l : List Int} (h : OwnI w base v l) (hne : l ≠ []) : ∃ g cap,v = .slice (some ⟨g,0,none⟩) l.length cap∧IRow w base g cap l∧base ≤ g∧g < w.heap.size∧l.length ≤ cap∧cap ≤ maxLen:=by
 obtain ⟨g,cap,rfl,h1,h2,h3,h4,_⟩:=h.parts hne
 exact ⟨g,cap,rfl,h,h3,h4,h1,h2⟩
theorem IRow.later {w w' : World} {base g cap : Nat} {A : List Int} (h : IRow w base g cap A) (hb : Below w.heap.size w w') : IRow w' base g cap A:=OwnI.later h hb
theorem IRow.melt {w : World} {base g cap : Nat} {A : List Int} (h : IRow w base g cap A) : ∀ o,w.frozen? ⟨g,o,none⟩ = false:=by
 obtain ⟨cur,hA,_⟩:=h.at
 exact hA.melt
theorem IRow.cell {w : World} {base g cap : Nat} {A : List Int} (h : IRow w base g cap A) (i : Nat) (hi : i < A.length) : w.cell? ⟨g,i,none⟩ = some (.int .i64 A[i]):=by
 obtain ⟨g',cap',e,_,_,_,_,hc⟩:=OwnI.parts h (by intro e; rw [e] at hi; simp at hi)
 simp only [Value.slice.injEq,Option.some.injEq,Addr.mk.injEq] at e
 obtain ⟨⟨rfl,_,_⟩,_,rfl⟩:=e
 exact hc i hi
theorem IRow.set {w : World} {base g cap : Nat} {A : List Int} (h : IRow w base g cap A) (i : Nat) (x : Int) : IRow (w.setCell ⟨g,i,none⟩ (.int .i64 x)) base g cap (A.set i x):=by
 obtain ⟨cur,hA,hs,hn,hm,hb,ht⟩:=h.at
 refine IRow.of_at (hA.set i (.int .i64 x)) (by simpa using hs) (by simpa using hn) hm hb ?_
 rw [List.length_set]
 simp only [Array.toList_setIfInBounds,List.take_set,ht]
 simp [i64s,List.map_set]
theorem IRow.cleared {w : World} {base g cap : Nat} {A : List Int} (h : IRow w base g cap A) (kk m c : Nat) (hk : kk + m = A.length) (hm : 0 < m) :
  ∃ w',(∀ ty,(Builtin.clear_ #[31] ty #[.slice (some ⟨g,kk,none⟩) m c]).run Tryz.prog w = .ok (.tuple #[]) w')∧IRow w' base g cap (A.take kk)∧Below base w w':=by
 obtain ⟨cur,hA,hs,hn,hmm,hb,ht⟩:=h.at
 obtain ⟨i0,hi0,hz0,hz1,hz2⟩:=info_parts Tryz.infoInt7
 obtain ⟨zs,hzs⟩ : ∃ zs,(Builtin.zeroCells (Value.int .i64 0).cells m).toList = zs:=⟨_,rfl⟩
 have hzl : zs.length = m:=by
  rw [← hzs,Array.length_toList,size_zeroCells]
  simp [Value.cells]
 have hz1' : ∀ v ∈ zs,v.oneCell' = true:=by
  rw [← hzs]
  intro v hv
  simp only [Builtin.zeroCells,Array.toList_map,List.mem_map] at hv
  obtain ⟨i,_,rfl⟩:=hv
  show (#[Value.int .i64 0][i % 1]!).oneCell' = true
  rw [Nat.mod_one]; rfl
 have hcs : cur.toList.length = cap:=by rw [Array.length_toList]; exact hs
 refine ⟨_,fun ty => run_clear_some w 31 ty 3 i0 _ m zs Tryz.underlying31 hi0 hz0 hzs hz1' hm g kk c cur hA (by rw [hzl,hs]; omega), ?_,below_row w g _ hb⟩
 have hlt : (A.take kk).length = kk:=by rw [List.length_take]; omega
 refine IRow.of_at (cur:=(cur.toList.take kk ++ zs ++ cur.toList.drop (kk + zs.length)).toArray) (setRow_heap w g cur _ _ _ hA) ?_ (by omega) hmm hb ?_
 ·simp only [List.size_toArray,List.length_append,List.length_take,List.length_drop,hcs,hzl]; omega
 ·rw [hlt]
  show ((cur.toList.take kk ++ zs ++ cur.toList.drop (kk + zs.length))).take kk = _
  rw [List.append_assoc,List.take_append_of_le_length (by simp only [List.length_take,hcs]; omega),List.take_take,Nat.min_self]
  have h1 : (cur.toList.take A.length).take kk = (i64s A).take kk:=by rw [ht]
  rw [List.take_take,Nat.min_eq_left (by omega)] at h1
  rw [h1]
  simp [i64s,List.map_take]
end Go.Proofs.YthpmpdpfnlecmaaGreat

namespace Go.Proofs.YthpmpdpfnlecmaaGreat
set_option linter.unusedVariables false
set_option linter.unusedSimpArgs false
open Go.RowKit
attribute [local go_sem ↓] Go.wp_at_zero Go.wp_at_succ
theorem flt_next {L : List Int} {p : Int → Bool} {j : Nat} (hj : j < L.length) : (L.take (j + 1)).filter p = (L.take j).filter p ++ (if p L[j] = true then [L[j]] else []):=by
 rw [List.take_succ_eq_append_getElem hj,List.filter_append]
 congr 1
 cases h : p L[j] <;> simp [List.filter_cons,h]
theorem flt_all {L : List Int} {p : Int → Bool} (h : L.any p = false) : L.filter (fun x => !p x) = L:=by
 rw [List.filter_eq_self]
 intro x hx
 rw [List.any_eq_false] at h
 simp [h x hx]
theorem flt_first {L : List Int} {p : Int → Bool} {q : Nat} (hq : q < L.length) (h : (L.take q).any p = false) (hp : p L[q] = true) : (L.take (q + 1)).filter (fun x => !p x) = L.take q:=by
 rw [flt_next hq,flt_all h,hp]; simp

set_option maxHeartbeats 8000000 in
theorem delete13_any {w0 w : World} {v : Value} {L : List Int} {f : FuncId} {bs cs : Array Value} {p : Int → Bool} (h : OwnI w w0.heap.size v L) (hb : Below w0.heap.size w0 w) (hf : Tells Tryz.prog intV w0 f bs cs p L) (hl : L.length ≤ 100000) :
  Calls Tryz.prog 137 #[v,.func (.func f) bs cs] w fun e w' => ∃ v',e = .returned v'∧OwnI w' w0.heap.size v' (L.filter (fun x => !p x))∧Below w0.heap.size w0 w':=by
 have hen:=hf.enter
 have HIx : Hid (Calls Tryz.prog 183 #[v,.func (.func f) bs cs] w fun e w' => e = .returned (.int .i64 (fidI p L))∧Below w.heap.size w w'):=indexF13_any h.is (hf.later hb)
 have HF : Hid (Tells Tryz.prog intV w0 f bs cs p L):=hf
 have HB : Hid (Below w0.heap.size w0 w):=hb
 rcases fid_cases p L with ⟨hk,hany⟩ | ⟨q,hq,hk,hpq,hany⟩
 ·rw [hk] at HIx
  have HO : Hid (OwnI w w0.heap.size v L):=h
  have HL : Hid (L.filter (fun x => !p x) = L):=flt_all hany
  obtain ⟨sa,sc,hv,_,_⟩:=h.is.shape
  subst hv
  clear hk hany h hf hb hen
  go_enter Tryz.func137,Tryz.ntmps137
  go_wp2_with fail
  refine Calls.mono HIx.out ?_
  rintro e w1 ⟨rfl,hb1⟩
  have HO1 : Hid (OwnI w1 w0.heap.size (.slice sa L.length sc) L):=HO.out.later hb1
  have HB1 : Hid (Below w0.heap.size w0 w1):=bstep HB.out hb1
  clear hb1
  go_wp2_with fail
  go_ret
  exact ⟨_,rfl,by rw [HL.out]; exact HO1.out,HB1.out⟩
 ·rw [hk] at HIx
  have HFst : Hid (((L.take (q + 1)).filter (fun x => !p x)) = L.take q):=flt_first hq hany hpq
  obtain ⟨g,cap,hv,hrow,hg0,hgs,hlc,hcm⟩:=IRow.of h (by intro e; rw [e] at hq; simp at hq)
  subst hv
  unfold maxLen at hcm
  have HR : Hid (IRow w w0.heap.size g cap L):=hrow
  have HG0 : Hid (w0.heap.size ≤ g):=hg0
  have hqi : ((q : Int) == -1) = false:=by rw [beq_eq_false_iff_ne]; omega
  clear hk hany h hf hb hrow hpq hgs hg0
  go_enter Tryz.func137,Tryz.ntmps137
  go_wp2_with fail
  refine Calls.mono HIx.out ?_
  rintro e w1 ⟨rfl,hb1⟩
  have HR1 : Hid (IRow w1 w0.heap.size g cap L):=HR.out.later hb1
  have HB1 : Hid (Below w0.heap.size w0 w1):=bstep HB.out hb1
  clear hb1 HIx
  go_wp2_with fail
  go_loopw [5,6,7] (fun z5 z6 _ wr => ∃ (j kk : Nat) (A : List Int),j ≤ L.length∧kk < j∧z6 = .int .i64 (j : Int)∧z5 = .int .i64 (kk : Int)∧Hid (IRow wr w0.heap.size g cap A)∧Hid (Below w0.heap.size w0 wr)∧Hid (A.length = L.length∧A.take kk = (L.take j).filter (fun x => !p x)∧kk = ((L.take j).filter (fun x => !p x)).length∧A.drop j = L.drop j)) (fun _ z _ _ => L.length - (intOf z).toNat)
  case atStart => exact ⟨q + 1,q,L,by omega,by omega,by go_num,rfl,HR1.out,HB1.out,rfl,HFst.out.symm,by rw [HFst.out,List.length_take]; omega,rfl⟩
  case round =>
   obtain ⟨j,kk,A,hj,hkj,rfl,rfl,HRw,HBw,HI⟩:=hrel
   obtain ⟨i1,i2,i3,i4⟩:=HI.out
   by_cases hjl : j < L.length
   ·have hji : (j : Int) < (L.length : Int):=by omega
    have hjA : j < A.length:=by omega
    have gx : A[j] = L[j]:=by
     have:=congrArg (fun t => t[0]?) i4
     simp only [List.getElem?_drop,Nat.add_zero] at this
     rw [List.getElem?_eq_getElem hjA,List.getElem?_eq_getElem hjl] at this
     exact Option.some.inj this
    have cj:=HRw.out.cell j hjA
    rw [gx] at cj
    have HDt : Hid ((L.take (j + 1)).filter (fun x => !p x) = (L.take j).filter (fun x => !p x) ++ (if (!p L[j]) = true then [L[j]] else [])):=flt_next hjl
    have HDr : Hid (A.drop (j + 1) = L.drop (j + 1)):=by
     show _ = _
     have:=congrArg (fun t => t.drop 1) i4
     simpa [List.drop_drop] using this
    have HTl : Hid (Calls Tryz.prog f (bs.push (intV L[j]) ++ cs) wr fun e w' => e = .returned (.bool (p L[j]))∧Below wr.heap.size wr w'):=HF.out.tells wr HBw.out _ (List.getElem_mem hjl)
    have hkA : kk < A.length:=by omega
    have hki : (kk : Int) < (L.length : Int):=by omega
    have HI1 : Hid (A.length = L.length):=i1
    have HI2 : Hid (A.take kk = (L.take j).filter (fun x => !p x)):=i2
    have HI3 : Hid (kk = ((L.take j).filter (fun x => !p x)).length):=i3
    clear gx i1 i2 i3 i4 HI
    generalize L[j] = x at *
    cases hpx : p x with
    | true =>
     have HDe : Hid ((L.take (j + 1)).filter (fun x => !p x) = (L.take j).filter (fun x => !p x)):=by show _ = _; rw [HDt.out,hpx]; simp
     rw [hpx] at HTl
     clear hpx HDt hkA hjA
     go_wp2_with fail
     refine Calls.mono HTl.out ?_
     rintro e w2 ⟨rfl,hb2⟩
     have HR2 : Hid (IRow w2 w0.heap.size g cap A):=HRw.out.later hb2
     have HB2 : Hid (Below w0.heap.size w0 w2):=bstep HBw.out hb2
     clear hb2 HTl cj
     go_wp2_with fail
     go_roundw
     case rel => exact ⟨j + 1,kk,A,by omega,by omega,by go_num,rfl,HR2.out,HB2.out,HI1.out,by rw [HDe.out]; exact HI2.out,by rw [HDe.out]; exact HI3.out,HDr.out⟩
     case measure => simp [intOf]; omega
    | false =>
     have HDe : Hid ((L.take (j + 1)).filter (fun x => !p x) = (L.take j).filter (fun x => !p x) ++ [x]):=by show _ = _; rw [HDt.out,hpx]; simp
     rw [hpx] at HTl
     clear hpx HDt
     go_wp2_with fail
     refine Calls.mono HTl.out ?_
     rintro e w2 ⟨rfl,hb2⟩
     have HR2 : Hid (IRow w2 w0.heap.size g cap A):=HRw.out.later hb2
     have HB2 : Hid (Below w0.heap.size w0 w2):=bstep HBw.out hb2
     clear hb2 HTl cj
     obtain ⟨old,ck⟩ : ∃ old,w2.cell? ⟨g,kk,none⟩ = some (.int .i64 old):=⟨_,HR2.out.cell kk hkA⟩
     have hm:=HR2.out.melt
     have HR3 : Hid (IRow (w2.setCell ⟨g,kk,none⟩ (.int .i64 x)) w0.heap.size g cap (A.set kk x)):=HR2.out.set kk x
     have HB3 : Hid (Below w0.heap.size w0 (w2.setCell ⟨g,kk,none⟩ (.int .i64 x))):=HB2.out.setCell HG0.out _
     have HF1 : Hid ((A.set kk x).length = L.length):=by show _ = _; rw [List.length_set]; exact HI1.out
     have HF2 : Hid ((A.set kk x).take (kk + 1) = (L.take (j + 1)).filter (fun x => !p x)):=by
      show _ = _
      rw [HDe.out,← HI2.out,List.take_succ_eq_append_getElem (by rw [List.length_set]; exact hkA),List.take_set_of_le (Nat.le_refl _)]
      simp
     have HF3 : Hid (kk + 1 = ((L.take (j + 1)).filter (fun x => !p x)).length):=by show _ = _; rw [HDe.out,List.length_append,← HI3.out]; rfl
     have HF4 : Hid ((A.set kk x).drop (j + 1) = L.drop (j + 1)):=by
      show _ = _
      rw [List.drop_set_of_lt (by omega)]
      exact HDr.out
     clear hkA hjA
     go_wp2_with fail
     go_roundw
     case rel => exact ⟨j + 1,kk + 1,A.set kk x,by omega,by omega,by go_num,by go_num,HR3.out,HB3.out,HF1.out,HF2.out,HF3.out,HF4.out⟩
     case measure => simp [intOf]; omega
   ·have hji : ¬ (j : Int) < (L.length : Int):=by omega
    have hjf : j = L.length:=by omega
    have hdl : A.take kk = L.filter (fun x => !p x):=by rw [i2,hjf,List.take_length]
    have hkl : kk = (A.take kk).length:=by rw [List.length_take]; omega
    have hkk : kk < L.length:=by omega
    have hki : (kk : Int) ≤ (L.length : Int):=by omega
    have HEs : Hid (Es intE wr (.slice (some ⟨g,0,none⟩) L.length cap) A):=by
     have:=(show OwnI wr w0.heap.size (.slice (some ⟨g,0,none⟩) A.length cap) A from HRw.out).is.toEs
     rw [i1] at this; exact this
    obtain ⟨a3,ca3,hs3',_,_,ha3⟩:=slice_fromE (P:=Tryz.prog) (show Es intE wr (.slice (some ⟨g,0,none⟩) A.length cap) A by rw [i1]; exact HEs.out) kk (by omega) 31 3 Tryz.underlying31 (by kernel_rfl)
    obtain rfl:=ha3 g 0 rfl (by omega)
    have hs3 : ∀ (W : World) (k : IntKind),(Instr.slice 31 (.slice (some ⟨g,0,none⟩) L.length cap) (some (.int k (kk : Int))) none none).run Tryz.prog W = .ok (.slice (some ⟨g,kk,none⟩) (L.length - kk) ca3) W:=fun W k => by
     have:=hs3' W k
     rw [i1] at this
     rw [this]
     have h0 : 0 + kk * intE.size = kk:=by rw [Nat.zero_add]; exact Nat.mul_one kk
     rw [h0]
    obtain ⟨wc,hcl,hrc,hbc⟩:=HRw.out.cleared kk (L.length - kk) ca3 (by omega) (by omega)
    have HG1 : Hid (OwnI wc w0.heap.size (.slice (some ⟨g,0,none⟩) kk cap) (L.filter (fun x => !p x))):=by
     have : OwnI wc w0.heap.size (.slice (some ⟨g,0,none⟩) (A.take kk).length cap) (A.take kk):=hrc
     rw [← hkl,hdl] at this
     exact this
    have HG2 : Hid (Below w0.heap.size w0 wc):=HBw.out.trans hbc
    have hs4 : ∀ (W : World) (k : IntKind),(Instr.slice 31 (.slice (some ⟨g,0,none⟩) L.length cap) none (some (.int k (kk : Int))) none).run Tryz.prog W = .ok (.slice (some ⟨g,0,none⟩) kk cap) W:=by
     have:=(slice_toE (P:=Tryz.prog) (show Es intE wr (.slice (some ⟨g,0,none⟩) A.length cap) A by rw [i1]; exact HEs.out) kk (by omega) 31 3 Tryz.underlying31 (by kernel_rfl)).1
     rw [i1] at this
     exact this
    clear hrc hbc hs3' ha3 hdl hkl hjf i1 i2 i3 i4 HI HEs hkk
    go_wp2_with fail
    go_ret
    exact ⟨_,rfl,HG1.out,HG2.out⟩
theorem and_asked0 : ∀ f : Fin 32,((bits .and .i64 (f.val : Int) 29 == 4) = (bitB (f.val : Int) 4 && !bitB (f.val : Int) 1 && !bitB (f.val : Int) 8 && !bitB (f.val : Int) 16))∧((bits .and .i64 (f.val : Int) 28 == 8) = (bitB (f.val : Int) 8 && !bitB (f.val : Int) 4 && !bitB (f.val : Int) 16))∧((bits .and .i64 (f.val : Int) 12 == 8) = (bitB (f.val : Int) 8 && !bitB (f.val : Int) 4)):=by decide +kernel
theorem and_asked {f : Int} (h : 0 ≤ f∧f ≤ 31) : ((bits .and .i64 f 29 == 4) = (bitB f 4 && !bitB f 1 && !bitB f 8 && !bitB f 16))∧((bits .and .i64 f 28 == 8) = (bitB f 8 && !bitB f 4 && !bitB f 16))∧((bits .and .i64 f 12 == 8) = (bitB f 8 && !bitB f 4)):=by
 have:=and_asked0 ⟨f.toNat,by omega⟩
 have e : ((f.toNat : Nat) : Int) = f:=by omega
 simp only [e] at this
 exact this
theorem kindF_four (f : Int) : kindF f = 0 ∨ kindF f = 2 ∨ kindF f = 1 ∨ kindF f = 3:=by
 unfold kindF
 split
 ·simp
 ·split
  ·simp
  ·split <;> simp

set_option maxHeartbeats 4000000 in
theorem ofKind_any {g : Img} {q : Nat} {w : World} (hg : Im w g) (hi : imB g = true) (hq : q < g.ts.length) :
  Calls Tryz.prog 108 #[imV g,.int .i64 q] w fun e w' => e = .returned (.bool (flgF g.ts[q].fl g.ts[q].ex))∧Below w.heap.size w w':=by
 obtain ⟨w0,hw0⟩ : ∃ W,W = w.alloc (.cells (imC g) 26):=⟨_,rfl⟩
 have HW0 : Hid (w0 = _):=hw0
 obtain ⟨hb0,hgb⟩:=GB.made hg hw0
 have HB0 : Hid (Below w.heap.size w w0):=hb0
 have hfq:=FlOk.of hi _ (List.getElem_mem hq)
 have HKd : Hid (Calls Tryz.prog 16 #[.agg (imC g),.int .i64 q] w0 fun e w' => e = .returned (.int .i64 (kindF g.ts[q].fl))∧Below w0.heap.size w0 w'):=by
  have:=kind_any (q : Int) hgb.im (FlOk.of hi)
  rwa [knd_at hq] at this
 obtain ⟨tb,off,hta,h8,h9,hty⟩:=hgb.ty (by intro e; rw [e] at hq; simp at hq)
 have HTY : Hid (∀ W,Below w0.heap.size w0 W → W.cell? ⟨w.heap.size,0,none⟩ = some (.slice (some ⟨tb,off,none⟩) g.ts.length g.tc)∧W.cell? ⟨tb,off + q * 4,none⟩ = some (.string g.ts[q].nm)∧W.cell? ⟨tb,off + q * 4 + 1,none⟩ = some (.int .i64 g.ts[q].fl)∧W.cell? ⟨tb,off + q * 4 + 2,none⟩ = some (.int .i64 g.ts[q].ex)∧W.cell? ⟨tb,off + q * 4 + 3,none⟩ = some (.slice g.ts[q].fa g.ts[q].fs.length g.ts[q].fc)):=fun W hW => ⟨(hty W hW).1,(hty W hW).2 q hq⟩
 obtain ⟨c0,c1,c2,c3⟩:=hgb.cells
 have hqi : (q : Int) < (g.ts.length : Int):=by omega
 obtain ⟨ha1,ha2,ha3⟩:=and_asked hfq
 unfold imC at HW0 HKd
 unfold maxLen at h9
 rw [hta] at HKd c0 HW0
 clear hw0 hb0 hgb hg hi hfq hty
 unfold imV
 rw [hta]
 clear hta
 generalize g.ts[q] = x at *
 obtain ⟨f,hf⟩ : ∃ f,f = x.fl:=⟨_,rfl⟩
 rw [← hf] at HKd ha1 ha2 ha3 HTY
 rw [← hf]
 clear hf
 go_enter Tryz.func108,Tryz.ntmps108
 go_wp2_with (rw [← HW0.out])
 refine Calls.mono HKd.out ?_
 rintro e w1 ⟨rfl,hb1⟩
 have HB1 : Hid (Below w0.heap.size w0 w1):=hb1
 obtain ⟨d0,k0,k1,k2,k3⟩:=HTY.out w1 hb1
 obtain ⟨w2,hw2⟩ : ∃ W,W = w1.alloc (.cells #[.string x.nm,.int .i64 f,.int .i64 x.ex,.slice x.fa x.fs.length x.fc] 34):=⟨_,rfl⟩
 have HW2 : Hid (w2 = _):=hw2
 have hA : At w2 w1.heap.size #[.string x.nm,.int .i64 f,.int .i64 x.ex,.slice x.fa x.fs.length x.fc] 34:=by rw [hw2]; exact At.made _ _ _
 have HB2 : Hid (Below w.heap.size w w2):=bstep HB0.out (bstep HB1.out (by rw [hw2]; exact made_below _ _ _))
 have e1:=hA.cell 1
 have e2:=hA.cell 2
 simp at e1 e2
 clear hA hw2 hb1 c0 c1 c2 c3 HKd HTY
 rcases kindF_four f with hk | hk | hk | hk
 ·have HR : Hid (flgF f x.ex = true):=by show _ = _; unfold flgF; rw [hk]; rfl
  rw [hk]
  clear hk
  go_wp2_with (rw [← HW2.out])
  go_ret
  exact ⟨ret_bool HR.out.symm,bstep HB0.out HB1.out⟩
 ·have HR : Hid (flgF f x.ex = (decide (x.ex = -1) && (bits .and .i64 f 29 == 4))):=by show _ = _; unfold flgF; rw [if_pos hk,ha1]
  rw [hk]
  clear hk ha1 ha2 ha3
  obtain ⟨b,hb⟩ : ∃ b,b = (bits .and .i64 f 29 == 4):=⟨_,rfl⟩
  rw [← hb] at HR
  cases b with
  | false =>
   have hb':=hb.symm
   clear hb
   go_wp2_with (rw [← HW2.out])
   go_ret
   exact ⟨ret_bool (by rw [HR.out]; simp),HB2.out⟩
  | true =>
   have hb':=hb.symm
   clear hb
   go_wp2_with (rw [← HW2.out])
   go_ret
   exact ⟨ret_bool (by rw [HR.out,Bool.and_true,Bool.eq_iff_iff]; simp),HB2.out⟩
 ·have HR : Hid (flgF f x.ex = (decide (x.ex = -1) && (bits .and .i64 f 28 == 8))):=by show _ = _; unfold flgF; rw [hk,if_neg (by decide),if_pos rfl,ha2]
  rw [hk]
  clear hk ha1 ha2 ha3
  obtain ⟨b,hb⟩ : ∃ b,b = (bits .and .i64 f 28 == 8):=⟨_,rfl⟩
  rw [← hb] at HR
  cases b with
  | false =>
   have hb':=hb.symm
   clear hb
   go_wp2_with (rw [← HW2.out])
   go_ret
   exact ⟨ret_bool (by rw [HR.out]; simp),HB2.out⟩
  | true =>
   have hb':=hb.symm
   clear hb
   go_wp2_with (rw [← HW2.out])
   go_ret
   exact ⟨ret_bool (by rw [HR.out,Bool.and_true,Bool.eq_iff_iff]; simp),HB2.out⟩
 ·have HR : Hid (flgF f x.ex = (decide (x.ex = -1) && (bits .and .i64 f 12 == 8))):=by show _ = _; unfold flgF; rw [hk,if_neg (by decide),if_neg (by decide),if_pos rfl,ha3]
  rw [hk]
  clear hk ha1 ha2 ha3
  obtain ⟨b,hb⟩ : ∃ b,b = (bits .and .i64 f 12 == 8):=⟨_,rfl⟩
  rw [← hb] at HR
  cases b with
  | false =>
   have hb':=hb.symm
   clear hb
   go_wp2_with (rw [← HW2.out])
   go_ret
   exact ⟨ret_bool (by rw [HR.out]; simp),HB2.out⟩
  | true =>
   have hb':=hb.symm
   clear hb
   go_wp2_with (rw [← HW2.out])
   go_ret
   exact ⟨ret_bool (by rw [HR.out,Bool.and_true,Bool.eq_iff_iff]; simp),HB2.out⟩
end Go.Proofs.YthpmpdpfnlecmaaGreat
