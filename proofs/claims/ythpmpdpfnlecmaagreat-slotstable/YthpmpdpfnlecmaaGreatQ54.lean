/- Texts joined: OpenIm10, Long10, LayPlace. -/
import Derived.Test.YthpmpdpfnlecmaaGreatQ53
import Derived.Test.YthpmpdpfnlecmaaGreatQ08
import Derived.ChangeArms
import Derived.Test.YthpmpdpfnlecmaaGreatQ34
import Derived.Test.YthpmpdpfnlecmaaGreatQ49
import Derived.Deep.RegionHeld3
namespace Go.Proofs.YthpmpdpfnlecmaaGreat
set_option linter.unusedVariables false
set_option linter.unusedSimpArgs false
open Go.ChangeShapes Go.WideShapes Go.ChangeAt Go.RowKit
theorem openEs2 {α : Type} (E : Enc α) (dft : α) {Q : α → Prop} {P : Program} {H : Type} {enc : TypeId × Value → H} {W : World} {v : Value} {n : Nat} {y : DataW H × List MemPlace} (ts t : TypeId) (ht : P.underlying ts = some (.slice t)) (hcells : P.cellsOf t = E.size)
  (hel : ∀ (cs : List Value) (n : Nat) (y : DataW H × List MemPlace),cs.length = E.size → DataW.trod enc P W 0 (fun _ => true) true n t cs = some y → ∃ x,cs = E.cells x∧Q x)
  (h : DataW.trod enc P W 0 (fun _ => true) true n ts [v] = some y) : ∃ l,Es E W v l∧∀ x ∈ l,Q x:=by
 haveI : Inhabited α:=⟨dft⟩
 rcases Go.Deep.open_slice ht h with ⟨hcs,_⟩ | ⟨a,len,cap,m,k,D,Pl,hcs,_,hl,hm,hmm,_,hx⟩
 ·simp at hcs
  subst hcs
  exact ⟨[],Es.nil E W,fun x hx => by simp at hx⟩
 ·simp at hcs
  subst hcs
  simp only [if_true] at hmm
  rw [hcells] at hx
  obtain ⟨f,hf⟩:=Go.Deep.choose_lt (n:=len) (p:=fun i (x : α) => (∀ j u,(E.cells x)[j]? = some u → W.cell? (a.add (i * E.size + j)) = some u)∧Q x) fun i hi => by
   obtain ⟨cs',h1,h2⟩:=hx i (by omega)
   obtain ⟨_,hlen,h3⟩:=World.cells?_some h1
   obtain ⟨x,hxc,hq⟩:=hel _ _ _ (by simpa using hlen) h2
   refine ⟨x,fun j u hj => ?_,hq⟩
   have hjl : j < E.size:=by rw [← E.len x]; exact (List.getElem?_eq_some_iff.1 hj).1
   have g:=h3 j hjl
   rw [Go.Deep.add_add a (i * E.size) j] at g
   rw [g]
   have hx2 : cs'[j]? = some u:=by
    have:=congrArg (fun t => t[j]?) hxc
    rw [hj] at this
    simpa using this
   exact hx2
  have hQ : ∀ x ∈ (List.range len).map f,Q x:=fun x hx => by
   simp only [List.mem_map,List.mem_range] at hx
   obtain ⟨i,hi,rfl⟩:=hx
   exact (hf i hi).2
  refine ⟨(List.range len).map f,⟨some a,cap,by simp,by simpa using hl,hm,fun hne => ?_⟩,hQ⟩
  have hpos : 0 < len:=by
   rcases Nat.eq_zero_or_pos len with h | h
   ·subst h; simp at hne
   ·exact h
  obtain ⟨u0,hu0⟩ : ∃ u,(E.cells (f 0))[0]? = some u:=by
   have:=E.pos
   rw [← E.len (f 0)] at this
   exact ⟨_,List.getElem?_eq_getElem this⟩
  have h0:=(hf 0 hpos).1 0 u0 hu0
  obtain ⟨b,off,spot⟩:=a
  have hspot : spot = none:=by simpa [Addr.add] using World.cell?_spot h0
  subst hspot
  have hplain : ∀ i,(⟨b,off,none⟩ : Addr).add i = ⟨b,off + i,none⟩:=fun i => by unfold Addr.add; split <;> simp_all
  have hb : b < W.heap.size:=by have:=World.block_lt_of_cell? W _ h0; simpa [Addr.add] using this
  have hes : Es E W (.slice (some ⟨b,off,none⟩) ((List.range len).map f).length cap) ((List.range len).map f):=by
   refine Es.of_parts (by simpa using hl) hm hb fun i hi j u hj => ?_
   simp only [List.length_map,List.length_range] at hi
   simp only [List.getElem_map,List.getElem_range] at hj
   have:=(hf i hi).1 j u hj
   rw [hplain,← Nat.add_assoc] at this
   exact this
  obtain ⟨_,_,he,_,_,h3⟩:=hes
  simp only [Value.slice.injEq] at he
  obtain ⟨rfl,_,_⟩:=he
  exact h3 hne

theorem openTy10 {H : Type} {enc : TypeId × Value → H} {W : World} {v : Value} {n : Nat} {y : DataW H × List MemPlace}
  (h : DataW.trod enc Tryz.prog W 0 (fun _ => true) true n 49 [v] = some y) : ∃ l a c,v = .slice a l.length c∧Es tyE W v l:=by
 obtain ⟨l,hl⟩:=openEs1 tyE (0,0,0,false) 49 51 Tryz.underlying49 Tryz.cellsTy (fun cs n y _ h => tyCells h) h
 obtain ⟨a,c,hv,_,_⟩:=hl.shape
 exact ⟨l,a,c,hv,hl⟩
theorem openInt10 {H : Type} {enc : TypeId × Value → H} {W : World} {v : Value} {n : Nat} {y : DataW H × List MemPlace}
  (h : DataW.trod enc Tryz.prog W 0 (fun _ => true) true n 31 [v] = some y) : ∃ l a c,v = .slice a l.length c∧Es intE W v l:=by
 obtain ⟨l,hl⟩:=openEs1 intE 0 31 3 Tryz.underlying31 Tryz.cellsInt (fun cs n y _ h => by
  obtain ⟨x,e,_,_⟩:=DataW.trod_int Tryz.underlying3 h
  exact ⟨x,e⟩) h
 obtain ⟨a,c,hv,_,_⟩:=hl.shape
 exact ⟨l,a,c,hv,hl⟩
theorem openIns10 {H : Type} {enc : TypeId × Value → H} {W : World} {v : Value} {n : Nat} {y : DataW H × List MemPlace}
  (h : DataW.trod enc Tryz.prog W 0 (fun _ => true) true n 52 [v] = some y) : ∃ l a c,v = .slice a l.length c∧Es insE W v l:=by
 obtain ⟨l,hl⟩:=openEs1 insE (0,0,0,0,0,false) 52 89 Tryz.underlying52 Tryz.cellsInstr (fun cs n y hl h => insCells hl h) h
 obtain ⟨a,c,hv,_,_⟩:=hl.shape
 exact ⟨l,a,c,hv,hl⟩
theorem openCl10 {H : Type} {enc : TypeId × Value → H} {W : World} {v : Value} {n : Nat} {y : DataW H × List MemPlace}
  (h : DataW.trod enc Tryz.prog W 0 (fun _ => true) true n 53 [v] = some y) : ∃ l a c,v = .slice a l.length c∧Es clE9 W v l:=by
 obtain ⟨l,hl⟩:=openEs1 clE9 ⟨1,0,2,2,4, -1,0,0,0,false⟩ 53 101 Tryz.underlying53 Tryz.cellsClause clauseCells h
 obtain ⟨a,c,hv,_,_⟩:=hl.shape
 exact ⟨l,a,c,hv,hl⟩

theorem Tryz.cellsTD : Tryz.prog.cellsOf 34 = 4:=by kernel_rfl
theorem Tryz.cellsFD : Tryz.prog.cellsOf 75 = 7:=by kernel_rfl
theorem Tryz.cellsMD : Tryz.prog.cellsOf 55 = 12:=by kernel_rfl
theorem Tryz.cellsIm : Tryz.prog.cellsOf 26 = 4:=by kernel_rfl
theorem Tryz.cellsStr : Tryz.prog.cellsOf 9 = 1:=by kernel_rfl
theorem Tryz.cellsSInt : Tryz.prog.cellsOf 31 = 1:=by kernel_rfl
theorem Tryz.cellsSTy : Tryz.prog.cellsOf 49 = 1:=by kernel_rfl
theorem Tryz.cellsSIns : Tryz.prog.cellsOf 52 = 1:=by kernel_rfl
theorem Tryz.cellsSCl : Tryz.prog.cellsOf 53 = 1:=by kernel_rfl
theorem Tryz.cellsSTD : Tryz.prog.cellsOf 22 = 1:=by kernel_rfl
theorem Tryz.cellsSFD : Tryz.prog.cellsOf 23 = 1:=by kernel_rfl
theorem Tryz.cellsSMD : Tryz.prog.cellsOf 24 = 1:=by kernel_rfl

theorem list12 {α : Type} {cs : List α} (h : cs.length = 12) : ∃ c0 c1 c2 c3 c4 c5 c6 c7 c8 c9 c10 c11,cs = [c0,c1,c2,c3,c4,c5,c6,c7,c8,c9,c10,c11]:=by
 match cs,h with
 | [c0,c1,c2,c3,c4,c5,c6,c7,c8,c9,c10,c11],_ => exact ⟨c0,c1,c2,c3,c4,c5,c6,c7,c8,c9,c10,c11,rfl⟩
theorem list9 {α : Type} {cs : List α} (h : cs.length = 9) : ∃ c0 c1 c2 c3 c4 c5 c6 c7 c8,cs = [c0,c1,c2,c3,c4,c5,c6,c7,c8]:=by
 match cs,h with
 | [c0,c1,c2,c3,c4,c5,c6,c7,c8],_ => exact ⟨c0,c1,c2,c3,c4,c5,c6,c7,c8,rfl⟩

theorem tdCells {H : Type} {enc : TypeId × Value → H} {W : World} (cs : List Value) (n : Nat) (y : DataW H × List MemPlace) (hl : cs.length = 4)
  (h : DataW.trod enc Tryz.prog W 0 (fun _ => true) true n 34 cs = some y) : ∃ x : TD,cs = tdC x∧x.ok W∧x.nm.size ≤ maxLen:=by
 obtain ⟨c0,c1,c2,c3,rfl⟩:=list4 hl
 obtain ⟨xs,m,_,_,_,hlen,hf⟩:=DataW.trod_struct Tryz.underlying34 h
 obtain ⟨y0,y1,y2,y3,rfl⟩:=list4 (show xs.length = 4 from hlen)
 have h0 : DataW.trod enc Tryz.prog W 0 (fun _ => true) true m 9 [c0] = some y0:=by
  have:=hf 0 _ rfl
  simpa [Tryz.cellsStr] using this
 have h1 : DataW.trod enc Tryz.prog W 0 (fun _ => true) true m 3 [c1] = some y1:=by
  have:=hf 1 _ rfl
  simpa [Tryz.cellsInt] using this
 have h2 : DataW.trod enc Tryz.prog W 0 (fun _ => true) true m 3 [c2] = some y2:=by
  have:=hf 2 _ rfl
  simpa [Tryz.cellsInt] using this
 have h3 : DataW.trod enc Tryz.prog W 0 (fun _ => true) true m 31 [c3] = some y3:=by
  have:=hf 3 _ rfl
  simpa [Tryz.cellsSInt] using this
 obtain ⟨s,e0,_,hs⟩:=DataW.trod_string Tryz.underlying9 h0
 obtain ⟨x1,e1,_,_⟩:=DataW.trod_int Tryz.underlying3 h1
 obtain ⟨x2,e2,_,_⟩:=DataW.trod_int Tryz.underlying3 h2
 obtain ⟨l,a,c,e3,hl3⟩:=openInt10 h3
 simp only [List.cons.injEq,and_true] at e0 e1 e2
 subst e0 e1 e2 e3
 exact ⟨⟨s,x1,x2,a,c,l⟩,rfl,hl3,hs⟩

theorem fdCells {H : Type} {enc : TypeId × Value → H} {W : World} (cs : List Value) (n : Nat) (y : DataW H × List MemPlace) (hl : cs.length = 7)
  (h : DataW.trod enc Tryz.prog W 0 (fun _ => true) true n 75 cs = some y) : ∃ x : FD,cs = fdC x∧x.nm.size ≤ maxLen:=by
 obtain ⟨c0,c1,c2,c3,c4,c5,c6,rfl⟩:=list7 hl
 obtain ⟨xs,m,_,_,_,hlen,hf⟩:=DataW.trod_struct Tryz.underlying75 h
 obtain ⟨y0,y1,y2,y3,rfl⟩:=list4 (show xs.length = 4 from hlen)
 have h0 : DataW.trod enc Tryz.prog W 0 (fun _ => true) true m 9 [c0] = some y0:=by
  have:=hf 0 _ rfl
  simpa [Tryz.cellsStr] using this
 have h1 : DataW.trod enc Tryz.prog W 0 (fun _ => true) true m 3 [c1] = some y1:=by
  have:=hf 1 _ rfl
  simpa [Tryz.cellsInt] using this
 have h2 : DataW.trod enc Tryz.prog W 0 (fun _ => true) true m 51 [c2,c3,c4,c5] = some y2:=by
  have:=hf 2 _ rfl
  simpa [Tryz.cellsTy] using this
 have h3 : DataW.trod enc Tryz.prog W 0 (fun _ => true) true m 4 [c6] = some y3:=by
  have:=hf 3 _ rfl
  simpa [Tryz.cellsBool] using this
 obtain ⟨s,e0,_,hs⟩:=DataW.trod_string Tryz.underlying9 h0
 obtain ⟨x1,e1,_,_⟩:=DataW.trod_int Tryz.underlying3 h1
 obtain ⟨t,e2⟩:=tyCells h2
 obtain ⟨x3,e3,_⟩:=DataW.trod_bool Tryz.underlying4 h3
 simp only [List.cons.injEq,and_true] at e0 e1 e2 e3
 obtain ⟨rfl,rfl,rfl,rfl⟩:=e2
 subst e0 e1 e3
 exact ⟨⟨s,x1,t,x3⟩,rfl,hs⟩

theorem mdCells {H : Type} {enc : TypeId × Value → H} {W : World} (cs : List Value) (n : Nat) (y : DataW H × List MemPlace) (hl : cs.length = 12)
  (h : DataW.trod enc Tryz.prog W 0 (fun _ => true) true n 55 cs = some y) : ∃ x : MD,cs = mdC x∧x.ok W∧x.nm.size ≤ maxLen:=by
 obtain ⟨c0,c1,c2,c3,c4,c5,c6,c7,c8,c9,c10,c11,rfl⟩:=list12 hl
 obtain ⟨xs,m,_,_,_,hlen,hf⟩:=DataW.trod_struct Tryz.underlying55 h
 obtain ⟨y0,y1,y2,y3,y4,y5,y6,y7,y8,rfl⟩:=list9 (show xs.length = 9 from hlen)
 have h0 : DataW.trod enc Tryz.prog W 0 (fun _ => true) true m 9 [c0] = some y0:=by
  have:=hf 0 _ rfl
  simpa [Tryz.cellsStr] using this
 have h1 : DataW.trod enc Tryz.prog W 0 (fun _ => true) true m 3 [c1] = some y1:=by
  have:=hf 1 _ rfl
  simpa [Tryz.cellsInt] using this
 have h2 : DataW.trod enc Tryz.prog W 0 (fun _ => true) true m 3 [c2] = some y2:=by
  have:=hf 2 _ rfl
  simpa [Tryz.cellsInt] using this
 have h3 : DataW.trod enc Tryz.prog W 0 (fun _ => true) true m 49 [c3] = some y3:=by
  have:=hf 3 _ rfl
  simpa [Tryz.cellsSTy] using this
 have h4 : DataW.trod enc Tryz.prog W 0 (fun _ => true) true m 51 [c4,c5,c6,c7] = some y4:=by
  have:=hf 4 _ rfl
  simpa [Tryz.cellsTy] using this
 have h5 : DataW.trod enc Tryz.prog W 0 (fun _ => true) true m 49 [c8] = some y5:=by
  have:=hf 5 _ rfl
  simpa [Tryz.cellsSTy] using this
 have h6 : DataW.trod enc Tryz.prog W 0 (fun _ => true) true m 3 [c9] = some y6:=by
  have:=hf 6 _ rfl
  simpa [Tryz.cellsInt] using this
 have h7 : DataW.trod enc Tryz.prog W 0 (fun _ => true) true m 52 [c10] = some y7:=by
  have:=hf 7 _ rfl
  simpa [Tryz.cellsSIns] using this
 have h8 : DataW.trod enc Tryz.prog W 0 (fun _ => true) true m 53 [c11] = some y8:=by
  have:=hf 8 _ rfl
  simpa [Tryz.cellsSCl] using this
 obtain ⟨s,e0,_,hs⟩:=DataW.trod_string Tryz.underlying9 h0
 obtain ⟨x1,e1,_,_⟩:=DataW.trod_int Tryz.underlying3 h1
 obtain ⟨x2,e2,_,_⟩:=DataW.trod_int Tryz.underlying3 h2
 obtain ⟨l3,a3,q3,e3,g3⟩:=openTy10 h3
 obtain ⟨t,e4⟩:=tyCells h4
 obtain ⟨l5,a5,q5,e5,g5⟩:=openTy10 h5
 obtain ⟨x6,e6,_,_⟩:=DataW.trod_int Tryz.underlying3 h6
 obtain ⟨l7,a7,q7,e7,g7⟩:=openIns10 h7
 obtain ⟨l8,a8,q8,e8,g8⟩:=openCl10 h8
 simp only [List.cons.injEq,and_true] at e0 e1 e2 e4 e6
 obtain ⟨rfl,rfl,rfl,rfl⟩:=e4
 subst e0 e1 e2 e3 e5 e6 e7 e8
 exact ⟨⟨s,x1,x2,a3,q3,l3,t,a5,q5,l5,x6,a7,q7,l7,a8,q8,l8⟩,rfl,⟨g3,g5,g7,g8⟩,hs⟩

def ImV (W : World) (v : Value) (g : Img) : Prop:=v = imV g∧Im W g∧g.nmOk

set_option maxRecDepth 100000 in
theorem open_api_Image {H : Type} {enc : TypeId × Value → H} {W : World} {base : Nat} {v : Value} {d : DataW H} {p : List MemPlace}
  (hv : Value.okWide Tryz.prog W .any base 26 v) (h : DataW.Trod enc Tryz.prog W 0 (fun _ => true) true 26 v d p) : ∃ g,ImV W v g:=by
 obtain ⟨cs,rfl,hsz⟩:=okWide_struct Tryz.underlying26 hv
 obtain ⟨fuel,hf0⟩:=h
 have hl : cs.toList.length = 4:=by have:=hsz.trans Tryz.cellsIm; simpa [Value.cells] using this
 have hf1 : DataW.trod enc Tryz.prog W 0 (fun _ => true) true fuel 26 cs.toList = some (d,p):=by simpa [Value.cells] using hf0
 obtain ⟨c0,c1,c2,c3,hcs⟩:=list4 hl
 rw [hcs] at hf1
 obtain ⟨xs,m,_,_,_,hlen,hf⟩:=DataW.trod_struct Tryz.underlying26 hf1
 obtain ⟨y0,y1,y2,y3,rfl⟩:=list4 (show xs.length = 4 from hlen)
 have h0 : DataW.trod enc Tryz.prog W 0 (fun _ => true) true m 22 [c0] = some y0:=by
  have:=hf 0 _ rfl
  simpa [Tryz.cellsSTD] using this
 have h1 : DataW.trod enc Tryz.prog W 0 (fun _ => true) true m 23 [c1] = some y1:=by
  have:=hf 1 _ rfl
  simpa [Tryz.cellsSFD] using this
 have h2 : DataW.trod enc Tryz.prog W 0 (fun _ => true) true m 24 [c2] = some y2:=by
  have:=hf 2 _ rfl
  simpa [Tryz.cellsSMD] using this
 have h3 : DataW.trod enc Tryz.prog W 0 (fun _ => true) true m 3 [c3] = some y3:=by
  have:=hf 3 _ rfl
  simpa [Tryz.cellsInt] using this
 obtain ⟨lt,ht,qt⟩:=openEs2 (Q:=fun x : TD => x.ok W∧x.nm.size ≤ maxLen) tdE ⟨ByteArray.empty,0,0,none,0,[]⟩ 22 34 Tryz.underlying22 Tryz.cellsTD tdCells h0
 obtain ⟨lf,hff,qf⟩:=openEs2 (Q:=fun x : FD => x.nm.size ≤ maxLen) fdE ⟨ByteArray.empty,0,(0,0,0,false),false⟩ 23 75 Tryz.underlying23 Tryz.cellsFD fdCells h1
 obtain ⟨lm,hm,qm⟩:=openEs2 (Q:=fun x : MD => x.ok W∧x.nm.size ≤ maxLen) mdE ⟨ByteArray.empty,0,0,none,0,[],(0,0,0,false),none,0,[],0,none,0,[],none,0,[]⟩ 24 55 Tryz.underlying24 Tryz.cellsMD mdCells h2
 obtain ⟨x3,e3,_,_⟩:=DataW.trod_int Tryz.underlying3 h3
 simp only [List.cons.injEq,and_true] at e3
 subst e3
 obtain ⟨ta,tc,rfl,_,_⟩:=ht.shape
 obtain ⟨fa,fc,rfl,_,_⟩:=hff.shape
 obtain ⟨ma,mc,rfl,_,_⟩:=hm.shape
 refine ⟨⟨ta,tc,lt,fa,fc,lf,ma,mc,lm,x3⟩, ?_,⟨ht,fun x hx => (qt x hx).1,hff,hm,fun x hx => (qm x hx).1⟩,⟨fun x hx => (qt x hx).2,qf,fun x hx => (qm x hx).2⟩⟩
 unfold imV
 congr 1
 apply Array.toList_inj.1
 exact hcs
end Go.Proofs.YthpmpdpfnlecmaaGreat

namespace Go.Proofs.YthpmpdpfnlecmaaGreat
set_option linter.unusedVariables false
set_option linter.unusedSimpArgs false
open Go.RowKit
attribute [local go_sem ↓] Go.wp_at_zero Go.wp_at_succ
def longT (x : TD) : Bool:=decide (20 < x.fs.length) || decide (100 < x.nm.size)
def longM (x : MD) : Bool:=decide (30 < x.ps.length) || decide (30 < x.ls.length) || decide (200 < x.co.length) || decide (20 < x.cl.length) || decide (100 < x.nm.size)
def longI (g : Img) : Bool:=decide (40 < g.ts.length) || decide (80 < g.fs.length) || decide (80 < g.ms.length) || (g.ts.any longT || g.ms.any longM)
theorem any_step {α : Type} {p : α → Bool} {l : List α} {q : Nat} (hq : q < l.length) (h : (l.take q).any p = false) (hx : p l[q] = false) : (l.take (q + 1)).any p = false:=by
 rw [List.take_succ_eq_append_getElem hq,List.any_append,h]; simpa using hx
theorem any_yes {α : Type} {p : α → Bool} {l : List α} {q : Nat} (hq : q < l.length) (hx : p l[q] = true) : l.any p = true:=by
 rw [List.any_eq_true]; exact ⟨_,List.getElem_mem hq,hx⟩
theorem any_done {α : Type} {p : α → Bool} {l : List α} {q : Nat} (hq : ¬ q < l.length) (h : (l.take q).any p = false) : l.any p = false:=by
 rwa [List.take_of_length_le (by omega)] at h

set_option maxHeartbeats 8000000 in
set_option maxRecDepth 100000 in
theorem longI_any {g : Img} {w : World} (hg : Im w g) :
  Calls Tryz.prog 10 #[imV g] w fun e w' => e = .returned (.bool (longI g))∧Below w.heap.size w w':=by
 obtain ⟨w0,hw0⟩ : ∃ W,W = w.alloc (.cells #[.slice g.ta g.ts.length g.tc,.slice g.fa g.fs.length g.fc,.slice g.ma g.ms.length g.mc,.int .i64 g.en] 26):=⟨_,rfl⟩
 have HW0 : Hid (w0 = _):=hw0
 have hb0 : Below w.heap.size w w0:=by rw [hw0]; exact made_below _ _ _
 have HB0 : Hid (Below w.heap.size w w0):=hb0
 have hA : At w0 w.heap.size #[.slice g.ta g.ts.length g.tc,.slice g.fa g.fs.length g.fc,.slice g.ma g.ms.length g.mc,.int .i64 g.en] 26:=by rw [hw0]; exact At.made _ _ _
 have HAT : Hid (∀ W,Below w0.heap.size w0 W → At W w.heap.size #[.slice g.ta g.ts.length g.tc,.slice g.fa g.fs.length g.fc,.slice g.ma g.ms.length g.mc,.int .i64 g.en] 26):=fun W hW => hA.later hW
 have HXt : Hid (∀ W,Below w0.heap.size w0 W → Es tdE W (.slice g.ta g.ts.length g.tc) g.ts):=fun W hW => hg.ts.later (bstep hb0 hW)
 have HXm : Hid (∀ W,Below w0.heap.size w0 W → Es mdE W (.slice g.ma g.ms.length g.mc) g.ms):=fun W hW => hg.ms.later (bstep hb0 hW)
 have htl:=hg.ts.len
 have hfl:=hg.fs.len
 have hml:=hg.ms.len
 have HTl : Hid (∀ x ∈ g.ts,x.fs.length ≤ maxLen):=fun x hx => (hg.tok x hx).len
 have HMl : Hid (∀ x ∈ g.ms,x.ps.length ≤ maxLen∧x.ls.length ≤ maxLen∧x.co.length ≤ maxLen∧x.cl.length ≤ maxLen):=fun x hx => ⟨(hg.mok x hx).ps.len,(hg.mok x hx).ls.len,(hg.mok x hx).co.len,(hg.mok x hx).cl.len⟩
 unfold maxLen at htl hfl hml
 have c1:=hA.cell
 have HF : Hid (longI g = (decide (40 < g.ts.length) || decide (80 < g.fs.length) || decide (80 < g.ms.length) || (g.ts.any longT || g.ms.any longM))):=rfl
 clear hw0 hb0 hA hg
 unfold imV
 go_enter Tryz.func10,Tryz.ntmps10
 by_cases h1 : 40 < g.ts.length
 ·have i1 : (40 : Int) < (g.ts.length : Int):=by omega
  go_wp2_with (rw [← HW0.out])
  go_ret
  exact ⟨ret_bool (by rw [HF.out,decide_eq_true h1]; rfl),HB0.out⟩
 have i1 : ¬ (40 : Int) < (g.ts.length : Int):=by omega
 by_cases h2 : 80 < g.fs.length
 ·have i2 : (80 : Int) < (g.fs.length : Int):=by omega
  go_wp2_with (rw [← HW0.out])
  go_ret
  exact ⟨ret_bool (by rw [HF.out,decide_eq_true h2]; simp),HB0.out⟩
 have i2 : ¬ (80 : Int) < (g.fs.length : Int):=by omega
 by_cases h3 : 80 < g.ms.length
 ·have i3 : (80 : Int) < (g.ms.length : Int):=by omega
  go_wp2_with (rw [← HW0.out])
  go_ret
  exact ⟨ret_bool (by rw [HF.out,decide_eq_true h3]; simp),HB0.out⟩
 have i3 : ¬ (80 : Int) < (g.ms.length : Int):=by omega
 have HG : Hid (longI g = (g.ts.any longT || g.ms.any longM)):=by show _ = _; rw [HF.out,decide_eq_false h1,decide_eq_false h2,decide_eq_false h3]; rfl
 clear HF h1 h2 h3
 go_wp2_with (rw [← HW0.out])
 go_loopw [3] (fun z wr => ∃ q : Nat,q ≤ g.ts.length∧z = .int .i64 q∧wr = w0∧Hid ((g.ts.take q).any longT = false)) (fun z _ => g.ts.length - (intOf z).toNat)
 case atStart => exact ⟨0,Nat.zero_le _,rfl,rfl,by show _ = _; simp⟩
 case round =>
  obtain ⟨q,hq,rfl,rfl,HA⟩:=hrel
  by_cases hql : q < g.ts.length
  ·obtain ⟨b,off,hfa,hb,h6,h7,hc⟩:=(HXt.out _ (Below.refl _ _)).at hql
   obtain ⟨k0,k1,k2,k3⟩:=(show El tdE _ b (off + q * 4) g.ts[q] from hc q hql).cells_T
   have HY : Hid (longT g.ts[q] = false → (g.ts.take (q + 1)).any longT = false):=fun h => any_step hql HA.out h
   have HN : Hid (longT g.ts[q] = true → longI g = true):=fun h => by rw [HG.out,any_yes hql h]; rfl
   have hyl:=HTl.out _ (List.getElem_mem hql)
   generalize g.ts[q] = y at *
   unfold maxLen at h7 hyl
   rw [hfa] at c1
   clear hfa hc
   by_cases g1 : 20 < y.fs.length
   ·have g1' : (20 : Int) < (y.fs.length : Int):=by omega
    have HBad : Hid (longI g = true):=HN.out (by unfold longT; rw [decide_eq_true g1]; rfl)
    go_wp2_with fail
    go_ret
    exact ⟨ret_bool HBad.out.symm,HB0.out⟩
   have g1' : ¬ (20 : Int) < (y.fs.length : Int):=by omega
   by_cases g2 : 100 < y.nm.size
   ·have g2' : (100 : Int) < (y.nm.size : Int):=by omega
    have HBad : Hid (longI g = true):=HN.out (by unfold longT; rw [decide_eq_true g2]; simp)
    go_wp2_with fail
    go_ret
    exact ⟨ret_bool HBad.out.symm,HB0.out⟩
   have g2' : ¬ (100 : Int) < (y.nm.size : Int):=by omega
   have HY2 : Hid _:=HY.out (by unfold longT; rw [decide_eq_false g1,decide_eq_false g2]; rfl)
   clear HY HN
   go_wp2_with fail
   go_roundw
   case rel => exact ⟨q + 1,by omega,by go_num,by simp,HY2.out⟩
   case measure => simp [intOf]; omega
  have HG1 : Hid (longI g = g.ms.any longM):=by show _ = _; rw [HG.out,any_done hql HA.out]; rfl
  clear HA
  go_wp2_with fail
  clear c1
  obtain ⟨wo,rfl⟩ : ∃ wo,wo = wr:=⟨_,rfl⟩
  go_loopw [4] (fun z wr2 => ∃ q : Nat,q ≤ g.ms.length∧z = .int .i64 q∧Below wo.heap.size wo wr2∧Hid ((g.ms.take q).any longM = false)) (fun z _ => g.ms.length - (intOf z).toNat)
  case atStart => exact ⟨0,Nat.zero_le _,rfl,Below.refl _ _,by show _ = _; simp⟩
  case round =>
   obtain ⟨q,hq,rfl,hB,HA⟩:=hrel
   have HBr : Hid (Below wo.heap.size wo wr):=hB
   have c1:=(HAT.out wr hB).cell
   by_cases hql2 : q < g.ms.length
   ·obtain ⟨b,off,hfa,hb,h6,h7,hc⟩:=(HXm.out wr hB).at hql2
    obtain ⟨k0,k1,k2,k3,k4,k5,k6,k7,k8,k9,k10,k11⟩:=(show El mdE wr b (off + q * 12) g.ms[q] from hc q hql2).cells_M
    have HY : Hid (longM g.ms[q] = false → (g.ms.take (q + 1)).any longM = false):=fun h => any_step hql2 HA.out h
    have HN : Hid (longM g.ms[q] = true → longI g = true):=fun h => by rw [HG1.out,any_yes hql2 h]
    obtain ⟨y1,y2,y3,y4⟩:=HMl.out _ (List.getElem_mem hql2)
    generalize g.ms[q] = y at *
    unfold maxLen at h7 y1 y2 y3 y4
    rw [hfa] at c1
    obtain ⟨wA,hwA⟩ : ∃ W,W = wr.alloc (.cells (mdA y) 55):=⟨_,rfl⟩
    have HWA : Hid (wA = _):=hwA
    have hbA : Below wr.heap.size wr wA:=by rw [hwA]; exact made_below _ _ _
    have HBA : Hid (Below wo.heap.size wo wA):=bstep hB hbA
    have hAA : At wA wr.heap.size (mdA y) 55:=by rw [hwA]; exact At.made _ _ _
    have cA:=hAA.cell
    unfold mdA at cA HWA
    clear hfa hc hwA hbA hAA hB
    by_cases g0 : 30 < y.ps.length
    ·have g0' : (30 : Int) < (y.ps.length : Int):=by omega
     have HBad : Hid (longI g = true):=HN.out (by unfold longM; rw [decide_eq_true g0]; rfl)
     clear HY HN
     go_wp2_with (rw [← HWA.out])
     go_ret
     exact ⟨ret_bool HBad.out.symm,bstep HB0.out HBA.out⟩
    have g0' : ¬ (30 : Int) < (y.ps.length : Int):=by omega
    by_cases g1 : 30 < y.ls.length
    ·have g1' : (30 : Int) < (y.ls.length : Int):=by omega
     have HBad : Hid (longI g = true):=HN.out (by unfold longM; rw [decide_eq_true g1]; simp)
     clear HY HN
     go_wp2_with (rw [← HWA.out])
     go_ret
     exact ⟨ret_bool HBad.out.symm,bstep HB0.out HBA.out⟩
    have g1' : ¬ (30 : Int) < (y.ls.length : Int):=by omega
    by_cases g2 : 200 < y.co.length
    ·have g2' : (200 : Int) < (y.co.length : Int):=by omega
     have HBad : Hid (longI g = true):=HN.out (by unfold longM; rw [decide_eq_true g2]; simp)
     clear HY HN
     go_wp2_with (rw [← HWA.out])
     go_ret
     exact ⟨ret_bool HBad.out.symm,bstep HB0.out HBA.out⟩
    have g2' : ¬ (200 : Int) < (y.co.length : Int):=by omega
    by_cases g3 : 20 < y.cl.length
    ·have g3' : (20 : Int) < (y.cl.length : Int):=by omega
     have HBad : Hid (longI g = true):=HN.out (by unfold longM; rw [decide_eq_true g3]; simp)
     clear HY HN
     go_wp2_with (rw [← HWA.out])
     go_ret
     exact ⟨ret_bool HBad.out.symm,bstep HB0.out HBA.out⟩
    have g3' : ¬ (20 : Int) < (y.cl.length : Int):=by omega
    by_cases g4 : 100 < y.nm.size
    ·have g4' : (100 : Int) < (y.nm.size : Int):=by omega
     have HBad : Hid (longI g = true):=HN.out (by unfold longM; rw [decide_eq_true g4]; simp)
     clear HY HN
     go_wp2_with (rw [← HWA.out])
     go_ret
     exact ⟨ret_bool HBad.out.symm,bstep HB0.out HBA.out⟩
    have g4' : ¬ (100 : Int) < (y.nm.size : Int):=by omega
    have HY2 : Hid _:=HY.out (by unfold longM; rw [decide_eq_false g0,decide_eq_false g1,decide_eq_false g2,decide_eq_false g3,decide_eq_false g4]; rfl)
    clear HY HN
    go_wp2_with (rw [← HWA.out])
    go_roundw
    case rel => exact ⟨q + 1,by omega,by go_num,HBA.out,HY2.out⟩
    case measure => simp [intOf]; omega
   have HNo : Hid (longI g = false):=by show _ = _; rw [HG1.out,any_done hql2 HA.out]
   clear HA hB
   go_wp2_with fail
   go_ret
   exact ⟨ret_bool HNo.out.symm,bstep HB0.out HBr.out⟩
theorem ext_class {g : Img} (F : Fin_ g) {q : Nat} (hq : q < g.ts.length) : kndI g (exI g (q : Int)) = 0 ∨ numB (exI g (q : Int)) g.ts.length = false:=by
 have hx:=(Wel.of F.wel).ext (q : Int) (by rw [numB_iff]; omega)
 unfold extB at hx
 simp only [Bool.and_eq_true,Bool.or_eq_true,decide_eq_true_iff] at hx
 rcases hx.1 with h | h
 ·right; rw [h]; rfl
 ·left; exact h.1
end Go.Proofs.YthpmpdpfnlecmaaGreat
