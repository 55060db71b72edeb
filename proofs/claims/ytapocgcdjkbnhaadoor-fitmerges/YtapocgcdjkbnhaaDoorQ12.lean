/- Texts joined: OpenIm10, Merge14. -/
import Derived.Test.YtapocgcdjkbnhaaDoorQ11
import Derived.Test.YtapocgcdjkbnhaaDoorQ05
import Derived.ChangeArms
import Derived.Test.YtapocgcdjkbnhaaDoorQ06
import Derived.Test.YtapocgcdjkbnhaaDoorQ08
namespace Go.Proofs.YtapocgcdjkbnhaaDoor
set_option linter.unusedVariables false
set_option linter.unusedSimpArgs false
open Go.ChangeShapes Go.WideShapes Go.ChangeAt Go.RowKit
theorem openEs2 {α : Type} (E : Enc α) (dft : α) {Q : α → Prop} {P : Program} {H : Type} {enc : TypeId × Value → H} {W : World} {v : Value} {n : Nat} {y : DataW H × List MemPlace} (ts t : TypeId) (ht : P.underlying ts = some (.slice t)) (hcells : P.cellsOf t = E.size)
  (hel : ∀ (cs : List Value) (n : Nat) (y : DataW H × List MemPlace),cs.length = E.size → DataW.trod enc P W 0 (fun _ => true) true n t cs = some y → ∃ x,cs = E.cells x∧Q x)
  (h : DataW.trod enc P W 0 (fun _ => true) true n ts [v] = some y) : ∃ l,Es E W v l∧∀ x ∈ l,Q x:=by
 haveI : Inhabited α:=⟨dft⟩
 rcases Go.Deep.open_slice ht h with ⟨hcs,_⟩ | ⟨a,len,cap,m,k,D,Pl,hcs,_,hl,hm,hmm,_,hx⟩
 ·simp at hcs
  subst hcs
  exact ⟨[],Es.nil E W,fun x hx => by simp at hx⟩
 ·simp at hcs
  subst hcs
  simp only [if_true] at hmm
  rw [hcells] at hx
  obtain ⟨f,hf⟩:=Go.Deep.choose_lt (n:=len) (p:=fun i (x : α) => (∀ j u,(E.cells x)[j]? = some u → W.cell? (a.add (i * E.size + j)) = some u)∧Q x) fun i hi => by
   obtain ⟨cs',h1,h2⟩:=hx i (by omega)
   obtain ⟨_,hlen,h3⟩:=World.cells?_some h1
   obtain ⟨x,hxc,hq⟩:=hel _ _ _ (by simpa using hlen) h2
   refine ⟨x,fun j u hj => ?_,hq⟩
   have hjl : j < E.size:=by rw [← E.len x]; exact (List.getElem?_eq_some_iff.1 hj).1
   have g:=h3 j hjl
   rw [Go.Deep.add_add a (i * E.size) j] at g
   rw [g]
   have hx2 : cs'[j]? = some u:=by
    have:=congrArg (fun t => t[j]?) hxc
    rw [hj] at this
    simpa using this
   exact hx2
  have hQ : ∀ x ∈ (List.range len).map f,Q x:=fun x hx => by
   simp only [List.mem_map,List.mem_range] at hx
   obtain ⟨i,hi,rfl⟩:=hx
   exact (hf i hi).2
  refine ⟨(List.range len).map f,⟨some a,cap,by simp,by simpa using hl,hm,fun hne => ?_⟩,hQ⟩
  have hpos : 0 < len:=by
   rcases Nat.eq_zero_or_pos len with h | h
   ·subst h; simp at hne
   ·exact h
  obtain ⟨u0,hu0⟩ : ∃ u,(E.cells (f 0))[0]? = some u:=by
   have:=E.pos
   rw [← E.len (f 0)] at this
   exact ⟨_,List.getElem?_eq_getElem this⟩
  have h0:=(hf 0 hpos).1 0 u0 hu0
  obtain ⟨b,off,spot⟩:=a
  have hspot : spot = none:=by simpa [Addr.add] using World.cell?_spot h0
  subst hspot
  have hplain : ∀ i,(⟨b,off,none⟩ : Addr).add i = ⟨b,off + i,none⟩:=fun i => by unfold Addr.add; split <;> simp_all
  have hb : b < W.heap.size:=by have:=World.block_lt_of_cell? W _ h0; simpa [Addr.add] using this
  have hes : Es E W (.slice (some ⟨b,off,none⟩) ((List.range len).map f).length cap) ((List.range len).map f):=by
   refine Es.of_parts (by simpa using hl) hm hb fun i hi j u hj => ?_
   simp only [List.length_map,List.length_range] at hi
   simp only [List.getElem_map,List.getElem_range] at hj
   have:=(hf i hi).1 j u hj
   rw [hplain,← Nat.add_assoc] at this
   exact this
  obtain ⟨_,_,he,_,_,h3⟩:=hes
  simp only [Value.slice.injEq] at he
  obtain ⟨rfl,_,_⟩:=he
  exact h3 hne

theorem openTy10 {H : Type} {enc : TypeId × Value → H} {W : World} {v : Value} {n : Nat} {y : DataW H × List MemPlace}
  (h : DataW.trod enc Tryd.prog W 0 (fun _ => true) true n 43 [v] = some y) : ∃ l a c,v = .slice a l.length c∧Es tyE W v l:=by
 obtain ⟨l,hl⟩:=openEs1 tyE (0,0,0,false) 43 28 Tryd.underlying43 Tryd.cellsTy (fun cs n y _ h => tyCells h) h
 obtain ⟨a,c,hv,_,_⟩:=hl.shape
 exact ⟨l,a,c,hv,hl⟩
theorem openInt10 {H : Type} {enc : TypeId × Value → H} {W : World} {v : Value} {n : Nat} {y : DataW H × List MemPlace}
  (h : DataW.trod enc Tryd.prog W 0 (fun _ => true) true n 40 [v] = some y) : ∃ l a c,v = .slice a l.length c∧Es intE W v l:=by
 obtain ⟨l,hl⟩:=openEs1 intE 0 40 3 Tryd.underlying40 Tryd.cellsInt (fun cs n y _ h => by
  obtain ⟨x,e,_,_⟩:=DataW.trod_int Tryd.underlying3 h
  exact ⟨x,e⟩) h
 obtain ⟨a,c,hv,_,_⟩:=hl.shape
 exact ⟨l,a,c,hv,hl⟩
theorem openIns10 {H : Type} {enc : TypeId × Value → H} {W : World} {v : Value} {n : Nat} {y : DataW H × List MemPlace}
  (h : DataW.trod enc Tryd.prog W 0 (fun _ => true) true n 44 [v] = some y) : ∃ l a c,v = .slice a l.length c∧Es insE W v l:=by
 obtain ⟨l,hl⟩:=openEs1 insE (0,0,0,0,0,false) 44 77 Tryd.underlying44 Tryd.cellsInstr (fun cs n y hl h => insCells hl h) h
 obtain ⟨a,c,hv,_,_⟩:=hl.shape
 exact ⟨l,a,c,hv,hl⟩
theorem openCl10 {H : Type} {enc : TypeId × Value → H} {W : World} {v : Value} {n : Nat} {y : DataW H × List MemPlace}
  (h : DataW.trod enc Tryd.prog W 0 (fun _ => true) true n 45 [v] = some y) : ∃ l a c,v = .slice a l.length c∧Es clE9 W v l:=by
 obtain ⟨l,hl⟩:=openEs1 clE9 ⟨1,0,2,2,4, -1,0,0,0,false⟩ 45 84 Tryd.underlying45 Tryd.cellsClause clauseCells h
 obtain ⟨a,c,hv,_,_⟩:=hl.shape
 exact ⟨l,a,c,hv,hl⟩

theorem Tryd.cellsTD : Tryd.prog.cellsOf 42 = 4:=by kernel_rfl
theorem Tryd.cellsFD : Tryd.prog.cellsOf 59 = 7:=by kernel_rfl
theorem Tryd.cellsMD : Tryd.prog.cellsOf 47 = 12:=by kernel_rfl
theorem Tryd.cellsIm : Tryd.prog.cellsOf 26 = 4:=by kernel_rfl
theorem Tryd.cellsStr : Tryd.prog.cellsOf 9 = 1:=by kernel_rfl
theorem Tryd.cellsSInt : Tryd.prog.cellsOf 40 = 1:=by kernel_rfl
theorem Tryd.cellsSTy : Tryd.prog.cellsOf 43 = 1:=by kernel_rfl
theorem Tryd.cellsSIns : Tryd.prog.cellsOf 44 = 1:=by kernel_rfl
theorem Tryd.cellsSCl : Tryd.prog.cellsOf 45 = 1:=by kernel_rfl
theorem Tryd.cellsSTD : Tryd.prog.cellsOf 22 = 1:=by kernel_rfl
theorem Tryd.cellsSFD : Tryd.prog.cellsOf 23 = 1:=by kernel_rfl
theorem Tryd.cellsSMD : Tryd.prog.cellsOf 24 = 1:=by kernel_rfl

theorem list12 {α : Type} {cs : List α} (h : cs.length = 12) : ∃ c0 c1 c2 c3 c4 c5 c6 c7 c8 c9 c10 c11,cs = [c0,c1,c2,c3,c4,c5,c6,c7,c8,c9,c10,c11]:=by
 match cs,h with
 | [c0,c1,c2,c3,c4,c5,c6,c7,c8,c9,c10,c11],_ => exact ⟨c0,c1,c2,c3,c4,c5,c6,c7,c8,c9,c10,c11,rfl⟩
theorem list9 {α : Type} {cs : List α} (h : cs.length = 9) : ∃ c0 c1 c2 c3 c4 c5 c6 c7 c8,cs = [c0,c1,c2,c3,c4,c5,c6,c7,c8]:=by
 match cs,h with
 | [c0,c1,c2,c3,c4,c5,c6,c7,c8],_ => exact ⟨c0,c1,c2,c3,c4,c5,c6,c7,c8,rfl⟩

theorem tdCells {H : Type} {enc : TypeId × Value → H} {W : World} (cs : List Value) (n : Nat) (y : DataW H × List MemPlace) (hl : cs.length = 4)
  (h : DataW.trod enc Tryd.prog W 0 (fun _ => true) true n 42 cs = some y) : ∃ x : TD,cs = tdC x∧x.ok W∧x.nm.size ≤ maxLen:=by
 obtain ⟨c0,c1,c2,c3,rfl⟩:=list4 hl
 obtain ⟨xs,m,_,_,_,hlen,hf⟩:=DataW.trod_struct Tryd.underlying42 h
 obtain ⟨y0,y1,y2,y3,rfl⟩:=list4 (show xs.length = 4 from hlen)
 have h0 : DataW.trod enc Tryd.prog W 0 (fun _ => true) true m 9 [c0] = some y0:=by
  have:=hf 0 _ rfl
  simpa [Tryd.cellsStr] using this
 have h1 : DataW.trod enc Tryd.prog W 0 (fun _ => true) true m 3 [c1] = some y1:=by
  have:=hf 1 _ rfl
  simpa [Tryd.cellsInt] using this
 have h2 : DataW.trod enc Tryd.prog W 0 (fun _ => true) true m 3 [c2] = some y2:=by
  have:=hf 2 _ rfl
  simpa [Tryd.cellsInt] using this
 have h3 : DataW.trod enc Tryd.prog W 0 (fun _ => true) true m 40 [c3] = some y3:=by
  have:=hf 3 _ rfl
  simpa [Tryd.cellsSInt] using this
 obtain ⟨s,e0,_,hs⟩:=DataW.trod_string Tryd.underlying9 h0
 obtain ⟨x1,e1,_,_⟩:=DataW.trod_int Tryd.underlying3 h1
 obtain ⟨x2,e2,_,_⟩:=DataW.trod_int Tryd.underlying3 h2
 obtain ⟨l,a,c,e3,hl3⟩:=openInt10 h3
 simp only [List.cons.injEq,and_true] at e0 e1 e2
 subst e0 e1 e2 e3
 exact ⟨⟨s,x1,x2,a,c,l⟩,rfl,hl3,hs⟩

theorem fdCells {H : Type} {enc : TypeId × Value → H} {W : World} (cs : List Value) (n : Nat) (y : DataW H × List MemPlace) (hl : cs.length = 7)
  (h : DataW.trod enc Tryd.prog W 0 (fun _ => true) true n 59 cs = some y) : ∃ x : FD,cs = fdC x∧x.nm.size ≤ maxLen:=by
 obtain ⟨c0,c1,c2,c3,c4,c5,c6,rfl⟩:=list7 hl
 obtain ⟨xs,m,_,_,_,hlen,hf⟩:=DataW.trod_struct Tryd.underlying59 h
 obtain ⟨y0,y1,y2,y3,rfl⟩:=list4 (show xs.length = 4 from hlen)
 have h0 : DataW.trod enc Tryd.prog W 0 (fun _ => true) true m 9 [c0] = some y0:=by
  have:=hf 0 _ rfl
  simpa [Tryd.cellsStr] using this
 have h1 : DataW.trod enc Tryd.prog W 0 (fun _ => true) true m 3 [c1] = some y1:=by
  have:=hf 1 _ rfl
  simpa [Tryd.cellsInt] using this
 have h2 : DataW.trod enc Tryd.prog W 0 (fun _ => true) true m 28 [c2,c3,c4,c5] = some y2:=by
  have:=hf 2 _ rfl
  simpa [Tryd.cellsTy] using this
 have h3 : DataW.trod enc Tryd.prog W 0 (fun _ => true) true m 4 [c6] = some y3:=by
  have:=hf 3 _ rfl
  simpa [Tryd.cellsBool] using this
 obtain ⟨s,e0,_,hs⟩:=DataW.trod_string Tryd.underlying9 h0
 obtain ⟨x1,e1,_,_⟩:=DataW.trod_int Tryd.underlying3 h1
 obtain ⟨t,e2⟩:=tyCells h2
 obtain ⟨x3,e3,_⟩:=DataW.trod_bool Tryd.underlying4 h3
 simp only [List.cons.injEq,and_true] at e0 e1 e2 e3
 obtain ⟨rfl,rfl,rfl,rfl⟩:=e2
 subst e0 e1 e3
 exact ⟨⟨s,x1,t,x3⟩,rfl,hs⟩

theorem mdCells {H : Type} {enc : TypeId × Value → H} {W : World} (cs : List Value) (n : Nat) (y : DataW H × List MemPlace) (hl : cs.length = 12)
  (h : DataW.trod enc Tryd.prog W 0 (fun _ => true) true n 47 cs = some y) : ∃ x : MD,cs = mdC x∧x.ok W∧x.nm.size ≤ maxLen:=by
 obtain ⟨c0,c1,c2,c3,c4,c5,c6,c7,c8,c9,c10,c11,rfl⟩:=list12 hl
 obtain ⟨xs,m,_,_,_,hlen,hf⟩:=DataW.trod_struct Tryd.underlying47 h
 obtain ⟨y0,y1,y2,y3,y4,y5,y6,y7,y8,rfl⟩:=list9 (show xs.length = 9 from hlen)
 have h0 : DataW.trod enc Tryd.prog W 0 (fun _ => true) true m 9 [c0] = some y0:=by
  have:=hf 0 _ rfl
  simpa [Tryd.cellsStr] using this
 have h1 : DataW.trod enc Tryd.prog W 0 (fun _ => true) true m 3 [c1] = some y1:=by
  have:=hf 1 _ rfl
  simpa [Tryd.cellsInt] using this
 have h2 : DataW.trod enc Tryd.prog W 0 (fun _ => true) true m 3 [c2] = some y2:=by
  have:=hf 2 _ rfl
  simpa [Tryd.cellsInt] using this
 have h3 : DataW.trod enc Tryd.prog W 0 (fun _ => true) true m 43 [c3] = some y3:=by
  have:=hf 3 _ rfl
  simpa [Tryd.cellsSTy] using this
 have h4 : DataW.trod enc Tryd.prog W 0 (fun _ => true) true m 28 [c4,c5,c6,c7] = some y4:=by
  have:=hf 4 _ rfl
  simpa [Tryd.cellsTy] using this
 have h5 : DataW.trod enc Tryd.prog W 0 (fun _ => true) true m 43 [c8] = some y5:=by
  have:=hf 5 _ rfl
  simpa [Tryd.cellsSTy] using this
 have h6 : DataW.trod enc Tryd.prog W 0 (fun _ => true) true m 3 [c9] = some y6:=by
  have:=hf 6 _ rfl
  simpa [Tryd.cellsInt] using this
 have h7 : DataW.trod enc Tryd.prog W 0 (fun _ => true) true m 44 [c10] = some y7:=by
  have:=hf 7 _ rfl
  simpa [Tryd.cellsSIns] using this
 have h8 : DataW.trod enc Tryd.prog W 0 (fun _ => true) true m 45 [c11] = some y8:=by
  have:=hf 8 _ rfl
  simpa [Tryd.cellsSCl] using this
 obtain ⟨s,e0,_,hs⟩:=DataW.trod_string Tryd.underlying9 h0
 obtain ⟨x1,e1,_,_⟩:=DataW.trod_int Tryd.underlying3 h1
 obtain ⟨x2,e2,_,_⟩:=DataW.trod_int Tryd.underlying3 h2
 obtain ⟨l3,a3,q3,e3,g3⟩:=openTy10 h3
 obtain ⟨t,e4⟩:=tyCells h4
 obtain ⟨l5,a5,q5,e5,g5⟩:=openTy10 h5
 obtain ⟨x6,e6,_,_⟩:=DataW.trod_int Tryd.underlying3 h6
 obtain ⟨l7,a7,q7,e7,g7⟩:=openIns10 h7
 obtain ⟨l8,a8,q8,e8,g8⟩:=openCl10 h8
 simp only [List.cons.injEq,and_true] at e0 e1 e2 e4 e6
 obtain ⟨rfl,rfl,rfl,rfl⟩:=e4
 subst e0 e1 e2 e3 e5 e6 e7 e8
 exact ⟨⟨s,x1,x2,a3,q3,l3,t,a5,q5,l5,x6,a7,q7,l7,a8,q8,l8⟩,rfl,⟨g3,g5,g7,g8⟩,hs⟩

def ImV (W : World) (v : Value) (g : Img) : Prop:=v = imV g∧Im W g∧g.nmOk

set_option maxRecDepth 100000 in
theorem open_api_Image {H : Type} {enc : TypeId × Value → H} {W : World} {base : Nat} {v : Value} {d : DataW H} {p : List MemPlace}
  (hv : Value.okWide Tryd.prog W .any base 26 v) (h : DataW.Trod enc Tryd.prog W 0 (fun _ => true) true 26 v d p) : ∃ g,ImV W v g:=by
 obtain ⟨cs,rfl,hsz⟩:=okWide_struct Tryd.underlying26 hv
 obtain ⟨fuel,hf0⟩:=h
 have hl : cs.toList.length = 4:=by have:=hsz.trans Tryd.cellsIm; simpa [Value.cells] using this
 have hf1 : DataW.trod enc Tryd.prog W 0 (fun _ => true) true fuel 26 cs.toList = some (d,p):=by simpa [Value.cells] using hf0
 obtain ⟨c0,c1,c2,c3,hcs⟩:=list4 hl
 rw [hcs] at hf1
 obtain ⟨xs,m,_,_,_,hlen,hf⟩:=DataW.trod_struct Tryd.underlying26 hf1
 obtain ⟨y0,y1,y2,y3,rfl⟩:=list4 (show xs.length = 4 from hlen)
 have h0 : DataW.trod enc Tryd.prog W 0 (fun _ => true) true m 22 [c0] = some y0:=by
  have:=hf 0 _ rfl
  simpa [Tryd.cellsSTD] using this
 have h1 : DataW.trod enc Tryd.prog W 0 (fun _ => true) true m 23 [c1] = some y1:=by
  have:=hf 1 _ rfl
  simpa [Tryd.cellsSFD] using this
 have h2 : DataW.trod enc Tryd.prog W 0 (fun _ => true) true m 24 [c2] = some y2:=by
  have:=hf 2 _ rfl
  simpa [Tryd.cellsSMD] using this
 have h3 : DataW.trod enc Tryd.prog W 0 (fun _ => true) true m 3 [c3] = some y3:=by
  have:=hf 3 _ rfl
  simpa [Tryd.cellsInt] using this
 obtain ⟨lt,ht,qt⟩:=openEs2 (Q:=fun x : TD => x.ok W∧x.nm.size ≤ maxLen) tdE ⟨ByteArray.empty,0,0,none,0,[]⟩ 22 42 Tryd.underlying22 Tryd.cellsTD tdCells h0
 obtain ⟨lf,hff,qf⟩:=openEs2 (Q:=fun x : FD => x.nm.size ≤ maxLen) fdE ⟨ByteArray.empty,0,(0,0,0,false),false⟩ 23 59 Tryd.underlying23 Tryd.cellsFD fdCells h1
 obtain ⟨lm,hm,qm⟩:=openEs2 (Q:=fun x : MD => x.ok W∧x.nm.size ≤ maxLen) mdE ⟨ByteArray.empty,0,0,none,0,[],(0,0,0,false),none,0,[],0,none,0,[],none,0,[]⟩ 24 47 Tryd.underlying24 Tryd.cellsMD mdCells h2
 obtain ⟨x3,e3,_,_⟩:=DataW.trod_int Tryd.underlying3 h3
 simp only [List.cons.injEq,and_true] at e3
 subst e3
 obtain ⟨ta,tc,rfl,_,_⟩:=ht.shape
 obtain ⟨fa,fc,rfl,_,_⟩:=hff.shape
 obtain ⟨ma,mc,rfl,_,_⟩:=hm.shape
 refine ⟨⟨ta,tc,lt,fa,fc,lf,ma,mc,lm,x3⟩, ?_,⟨ht,fun x hx => (qt x hx).1,hff,hm,fun x hx => (qm x hx).1⟩,⟨fun x hx => (qt x hx).2,qf,fun x hx => (qm x hx).2⟩⟩
 unfold imV
 congr 1
 apply Array.toList_inj.1
 exact hcs
end Go.Proofs.YtapocgcdjkbnhaaDoor

namespace Go.Proofs.YtapocgcdjkbnhaaDoor
set_option linter.unusedVariables false
set_option linter.unusedSimpArgs false
open Go.RowKit
attribute [local go_sem ↓] Go.wp_at_zero Go.wp_at_succ
set_option maxHeartbeats 1000000 in
theorem isClass14_any {g : Img} (t : Ty) {w : World} (hg : Im w g) (hi : imB g = true) : Ans 19 #[imA4 g,.agg #[.int .i64 t.1,.int .i64 t.2.1,.int .i64 t.2.2.1,.bool t.2.2.2]] w (.bool (clsT g t)):=by
 obtain ⟨w0,HW0,HB0,HC,HI⟩:=img_type_head hg t
 have HIs : Hid (∀ W,Ans 17 #[.agg #[.int .i64 t.1,.int .i64 t.2.1,.int .i64 t.2.2.1,.bool t.2.2.2],.int .i64 5] W (.bool (isT t 5))):=fun W => is14_any t 5 W
 have HKn : Hid (∀ W,Below w0.heap.size w0 W → Ans 30 #[imA4 g,.int .i64 t.2.1] W (.int .i64 (kndI g t.2.1))):=fun W hW => kind_any t.2.1 (HI.out W hW) (FlOk.of hi)
 have HR : Hid (clsT g t = (isT t 5 && decide (kndI g t.2.1 = 0))):=rfl
 obtain ⟨⟨c0,c1,c2,c3⟩,d0,d1,d2,d3⟩:=HC.out w0 (Below.refl _ _)
 unfold imA4 at HKn ⊢
 unfold Im4 at HC
 clear hg hi HI
 generalize clsT g t = R at *
 generalize isT t 5 = b5 at *
 generalize kndI g t.2.1 = kn at *
 obtain ⟨tk,ti,td,tr⟩:=t
 simp only at HW0 HIs HKn HC d0 d1 d2 d3 ⊢
 go_enter Tryd.func19,Tryd.ntmps19
 go_wp2_with (rw [← HW0.out])
 refine Calls.mono (HIs.out w0) ?_
 rintro e w1 ⟨rfl,hb1⟩
 have HB1 : Hid (Below w0.heap.size w0 w1):=hb1
 clear hb1 c0 c1 c2 c3 d0 d1 d2 d3 HW0
 obtain ⟨⟨c0,c1,c2,c3⟩,d0,d1,d2,d3⟩:=HC.out w1 HB1.out
 cases b5 with
 | false =>
  go_wp2_with fail
  go_ret
  exact ⟨ret_bool (by rw [HR.out]; rfl),bstep HB0.out HB1.out⟩
 | true =>
  go_wp2_with fail
  refine Calls.mono (HKn.out w1 HB1.out) ?_
  rintro e w2 ⟨rfl,hb2⟩
  have HB2 : Hid (Below w0.heap.size w0 w2):=bstep HB1.out hb2
  clear hb2 c0 c1 c2 c3 d0 d1 d2 d3
  have hk : (kn == 0) = decide (kn = 0):=by rw [Bool.eq_iff_iff]; simp
  go_wp2_with fail
  all_goals go_ret
  all_goals exact ⟨ret_bool (by rw [HR.out]; simp_all),bstep HB0.out HB2.out⟩

theorem mrg_head {w : World} {g : Img} (hg : Im w g) (a b : Ty) : ∃ w0,Hid (w0 = (((w.alloc (.cells #[.slice g.ta g.ts.length g.tc,.slice g.fa g.fs.length g.fc,.slice g.ma g.ms.length g.mc,.int .i64 g.en] 26)).alloc (.cells #[.int .i64 a.1,.int .i64 a.2.1,.int .i64 a.2.2.1,.bool a.2.2.2] 28)).alloc (.cells #[.int .i64 b.1,.int .i64 b.2.1,.int .i64 b.2.2.1,.bool b.2.2.2] 28)).alloc (.cells #[.int .i64 0,.int .i64 0,.int .i64 0,.bool false] 28))∧Hid (Below w.heap.size w w0) ∧
  Hid (∀ W,Below w0.heap.size w0 W → Im4 W w.heap.size g∧Ty4 W (w.heap.size + 1) a∧Ty4 W (w.heap.size + 2) b)∧Hid (∀ W,Below w0.heap.size w0 W → Im W g) ∧
  Hid (∀ W x y z u,Below w0.heap.size w0 W → (∀ o,W.cell? ⟨w.heap.size + 3,o,none⟩ = (#[.int .i64 0,.int .i64 0,.int .i64 0,.bool false] : Array Value)[o]?)∧(∀ o,W.frozen? ⟨w.heap.size + 3,o,none⟩ = false)∧(∀ o,((((W.setCell ⟨w.heap.size + 3,0,none⟩ x).setCell ⟨w.heap.size + 3,1,none⟩ y).setCell ⟨w.heap.size + 3,2,none⟩ z).setCell ⟨w.heap.size + 3,3,none⟩ u).cell? ⟨w.heap.size + 3,o,none⟩ = (#[x,y,z,u] : Array Value)[o]?) ∧
   Below w.heap.size w ((((W.setCell ⟨w.heap.size + 3,0,none⟩ x).setCell ⟨w.heap.size + 3,1,none⟩ y).setCell ⟨w.heap.size + 3,2,none⟩ z).setCell ⟨w.heap.size + 3,3,none⟩ u)):=by
 obtain ⟨w1,HW1,HB1,HC,HI⟩:=fit_head hg a b
 have hs1 : w1.heap.size = w.heap.size + 3:=by rw [HW1.out]; simp
 obtain ⟨w0,hw0⟩ : ∃ W,W = w1.alloc (.cells #[.int .i64 0,.int .i64 0,.int .i64 0,.bool false] 28):=⟨_,rfl⟩
 have hb0 : Below w1.heap.size w1 w0:=by rw [hw0]; exact made_below _ _ _
 have ht0 : At w0 w1.heap.size #[.int .i64 0,.int .i64 0,.int .i64 0,.bool false] 28:=by rw [hw0]; exact At.made _ _ _
 refine ⟨w0,by show w0 = _; rw [hw0,HW1.out],bstep HB1.out hb0,fun W hW => HC.out W (bstep hb0 hW),fun W hW => HI.out W (bstep hb0 hW),fun W x y z u hW => ?_⟩
 have h3:=ht0.later hW
 rw [hs1] at h3
 exact ⟨h3.cell,h3.melt,(h3.set4 x y z u).cell,below_set4 (bstep (bstep HB1.out hb0) hW) (by omega) _ _ _ _⟩

set_option maxHeartbeats 4000000 in
theorem common14_any {g : Img} {a b : Ty} {w : World} (hg : Im w g) (hi : imB g = true) (hd : Wd14 w) (ha : Wf a.2.1) (hb : Wf b.2.1) :
  Ans 20 #[imA4 g,.agg #[.int .i64 a.1,.int .i64 a.2.1,.int .i64 a.2.2.1,.bool a.2.2.2],.agg #[.int .i64 b.1,.int .i64 b.2.1,.int .i64 b.2.2.1,.bool b.2.2.2]] w (tv (comT g a b)):=by
 obtain ⟨w0,HW0,HB0,HC,HI,HF⟩:=mrg_head hg a b
 have HUa : Hid (∀ W,Below w0.heap.size w0 W → Calls Tryd.prog 28 #[imA4 g,.int .i64 a.2.1] W fun e w' => ∃ v,e = .returned v∧OwnI w' W.heap.size v (upL g a.2.1)∧Below W.heap.size W w'):=fun W hW => up_any (HI.out W hW) hi ha
 have HUb : Hid (∀ W,Below w0.heap.size w0 W → Calls Tryd.prog 28 #[imA4 g,.int .i64 b.2.1] W fun e w' => ∃ v,e = .returned v∧OwnI w' W.heap.size v (upL g b.2.1)∧Below W.heap.size W w'):=fun W hW => up_any (HI.out W hW) hi hb
 have HD : Hid (∀ W,Below w0.heap.size w0 W → W.cell? ⟨1,0,none⟩ = some (.int .i64 4)∧W.cell? ⟨1,1,none⟩ = some (.int .i64 0)∧W.cell? ⟨1,2,none⟩ = some (.int .i64 0)∧W.cell? ⟨1,3,none⟩ = some (.bool false)):=fun W hW => ((hd.later HB0.out).later hW).2.2
 have HR1 : Hid (∀ u,(upL g a.2.1).find? (fun u => (upL g b.2.1).contains u) = some u → comT g a b = (5,u,0,false)):=fun u h => by unfold comT; rw [h]
 have HR0 : Hid ((upL g a.2.1).find? (fun u => (upL g b.2.1).contains u) = none → comT g a b = (4,0,0,false)):=fun h => by unfold comT; rw [h]
 obtain ⟨⟨c0,c1,c2,c3⟩,⟨d0,d1,d2,d3⟩,⟨e0,e1,e2,e3⟩⟩:=HC.out w0 (Below.refl _ _)
 unfold imA4 at HUa HUb ⊢
 unfold Im4 Ty4 at HC
 unfold tv
 clear hg hi hd ha hb HI
 generalize upL g a.2.1 = LA at *
 generalize upL g b.2.1 = LB at *
 generalize comT g a b = R at *
 obtain ⟨ak,ai,ad,ar⟩:=a
 obtain ⟨bk,bi,bd,br⟩:=b
 simp only at HW0 HUa HUb HC d0 d1 d2 d3 e0 e1 e2 e3 ⊢
 go_enter Tryd.func20,Tryd.ntmps20
 go_wp2_with (rw [← HW0.out])
 refine Calls.mono (HUb.out w0 (Below.refl _ _)) ?_
 rintro e w1 ⟨vb,rfl,hob,hb1⟩
 have HB1 : Hid (Below w0.heap.size w0 w1):=hb1
 have HSb : Hid (∀ W,Below w1.heap.size w1 W → Is W vb LB):=fun W hW => hob.is.later hW
 clear hb1 hob c0 c1 c2 c3 d0 d1 d2 d3 e0 e1 e2 e3 HW0
 obtain ⟨⟨c0,c1,c2,c3⟩,⟨d0,d1,d2,d3⟩,⟨e0,e1,e2,e3⟩⟩:=HC.out w1 HB1.out
 go_wp2_with fail
 refine Calls.mono (HUa.out w1 HB1.out) ?_
 rintro e w2 ⟨va,rfl,hoa,hb2⟩
 obtain ⟨aa,ac,hva,hac1,hac2⟩:=hoa.is.shape
 have HSa : Hid (∀ W,Below w2.heap.size w2 W → Is W (.slice aa LA.length ac) LA):=fun W hW => by
  have:=hoa.is.later hW
  rw [hva] at this; exact this
 subst hva
 have HB2 : Hid (Below w1.heap.size w1 w2):=hb2
 unfold maxLen at hac2
 clear hb2 hoa c0 c1 c2 c3 d0 d1 d2 d3 e0 e1 e2 e3 HUa HUb
 go_wp2_with fail
 go_loopw [9,19] (fun _ z wr => ∃ q : Nat,q ≤ LA.length∧z = .int .i64 q∧Hid (Below w2.heap.size w2 wr)∧Hid ((LA.take q).find? (fun u => LB.contains u) = none)) (fun _ z _ => LA.length - (intOf z).toNat)
 case atStart => exact ⟨0,Nat.zero_le _,rfl,Below.refl _ _,(show _ = _ from by simp)⟩
 case round =>
  obtain ⟨q,hq,rfl,HB,HN⟩:=hrel
  by_cases hql : q < LA.length
  ·have hqi : (q : Int) < (LA.length : Int):=by omega
   obtain ⟨lb,lo,rfl,hlb,_,h6,h7,hcv⟩:=(HSa.out wr HB.out).at hql
   have hc:=hcv q hql
   have HCt : Hid _:=contains11_any (HSb.out wr (bstep HB2.out HB.out)) LA[q]
   have HY : Hid (LB.contains LA[q] = true → R = (5,LA[q],0,false)):=fun h => HR1.out _ (by
    have e : LA = LA.take q ++ LA[q] :: LA.drop (q + 1):=by rw [← List.drop_eq_getElem_cons hql,List.take_append_drop]
    rw [List.find?_eq_some_iff_append]
    refine ⟨h,LA.take q,LA.drop (q + 1),e,fun x hx => ?_⟩
    have:=List.find?_eq_none.1 HN.out x hx
    simpa using this)
   have HX : Hid (LB.contains LA[q] = false → (LA.take (q + 1)).find? (fun u => LB.contains u) = none):=fun h => List.find?_eq_none.2 fun x hx => by
    rw [List.take_succ_eq_append_getElem hql] at hx
    rcases List.mem_append.1 hx with hx | hx
    ·exact List.find?_eq_none.1 HN.out x hx
    ·rw [List.mem_singleton.1 hx,h]; decide
   clear hcv HN
   generalize LB.contains LA[q] = cb at *
   generalize LA[q] = u at *
   go_wp2_with fail
   refine Calls.mono HCt.out ?_
   rintro e w3 ⟨rfl,rfl⟩
   cases cb with
   | false =>
    have HN2 : Hid _:=HX.out (by trivial)
    go_wp2_with fail
    go_roundw
    case rel => exact ⟨q + 1,by omega,by go_num,HB.out,HN2.out⟩
    case measure => simp [intOf]; omega
   | true =>
    have HR : Hid (R = (5,u,0,false)):=HY.out (by trivial)
    obtain ⟨x0,xm,HFc,hbf⟩:=HF.out w3 (.int .i64 5) (.int .i64 u) (.int .i64 0) (.bool false) (bstep HB1.out (bstep HB2.out HB.out))
    have HBf : Hid _:=hbf
    clear hbf HY HX HCt
    go_wp2_with fail
    exact bodyPost_ret (v := .agg #[.int .i64 5,.int .i64 u,.int .i64 0,.bool false]) (by simp [results,Tryd.results20,go_sem,HFc]) rfl ⟨by rw [HR.out],HBf.out⟩
  ·have hqi : ¬ (q : Int) < (LA.length : Int):=by omega
   have HR : Hid (R = (4,0,0,false)):=HR0.out (by
    have:=HN.out
    rwa [List.take_of_length_le (by omega)] at this)
   have HBr : Hid (Below w0.heap.size w0 wr):=bstep HB1.out (bstep HB2.out HB.out)
   obtain ⟨x0,xm,HFc,hbf⟩:=HF.out wr (.int .i64 4) (.int .i64 0) (.int .i64 0) (.bool false) HBr.out
   have HBf : Hid _:=hbf
   obtain ⟨f0,f1,f2,f3⟩:=HD.out wr HBr.out
   clear hbf HN HB
   go_wp2_with fail
   exact bodyPost_ret (v := .agg #[.int .i64 4,.int .i64 0,.int .i64 0,.bool false]) (by simp [results,Tryd.results20,go_sem,HFc]) rfl ⟨by rw [HR.out],HBf.out⟩
end Go.Proofs.YtapocgcdjkbnhaaDoor
