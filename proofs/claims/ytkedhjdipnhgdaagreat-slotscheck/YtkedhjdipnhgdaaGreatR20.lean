import Derived.ChangeArms
import Derived.Test.YtkedhjdipnhgdaaGreatR12
namespace Go.Proofs.YtkedhjdipnhgdaaGreat
set_option maxHeartbeats 16000000
set_option linter.all false
open Go.ChangeShapes Go.WideShapes Go.ChangeAt Go.RowKit
theorem zjC {α:Type} (E:Enc α) (dft:α) {Q:α->Prop} {P:Program} {H:Type} {enc:TypeId × Value->H} {W:World} {v:Value} {n:Nat} {y:DataW H × List MemPlace} (ts t:TypeId) (ht:P.underlying ts=some (.slice t)) (hcells:P.cellsOf t=E.size)
 (hel:∀ (cs:List Value) (n:Nat) (y:DataW H × List MemPlace),cs.length=E.size->DataW.trod enc P W 0 (λ_=>true) true n t cs=some y->∃ x,cs=E.cells x/\Q x)
 (h:DataW.trod enc P W 0 (λ_=>true) true n ts [v]=some y):∃ l,Es E W v l/\∀ x∈l,Q x:=by
 haveI:Inhabited α:=⟨dft⟩
 rcases Go.Deep.open_slice ht h with ⟨hcs,_⟩ | ⟨a,len,cap,m,k,D,Pl,hcs,_,hl,hm,hmm,_,hx⟩
 ·simp at hcs;subst hcs;exact⟨[],Es.nil E W,λx hx=>by simp at hx⟩
 ·simp at hcs;subst hcs;simp only[if_true]at hmm;rw[hcells]at hx;obtain⟨f,hf⟩:=Go.Deep.choose_lt (n:=len) (p:=λi (x:α)=>(∀ j u,(E.cells x)[j]? =some u->W.cell? (a.add (i * E.size+j))=some u)/\Q x) λi hi=>by
   obtain⟨cs',h1,h2⟩:=hx i (by omega)
   obtain⟨_,hlen,h3⟩:=World.cells?_some h1;obtain⟨x,hxc,hq⟩:=hel _ _ _ (by simpa using hlen) h2
   refine⟨x,λj u hj=>?_,hq⟩
   have hjl:j<E.size:=by rw[<- E.len x];exact (List.getElem?_eq_some_iff.1 hj).1
   have g:=h3 j hjl;rw[Go.Deep.add_add a (i * E.size) j]at g;rw[g];have hx2:cs'[j]? =some u:=by
    have:=congrArg (λt=>t[j]?) hxc
    rw[hj]at this;simpa using this
   exact hx2
  have hQ:∀ x∈(List.range len).map f,Q x:=λx hx=>by
   simp only[List.mem_map,List.mem_range]at hx;obtain⟨i,hi,rfl⟩:=hx;exact (hf i hi).2
  refine⟨(List.range len).map f,⟨some a,cap,by simp,by simpa using hl,hm,λhne=>?_⟩,hQ⟩
  have hpos:0<len:=by
   rcases Nat.eq_zero_or_pos len with h | h
   ·subst h;simp at hne
   ·exact h
  obtain⟨u0,hu0⟩:∃ u,(E.cells (f 0))[0]? =some u:=by
   have:=E.pos;rw[<- E.len (f 0)]at this;exact⟨_,List.getElem?_eq_getElem this⟩
  have h0:=(hf 0 hpos).1 0 u0 hu0;obtain⟨b,off,spot⟩:=a;have hspot:spot=none:=by simpa[Addr.add]using World.cell?_spot h0
  subst hspot;have hplain:∀ i,(⟨b,off,none⟩:Addr).add i=⟨b,off+i,none⟩:=λi=>by unfold Addr.add;split <;> simp_all
  have hb:b<W.heap.size:=by have:=World.block_lt_of_cell? W _ h0;simpa[Addr.add]using this
  have hes:Es E W (.slice (some ⟨b,off,none⟩) ((List.range len).map f).length cap) ((List.range len).map f):=by
   refine Es.of_parts (by simpa using hl) hm hb λi hi j u hj=>?_
   simp only[List.length_map,List.length_range]at hi;simp only[List.getElem_map,List.getElem_range]at hj;have:=(hf i hi).1 j u hj;rw[hplain,<- Nat.add_assoc]at this;exact this
  obtain⟨_,_,he,_,_,h3⟩:=hes;simp only[Value.slice.injEq]at he;obtain⟨rfl,_,_⟩:=he;exact h3 hne
theorem zl2 {H:Type} {enc:TypeId × Value->H} {W:World} {v:Value} {n:Nat} {y:DataW H × List MemPlace}
 (h:DataW.trod enc Tryz.prog W 0 (λ_=>true) true n 45 [v]=some y):∃ l a c,v=.slice a l.length c/\Es tyE W v l:=by
 obtain⟨l,hl⟩:=zhr tyE (0,0,0,false) 45 47 Tryz.underlying45 Tryz.cellsTy (λcs n y _ h=>ze0 h) h
 obtain⟨a,c,hv,_,_⟩:=hl.shape;exact⟨l,a,c,hv,hl⟩
theorem znK {H:Type} {enc:TypeId × Value->H} {W:World} {v:Value} {n:Nat} {y:DataW H × List MemPlace}
 (h:DataW.trod enc Tryz.prog W 0 (λ_=>true) true n 40 [v]=some y):∃ l a c,v=.slice a l.length c/\Es zch W v l:=by
 obtain⟨l,hl⟩:=zhr zch 0 40 3 Tryz.underlying40 Tryz.cellsInt (λcs n y _ h=>by
  obtain⟨x,e,_,_⟩:=DataW.trod_int Tryz.underlying3 h;exact⟨x,e⟩) h
 obtain⟨a,c,hv,_,_⟩:=hl.shape;exact⟨l,a,c,hv,hl⟩
theorem zpC {H:Type} {enc:TypeId × Value->H} {W:World} {v:Value} {n:Nat} {y:DataW H × List MemPlace}
 (h:DataW.trod enc Tryz.prog W 0 (λ_=>true) true n 48 [v]=some y):∃ l a c,v=.slice a l.length c/\Es zcv W v l:=by
 obtain⟨l,hl⟩:=zhr zcv (0,0,0,0,0,false) 48 65 Tryz.underlying48 Tryz.cellsInstr (λcs n y hl h=>zpS hl h) h
 obtain⟨a,c,hv,_,_⟩:=hl.shape;exact⟨l,a,c,hv,hl⟩
theorem zqV {H:Type} {enc:TypeId × Value->H} {W:World} {v:Value} {n:Nat} {y:DataW H × List MemPlace}
 (h:DataW.trod enc Tryz.prog W 0 (λ_=>true) true n 49 [v]=some y):∃ l a c,v=.slice a l.length c/\Es zci W v l:=by
 obtain⟨l,hl⟩:=zhr zci ⟨1,0,2,2,4, -1,0,0,0,false⟩ 49 85 Tryz.underlying49 Tryz.cellsClause zjt h;obtain⟨a,c,hv,_,_⟩:=hl.shape;exact⟨l,a,c,hv,hl⟩
theorem Tryz.cellsTD:Tryz.prog.cellsOf 44=4:=by kernel_rfl
theorem Tryz.cellsFD:Tryz.prog.cellsOf 62=7:=by kernel_rfl
theorem Tryz.cellsMD:Tryz.prog.cellsOf 51=12:=by kernel_rfl
theorem Tryz.cellsIm:Tryz.prog.cellsOf 26=4:=by kernel_rfl
theorem Tryz.cellsStr:Tryz.prog.cellsOf 9=1:=by kernel_rfl
theorem Tryz.cellsSInt:Tryz.prog.cellsOf 40=1:=by kernel_rfl
theorem Tryz.cellsSTy:Tryz.prog.cellsOf 45=1:=by kernel_rfl
theorem Tryz.cellsSIns:Tryz.prog.cellsOf 48=1:=by kernel_rfl
theorem Tryz.cellsSCl:Tryz.prog.cellsOf 49=1:=by kernel_rfl
theorem Tryz.cellsSTD:Tryz.prog.cellsOf 22=1:=by kernel_rfl
theorem Tryz.cellsSFD:Tryz.prog.cellsOf 23=1:=by kernel_rfl
theorem Tryz.cellsSMD:Tryz.prog.cellsOf 24=1:=by kernel_rfl
theorem zuv {α:Type} {cs:List α} (h:cs.length=12):∃ c0 c1 c2 c3 c4 c5 c6 c7 c8 c9 c10 c11,cs=[c0,c1,c2,c3,c4,c5,c6,c7,c8,c9,c10,c11]:=by
 match cs,h with
 | [c0,c1,c2,c3,c4,c5,c6,c7,c8,c9,c10,c11],_=>exact⟨c0,c1,c2,c3,c4,c5,c6,c7,c8,c9,c10,c11,rfl⟩
theorem zwP {α:Type} {cs:List α} (h:cs.length=9):∃ c0 c1 c2 c3 c4 c5 c6 c7 c8,cs=[c0,c1,c2,c3,c4,c5,c6,c7,c8]:=by
 match cs,h with
 | [c0,c1,c2,c3,c4,c5,c6,c7,c8],_=>exact⟨c0,c1,c2,c3,c4,c5,c6,c7,c8,rfl⟩
theorem zsx {H:Type} {enc:TypeId × Value->H} {W:World} (cs:List Value) (n:Nat) (y:DataW H × List MemPlace) (hl:cs.length=4)
 (h:DataW.trod enc Tryz.prog W 0 (λ_=>true) true n 44 cs=some y):∃ x:TD,cs=tdC x/\x.ok W/\x.nm.size<=maxLen:=by
 obtain⟨c0,c1,c2,c3,rfl⟩:=zm5 hl;obtain⟨xs,m,_,_,_,hlen,hf⟩:=DataW.trod_struct Tryz.underlying44 h;obtain⟨y0,y1,y2,y3,rfl⟩:=zm5 (show xs.length=4 from hlen)
 have h0:DataW.trod enc Tryz.prog W 0 (λ_=>true) true m 9 [c0]=some y0:=by
  have:=hf 0 _ rfl;simpa[Tryz.cellsStr]using this
 have h1:DataW.trod enc Tryz.prog W 0 (λ_=>true) true m 3 [c1]=some y1:=by
  have:=hf 1 _ rfl;simpa[Tryz.cellsInt]using this
 have h2:DataW.trod enc Tryz.prog W 0 (λ_=>true) true m 3 [c2]=some y2:=by
  have:=hf 2 _ rfl;simpa[Tryz.cellsInt]using this
 have h3:DataW.trod enc Tryz.prog W 0 (λ_=>true) true m 40 [c3]=some y3:=by
  have:=hf 3 _ rfl;simpa[Tryz.cellsSInt]using this
 obtain⟨s,e0,_,hs⟩:=DataW.trod_string Tryz.underlying9 h0;obtain⟨x1,e1,_,_⟩:=DataW.trod_int Tryz.underlying3 h1;obtain⟨x2,e2,_,_⟩:=DataW.trod_int Tryz.underlying3 h2;obtain⟨l,a,c,e3,hl3⟩:=znK h3;simp only[List.cons.injEq,and_true]at e0 e1 e2;subst e0 e1 e2 e3;exact⟨⟨s,x1,x2,a,c,l⟩,rfl,hl3,hs⟩
theorem ztd {H:Type} {enc:TypeId × Value->H} {W:World} (cs:List Value) (n:Nat) (y:DataW H × List MemPlace) (hl:cs.length=7)
 (h:DataW.trod enc Tryz.prog W 0 (λ_=>true) true n 62 cs=some y):∃ x:FD,cs=fdC x/\x.nm.size<=maxLen:=by
 obtain⟨c0,c1,c2,c3,c4,c5,c6,rfl⟩:=zt0 hl;obtain⟨xs,m,_,_,_,hlen,hf⟩:=DataW.trod_struct Tryz.underlying62 h;obtain⟨y0,y1,y2,y3,rfl⟩:=zm5 (show xs.length=4 from hlen)
 have h0:DataW.trod enc Tryz.prog W 0 (λ_=>true) true m 9 [c0]=some y0:=by
  have:=hf 0 _ rfl;simpa[Tryz.cellsStr]using this
 have h1:DataW.trod enc Tryz.prog W 0 (λ_=>true) true m 3 [c1]=some y1:=by
  have:=hf 1 _ rfl;simpa[Tryz.cellsInt]using this
 have h2:DataW.trod enc Tryz.prog W 0 (λ_=>true) true m 47 [c2,c3,c4,c5]=some y2:=by
  have:=hf 2 _ rfl;simpa[Tryz.cellsTy]using this
 have h3:DataW.trod enc Tryz.prog W 0 (λ_=>true) true m 4 [c6]=some y3:=by
  have:=hf 3 _ rfl;simpa[Tryz.cellsBool]using this
 obtain⟨s,e0,_,hs⟩:=DataW.trod_string Tryz.underlying9 h0;obtain⟨x1,e1,_,_⟩:=DataW.trod_int Tryz.underlying3 h1;obtain⟨t,e2⟩:=ze0 h2;obtain⟨x3,e3,_⟩:=DataW.trod_bool Tryz.underlying4 h3;simp only[List.cons.injEq,and_true]at e0 e1 e2 e3;obtain⟨rfl,rfl,rfl,rfl⟩:=e2;subst e0 e1 e3;exact⟨⟨s,x1,t,x3⟩,rfl,hs⟩
theorem zsu {H:Type} {enc:TypeId × Value->H} {W:World} (cs:List Value) (n:Nat) (y:DataW H × List MemPlace) (hl:cs.length=12)
 (h:DataW.trod enc Tryz.prog W 0 (λ_=>true) true n 51 cs=some y):∃ x:MD,cs=mdC x/\x.ok W/\x.nm.size<=maxLen:=by
 obtain⟨c0,c1,c2,c3,c4,c5,c6,c7,c8,c9,c10,c11,rfl⟩:=zuv hl;obtain⟨xs,m,_,_,_,hlen,hf⟩:=DataW.trod_struct Tryz.underlying51 h;obtain⟨y0,y1,y2,y3,y4,y5,y6,y7,y8,rfl⟩:=zwP (show xs.length=9 from hlen)
 have h0:DataW.trod enc Tryz.prog W 0 (λ_=>true) true m 9 [c0]=some y0:=by
  have:=hf 0 _ rfl;simpa[Tryz.cellsStr]using this
 have h1:DataW.trod enc Tryz.prog W 0 (λ_=>true) true m 3 [c1]=some y1:=by
  have:=hf 1 _ rfl;simpa[Tryz.cellsInt]using this
 have h2:DataW.trod enc Tryz.prog W 0 (λ_=>true) true m 3 [c2]=some y2:=by
  have:=hf 2 _ rfl;simpa[Tryz.cellsInt]using this
 have h3:DataW.trod enc Tryz.prog W 0 (λ_=>true) true m 45 [c3]=some y3:=by
  have:=hf 3 _ rfl;simpa[Tryz.cellsSTy]using this
 have h4:DataW.trod enc Tryz.prog W 0 (λ_=>true) true m 47 [c4,c5,c6,c7]=some y4:=by
  have:=hf 4 _ rfl;simpa[Tryz.cellsTy]using this
 have h5:DataW.trod enc Tryz.prog W 0 (λ_=>true) true m 45 [c8]=some y5:=by
  have:=hf 5 _ rfl;simpa[Tryz.cellsSTy]using this
 have h6:DataW.trod enc Tryz.prog W 0 (λ_=>true) true m 3 [c9]=some y6:=by
  have:=hf 6 _ rfl;simpa[Tryz.cellsInt]using this
 have h7:DataW.trod enc Tryz.prog W 0 (λ_=>true) true m 48 [c10]=some y7:=by
  have:=hf 7 _ rfl;simpa[Tryz.cellsSIns]using this
 have h8:DataW.trod enc Tryz.prog W 0 (λ_=>true) true m 49 [c11]=some y8:=by
  have:=hf 8 _ rfl;simpa[Tryz.cellsSCl]using this
 obtain⟨s,e0,_,hs⟩:=DataW.trod_string Tryz.underlying9 h0;obtain⟨x1,e1,_,_⟩:=DataW.trod_int Tryz.underlying3 h1;obtain⟨x2,e2,_,_⟩:=DataW.trod_int Tryz.underlying3 h2;obtain⟨l3,a3,q3,e3,g3⟩:=zl2 h3;obtain⟨t,e4⟩:=ze0 h4;obtain⟨l5,a5,q5,e5,g5⟩:=zl2 h5;obtain⟨x6,e6,_,_⟩:=DataW.trod_int Tryz.underlying3 h6;obtain⟨l7,a7,q7,e7,g7⟩:=zpC h7;obtain⟨l8,a8,q8,e8,g8⟩:=zqV h8;simp only[List.cons.injEq,and_true]at e0 e1 e2 e4 e6;obtain⟨rfl,rfl,rfl,rfl⟩:=e4;subst e0 e1 e2 e3 e5 e6 e7 e8;exact⟨⟨s,x1,x2,a3,q3,l3,t,a5,q5,l5,x6,a7,q7,l7,a8,q8,l8⟩,rfl,⟨g3,g5,g7,g8⟩,hs⟩
def ImV (W:World) (v:Value) (g:Img):Prop:=v=imV g/\Im W g/\g.nmOk
set_option maxRecDepth 100000 in
theorem open_api_Image {H:Type} {enc:TypeId × Value->H} {W:World} {base:Nat} {v:Value} {d:DataW H} {p:List MemPlace}
 (hv:Value.okWide Tryz.prog W .any base 26 v) (h:DataW.Trod enc Tryz.prog W 0 (λ_=>true) true 26 v d p):∃ g,ImV W v g:=by
 obtain⟨cs,rfl,hsz⟩:=okWide_struct Tryz.underlying26 hv;obtain⟨fuel,hf0⟩:=h;have hl:cs.toList.length=4:=by have:=hsz.trans Tryz.cellsIm;simpa[Value.cells]using this
 have hf1:DataW.trod enc Tryz.prog W 0 (λ_=>true) true fuel 26 cs.toList=some (d,p):=by simpa[Value.cells]using hf0
 obtain⟨c0,c1,c2,c3,hcs⟩:=zm5 hl;rw[hcs]at hf1;obtain⟨xs,m,_,_,_,hlen,hf⟩:=DataW.trod_struct Tryz.underlying26 hf1;obtain⟨y0,y1,y2,y3,rfl⟩:=zm5 (show xs.length=4 from hlen)
 have h0:DataW.trod enc Tryz.prog W 0 (λ_=>true) true m 22 [c0]=some y0:=by
  have:=hf 0 _ rfl;simpa[Tryz.cellsSTD]using this
 have h1:DataW.trod enc Tryz.prog W 0 (λ_=>true) true m 23 [c1]=some y1:=by
  have:=hf 1 _ rfl;simpa[Tryz.cellsSFD]using this
 have h2:DataW.trod enc Tryz.prog W 0 (λ_=>true) true m 24 [c2]=some y2:=by
  have:=hf 2 _ rfl;simpa[Tryz.cellsSMD]using this
 have h3:DataW.trod enc Tryz.prog W 0 (λ_=>true) true m 3 [c3]=some y3:=by
  have:=hf 3 _ rfl;simpa[Tryz.cellsInt]using this
 obtain⟨lt,ht,qt⟩:=zjC (Q:=λx:TD=>x.ok W/\x.nm.size<=maxLen) tdE ⟨ByteArray.empty,0,0,none,0,[]⟩ 22 44 Tryz.underlying22 Tryz.cellsTD zsx h0
 obtain⟨lf,hff,qf⟩:=zjC (Q:=λx:FD=>x.nm.size<=maxLen) fdE ⟨ByteArray.empty,0,(0,0,0,false),false⟩ 23 62 Tryz.underlying23 Tryz.cellsFD ztd h1
 obtain⟨lm,hm,qm⟩:=zjC (Q:=λx:MD=>x.ok W/\x.nm.size<=maxLen) mdE ⟨ByteArray.empty,0,0,none,0,[],(0,0,0,false),none,0,[],0,none,0,[],none,0,[]⟩ 24 51 Tryz.underlying24 Tryz.cellsMD zsu h2
 obtain⟨x3,e3,_,_⟩:=DataW.trod_int Tryz.underlying3 h3;simp only[List.cons.injEq,and_true]at e3;subst e3;obtain⟨ta,tc,rfl,_,_⟩:=ht.shape;obtain⟨fa,fc,rfl,_,_⟩:=hff.shape;obtain⟨ma,mc,rfl,_,_⟩:=hm.shape;refine⟨⟨ta,tc,lt,fa,fc,lf,ma,mc,lm,x3⟩, ?_,⟨ht,λx hx=>(qt x hx).1,hff,hm,λx hx=>(qm x hx).1⟩,⟨λx hx=>(qt x hx).2,qf,λx hx=>(qm x hx).2⟩⟩
 unfold imV
 congr 1
 apply Array.toList_inj.1;exact hcs
end Go.Proofs.YtkedhjdipnhgdaaGreat

namespace Go.Proofs.YtkedhjdipnhgdaaGreat
set_option maxHeartbeats 16000000
set_option linter.all false
open RowKit
theorem znw (g:Img):∀ (k i:Nat),(zfk g k i).2=0->∀ j,i<=j->j<i+k->zdw g j=0
 | 0,i,_,j,h1,h2=>by omega
 | k+1,i,h,j,h1,h2=>by
  unfold zfk at h;by_cases he:zdw g i=0
  ·rw[if_pos he]at h;by_cases hij:j=i
   ·subst hij;exact he
   ·exact znw g k (i+1) h j (by omega) (by omega)
  ·rw[if_neg he]at h;exact absurd h he
theorem zla {g:Img} (h:zaY g=true):imB g=true/\∀ t,zam t g.ts.length=true->zct (flI g t) (exI g t)=true/\zb5 g t=true/\zcd g t=true/\zfc g t=true/\zes g t=true:=by
 unfold zaY zcg at h;rw[decide_eq_true_iff]at h;by_cases hi:imB g=true
 ·rw[if_pos hi]at h;refine⟨hi,λt ht=>?_⟩
  have ht':=zai.1 ht;have:=znw g _ _ h t.toNat (Nat.zero_le _) (by omega)
  rw[show ((t.toNat:Nat):Int)=t by omega]at this
  unfold zdw at this
  cases ha:(zct (flI g t) (exI g t)&&zb5 g t&&zcd g t) with
  | false=>rw[ha,if_pos rfl]at this;omega
  | true =>
   rw[ha,if_neg (by decide)]at this
   cases hb:zfc g t with
   | false=>rw[hb,if_pos rfl]at this;omega
   | true =>
    rw[hb,if_neg (by decide)]at this
    cases hc:zes g t with
    | false=>rw[hc,if_pos rfl]at this;omega
    | true =>
     rw[Bool.and_eq_true,Bool.and_eq_true]at ha;exact⟨ha.1.1,ha.1.2,ha.2,rfl,rfl⟩
 ·rw[if_neg hi]at h;simp at h
def zoE (g:Img):Nat->Int->List Int
 | 0,_=>[]
 | k+1,t=>if zam t g.ts.length=true then t :: zoE g k (exI g t) else []
theorem znx (g:Img):∀ (k:Nat) (l:List Int) (t:Int) (K:Nat),k<=K->(k≠0∨l≠[])->(∀ h:l≠[],exI g (l.getLast h)=t) ->
 (∀ h:upG g k l t≠[],zam (exI g ((upG g k l t).getLast h)) g.ts.length=false)->upG g k l t=l ++ zoE g K t
 | 0,l,t,K,hk,h0,hl,hs=>by
  have hne:l≠[]:=by exact h0.resolve_left (λh=>h rfl)
  have:=hs hne;have h2:zam t g.ts.length=false:=by rw[<- hl hne];exact this
  show l=l ++ zoE g K t
  cases K with
  | zero=>simp[zoE]
  | succ K=>unfold zoE;rw[h2];simp
 | k+1,l,t,K,hk,h0,hl,hs=>by
  obtain⟨K',rfl⟩:∃ K',K=K'+1:=⟨K - 1,by omega⟩
  by_cases hc:zam t g.ts.length=true/\l.contains t=false
  ·have he:upG g (k+1) l t=upG g k (l ++ [t]) (exI g t):=by rw[upG,if_pos hc]
   have ih:=znx g k (l ++ [t]) (exI g t) K' (by omega) (Or.inr (by simp)) (λh=>by simp) (λh=>by
    have:=hs (by rw[he];exact h)
    simpa[he]using this)
   have hcn:zoE g (K'+1) t=t :: zoE g K' (exI g t):=by show (if _ then _ else _)=_;rw[if_pos hc.1]
   rw[he,ih,hcn,List.append_assoc];rfl
  ·have he:upG g (k+1) l t=l:=by rw[upG,if_neg hc]
   rw[he];have hn:zam t g.ts.length=false:=by
    by_cases hne:l=[]
    ·subst hne
     cases hn:zam t g.ts.length with
     | false=>rfl
     | true=>exact absurd ⟨hn,by simp⟩ hc
    ·have:=hs (by rw[he];exact hne)
     rw[<- hl hne];simpa[he]using this
   unfold zoE;rw[hn];simp
structure Wel (g:Img):Prop where
 im:imB g=true
 flg:∀ t,zam t g.ts.length=true->zct (flI g t) (exI g t)=true
 ext:∀ t,zam t g.ts.length=true->zb5 g t=true
 fac:∀ t,zam t g.ts.length=true->zcd g t=true
theorem Wel.of {g:Img} (h:zaY g=true):Wel g:=by
 obtain⟨h1,h2⟩:=zla h;exact⟨h1,λt ht=>(h2 t ht).1,λt ht=>(h2 t ht).2.1,λt ht=>(h2 t ht).2.2.1⟩
theorem zcw (g:Img) (t:Int):Nd g.ts.length 0 (upL g t):=by rw[<- zpp];exact zcx _ _ _
theorem ztg {g:Img} {t x:Int}:x∈upL g t↔Rch g.ts.length (upS g) [t] x:=by rw[<- zpp];exact zcL
theorem zhj {g:Img} {t:Int} (h:zam t g.ts.length=false):upL g t=[]:=by unfold upL;rw[upG,if_neg (by rw[h];simp)]
theorem zgC {g:Img} {t:Int} (h:zam t g.ts.length=true):t∈upL g t:=ztg.2 (λS hS _=>hS t (by simp) h)
theorem zoZ {g:Img} (W:Wel g) {t:Int} (h:zam t g.ts.length=true):∀ K,g.ts.length+2<=K->upL g t=zoE g K t:=by
 intro K hK;have hx:=W.ext t h;unfold zb5 at hx;rw[Bool.and_eq_true]at hx;have:=znx g (g.ts.length+2) [] t K hK (Or.inl (by omega)) (λh=>absurd rfl h) (λhne=>by
  have h2:=hx.2;unfold upL at h2;rw[List.getLast?_eq_some_getLast hne]at h2;simp only[decide_eq_true_iff]at h2;rw[h2];rfl)
 simpa[upL]using this
theorem zbz {g:Img} (W:Wel g) {t:Int} (h:zam t g.ts.length=true):upL g t=t :: upL g (exI g t):=by
 rw[zoZ W h (g.ts.length+3) (by omega)]
 unfold zoE;rw[if_pos h]
 cases he:zam (exI g t) g.ts.length with
 | true=>rw[<- zoZ W he (g.ts.length+2) (Nat.le_refl _)]
 | false=>rw[zhj he];unfold zoE;rw[he];simp
theorem zoh {g:Img} (W:Wel g) {t:Int} (h:zag g t=2):zam t g.ts.length=true/\exI g t = -1:=by
 have hn:zam t g.ts.length=true:=by
  cases hn:zam t g.ts.length with
  | true=>rfl
  | false=>unfold zag at h;rw[hn]at h;simp at h
 refine⟨hn, ?_⟩;have hf:=W.flg t hn;unfold zag at h;rw[if_pos hn]at h;unfold zct at hf;rw[if_pos h,Bool.and_eq_true]at hf;simpa using hf.1
theorem zp1 {g:Img} {t x:Int}:x∈zbj g t↔Rch g.ts.length (fsI g) ((upL g t).flatMap (fsI g)) x:=by unfold zbj;rw[zcL]
theorem zvI {g:Img} {t x:Int} (h:x∈upL g t):zam x g.ts.length=true:=(zcw g t).1 x h
theorem ziL {g:Img} (W:Wel g) {t f:Int} (ht:zam t g.ts.length=true) (h:f∈fsI g t):zag g f=2:=by
 have hf:=W.fac t ht;unfold zcd at hf;rw[Bool.and_eq_true,Bool.and_eq_true,List.all_eq_true]at hf;simpa using hf.1.1 f h
theorem zgZ {g:Img} (W:Wel g) {t f:Int} (h:f∈zbj g t):zag g f=2:=by
 refine zp1.1 h (λf=>zag g f=2) (λy hy _=>?_) (λy hy z hz _=>ziL W (zoh W hy).1 hz)
 obtain⟨u,hu,hy⟩:=List.mem_flatMap.1 hy;exact ziL W (zvI hu) hy
theorem zn5 {g:Img} (W:Wel g):∀ (n:Nat) (t:Int),zam t g.ts.length=true->(upL g t).length<=n->∀ u∈(upL g t).drop 1,zag g u=0
 | 0,t,ht,hn,u,hu=>by rw[zbz W ht]at hn;simp at hn
 | n+1,t,ht,hn,u,hu=>by
  have hc:=zbz W ht;rw[hc]at hu hn;simp only[List.drop_succ_cons,List.drop_zero]at hu;have he:zam (exI g t) g.ts.length=true:=by
   cases he:zam (exI g t) g.ts.length with
   | true=>rfl
   | false=>rw[zhj he]at hu;simp at hu
  have hc2:=zbz W he;rw[hc2]at hu
  rcases List.mem_cons.1 hu with rfl | hu
  ·have hx:=W.ext t ht;unfold zb5 at hx;rw[Bool.and_eq_true]at hx;rw[Bool.or_eq_true]at hx
   rcases hx.1 with h | h
   ·rw[decide_eq_true_iff]at h;rw[h]at he;simp[zam]at he
   ·rw[Bool.and_eq_true]at h;simpa using h.1
  ·exact zn5 W n (exI g t) he (by simpa using hn) u (by rw[hc2];simpa using hu)
theorem zjO {g:Img} (W:Wel g) {t u:Int} (ht:zam t g.ts.length=true) (hu:u∈upL g t) (hne:u≠t):u∈(upL g t).drop 1:=by
 rw[zbz W ht]at hu ⊢
 rcases List.mem_cons.1 hu with rfl | hu
 ·exact absurd rfl hne
 ·simpa using hu
theorem zgl {g:Img} {a b:Int}:zmn g a b=true↔b∈upL g a∨b∈zbj g a:=by unfold zmn;rw[Bool.or_eq_true,List.contains_iff_mem,List.contains_iff_mem]
theorem zds {l:List Int} {f:Int->List Int} {q:Nat} (hq:q<l.length):(l.take (q+1)).flatMap f=(l.take q).flatMap f ++ f l[q]:=by
 rw[List.take_succ_eq_append_getElem hq,List.flatMap_append];simp
end Go.Proofs.YtkedhjdipnhgdaaGreat
