import Derived.Test.YtkedhjdipnhgdaaGreatR04
namespace Go.Proofs.YtkedhjdipnhgdaaGreat
set_option maxHeartbeats 16000000
set_option linter.all false
open Go.ChangeShapes Go.WideShapes Go.ChangeAt Go.RowKit
theorem zhr {α:Type} (E:Enc α) (dft:α) {P:Program} {H:Type} {enc:TypeId × Value->H} {W:World} {v:Value} {n:Nat} {y:DataW H × List MemPlace} (ts t:TypeId) (ht:P.underlying ts=some (.slice t)) (hcells:P.cellsOf t=E.size)
 (hel:∀ (cs:List Value) (n:Nat) (y:DataW H × List MemPlace),cs.length=E.size->DataW.trod enc P W 0 (λ_=>true) true n t cs=some y->∃ x,cs=E.cells x)
 (h:DataW.trod enc P W 0 (λ_=>true) true n ts [v]=some y):∃ l,Es E W v l:=by
 haveI:Inhabited α:=⟨dft⟩
 rcases Go.Deep.open_slice ht h with ⟨hcs,_⟩ | ⟨a,len,cap,m,k,D,Pl,hcs,_,hl,hm,hmm,_,hx⟩
 ·simp at hcs;subst hcs;exact⟨[],Es.nil E W⟩
 ·simp at hcs;subst hcs;simp only[if_true]at hmm;rw[hcells]at hx;obtain⟨f,hf⟩:=Go.Deep.choose_lt (n:=len) (p:=λi (x:α)=>∀ j u,(E.cells x)[j]? =some u->W.cell? (a.add (i * E.size+j))=some u) λi hi=>by
   obtain⟨cs',h1,h2⟩:=hx i (by omega)
   obtain⟨_,hlen,h3⟩:=World.cells?_some h1;obtain⟨x,hxc⟩:=hel _ _ _ (by simpa using hlen) h2
   refine⟨x,λj u hj=>?_⟩
   have hjl:j<E.size:=by rw[<- E.len x];exact (List.getElem?_eq_some_iff.1 hj).1
   have g:=h3 j hjl;rw[Go.Deep.add_add a (i * E.size) j]at g;rw[g];have hx2:cs'[j]? =some u:=by
    have:=congrArg (λt=>t[j]?) hxc
    rw[hj]at this;simpa using this
   exact hx2
  refine⟨(List.range len).map f,some a,cap,by simp,by simpa using hl,hm,λhne=>?_⟩
  have hpos:0<len:=by
   rcases Nat.eq_zero_or_pos len with h | h
   ·subst h;simp at hne
   ·exact h
  obtain⟨u0,hu0⟩:∃ u,(E.cells (f 0))[0]? =some u:=by
   have:=E.pos;rw[<- E.len (f 0)]at this;exact⟨_,List.getElem?_eq_getElem this⟩
  have h0:=hf 0 hpos 0 u0 hu0;obtain⟨b,off,spot⟩:=a;have hspot:spot=none:=by simpa[Addr.add]using World.cell?_spot h0
  subst hspot;have hplain:∀ i,(⟨b,off,none⟩:Addr).add i=⟨b,off+i,none⟩:=λi=>by unfold Addr.add;split <;> simp_all
  have hb:b<W.heap.size:=by have:=World.block_lt_of_cell? W _ h0;simpa[Addr.add]using this
  have hes:Es E W (.slice (some ⟨b,off,none⟩) ((List.range len).map f).length cap) ((List.range len).map f):=by
   refine Es.of_parts (by simpa using hl) hm hb λi hi j u hj=>?_
   simp only[List.length_map,List.length_range]at hi;simp only[List.getElem_map,List.getElem_range]at hj;have:=hf i hi j u hj;rw[hplain,<- Nat.add_assoc]at this;exact this
  obtain⟨_,_,he,_,_,h3⟩:=hes;simp only[Value.slice.injEq]at he;obtain⟨rfl,_,_⟩:=he;exact h3 hne
theorem ztB {α:Type} {cs:List α} (h:cs.length=10):∃ c0 c1 c2 c3 c4 c5 c6 c7 c8 c9,cs=[c0,c1,c2,c3,c4,c5,c6,c7,c8,c9]:=by
 match cs,h with
 | [c0,c1,c2,c3,c4,c5,c6,c7,c8,c9],_=>exact⟨c0,c1,c2,c3,c4,c5,c6,c7,c8,c9,rfl⟩
theorem zt0 {α:Type} {cs:List α} (h:cs.length=7):∃ c0 c1 c2 c3 c4 c5 c6,cs=[c0,c1,c2,c3,c4,c5,c6]:=by
 match cs,h with
 | [c0,c1,c2,c3,c4,c5,c6],_=>exact⟨c0,c1,c2,c3,c4,c5,c6,rfl⟩
theorem Tryz.cellsClause:Tryz.prog.cellsOf 85=10:=by kernel_rfl
theorem zjt {H:Type} {enc:TypeId × Value->H} {W:World} (cs:List Value) (n:Nat) (y:DataW H × List MemPlace) (hl:cs.length=10)
 (h:DataW.trod enc Tryz.prog W 0 (λ_=>true) true n 85 cs=some y):∃ x:Cl,cs=clC x:=by
 obtain⟨c0,c1,c2,c3,c4,c5,c6,c7,c8,c9,rfl⟩:=ztB hl;obtain⟨xs,m,_,_,_,hlen,hf⟩:=DataW.trod_struct Tryz.underlying85 h;obtain⟨y0,y1,y2,y3,y4,y5,y6,rfl⟩:=zt0 (show xs.length=7 from hlen)
 have h0:DataW.trod enc Tryz.prog W 0 (λ_=>true) true m 3 [c0]=some y0:=by
  have:=hf 0 _ rfl;simpa[Tryz.cellsInt]using this
 have h1:DataW.trod enc Tryz.prog W 0 (λ_=>true) true m 3 [c1]=some y1:=by
  have:=hf 1 _ rfl;simpa[Tryz.cellsInt]using this
 have h2:DataW.trod enc Tryz.prog W 0 (λ_=>true) true m 3 [c2]=some y2:=by
  have:=hf 2 _ rfl;simpa[Tryz.cellsInt]using this
 have h3:DataW.trod enc Tryz.prog W 0 (λ_=>true) true m 3 [c3]=some y3:=by
  have:=hf 3 _ rfl;simpa[Tryz.cellsInt]using this
 have h4:DataW.trod enc Tryz.prog W 0 (λ_=>true) true m 3 [c4]=some y4:=by
  have:=hf 4 _ rfl;simpa[Tryz.cellsInt]using this
 have h5:DataW.trod enc Tryz.prog W 0 (λ_=>true) true m 3 [c5]=some y5:=by
  have:=hf 5 _ rfl;simpa[Tryz.cellsInt]using this
 have h6:DataW.trod enc Tryz.prog W 0 (λ_=>true) true m 47 [c6,c7,c8,c9]=some y6:=by
  have:=hf 6 _ rfl;simpa[Tryz.cellsInt,Tryz.cellsTy]using this
 obtain⟨x0,e0,_,_⟩:=DataW.trod_int Tryz.underlying3 h0;obtain⟨x1,e1,_,_⟩:=DataW.trod_int Tryz.underlying3 h1;obtain⟨x2,e2,_,_⟩:=DataW.trod_int Tryz.underlying3 h2;obtain⟨x3,e3,_,_⟩:=DataW.trod_int Tryz.underlying3 h3;obtain⟨x4,e4,_,_⟩:=DataW.trod_int Tryz.underlying3 h4;obtain⟨x5,e5,_,_⟩:=DataW.trod_int Tryz.underlying3 h5;obtain⟨t,e6⟩:=ze0 h6;simp only[List.cons.injEq,and_true]at e0 e1 e2 e3 e4 e5 e6;obtain⟨rfl,rfl,rfl,rfl⟩:=e6;subst e0 e1 e2 e3 e4 e5;exact⟨⟨x0,x1,x2,x3,x4,x5,t.1,t.2.1,t.2.2.1,t.2.2.2⟩,rfl⟩
end Go.Proofs.YtkedhjdipnhgdaaGreat

namespace Go.Proofs.YtkedhjdipnhgdaaGreat
set_option maxHeartbeats 16000000
set_option linter.all false
open RowKit
theorem zhK (w:World) (bs:List UInt8) (C:Array Value) (e:TypeId) (n:Nat) (hC:C=(u8s bs).toArray) (hn:n=bs.length) (hm:bs.length<=maxLen):Bs (w.alloc (.cells C e)) (.slice (some ⟨w.heap.size,0,none⟩) n n) bs:=by
 subst hC hn;exact Bs.made w bs e hm
def zvR:ByteArray:=⟨List.toArray (48 :: 52 :: 52 :: 52 :: 51 :: 51 :: 51 :: 49 :: 50 :: 48 :: 48 :: 48 :: 48 :: 48 :: 48 :: 48 :: 48 :: 48 :: 48 :: 48 :: 48 :: 48 :: 48 :: 48 :: 48 :: 48 :: 48 :: 48 :: 48 :: 48 :: 48 :: 48 :: 48 :: 53 :: 53 :: 53 :: 53 :: 53 :: 53 :: 53 :: 53 :: 53 :: 54 :: 54 :: 54 :: 48 :: 48 :: 55 :: 55 :: 55 :: 55 :: 55 :: 55 :: 56 :: 56 :: 56 :: 56 :: 48 :: 56 :: 56 :: 56 :: 56 :: 56 :: 56 :: 56 :: 56 :: 54 :: 56 :: 48 :: 48 :: 53 :: 48 :: 48 :: 48 :: 48 :: [])⟩
def zvN:ByteArray:=⟨List.toArray (48 :: 48 :: 48 :: 48 :: 48 :: 48 :: 48 :: 48 :: 48 :: 48 :: 48 :: 48 :: 48 :: 48 :: 48 :: 48 :: 48 :: 48 :: 48 :: 48 :: 48 :: 48 :: 48 :: 48 :: 48 :: 48 :: 48 :: 48 :: 48 :: 48 :: 48 :: 48 :: 48 :: 49 :: 50 :: 50 :: 50 :: 50 :: 50 :: 50 :: 50 :: 50 :: 48 :: 48 :: 48 :: 51 :: 48 :: 48 :: 48 :: 48 :: 48 :: 48 :: 48 :: 48 :: 48 :: 48 :: 48 :: 48 :: 48 :: 48 :: 48 :: 48 :: 48 :: 48 :: 48 :: 48 :: 48 :: 48 :: 51 :: 51 :: 52 :: 53 :: 53 :: 48 :: 48 :: [])⟩
theorem zl1:∀ k:Nat,k<75->((zvR.get! k).toNat:Int)=opP ((k:Int)+1)+48/\0<=opP ((k:Int)+1)/\opP ((k:Int)+1)<=8:=by decide +kernel
theorem zlG:∀ k:Nat,k<75->((zvN.get! k).toNat:Int)=opW ((k:Int)+1)+48/\0<=opW ((k:Int)+1)/\opW ((k:Int)+1)<=5:=by decide +kernel
theorem zgc {x:Int} (h0:0<=x) (h1:x<256):IntKind.u8.wrap x=x:=by
 unfold IntKind.wrap;simp[IntKind.bits,IntKind.signed];omega
theorem zl6 (d:ByteArray) (k:Nat) (h:k<d.size):d.get! k=d[k]'h:=by
 show d.data[k]! = d.data[k]'h;exact getElem!_pos d.data k h
theorem zsz (k:Nat) (hk:k<75) (h:k<zvR.size):((zvR[k]'h).toNat:Int)=opP ((k:Int)+1)+48:=by rw[<- zl6];exact (zl1 k hk).1
theorem zsD (k:Nat) (hk:k<75) (h:k<zvN.size):((zvN[k]'h).toNat:Int)=opW ((k:Int)+1)+48:=by rw[<- zl6];exact (zlG k hk).1
set_option maxRecDepth 100000 in
theorem zp5 (k:Nat) (hk:k<75) (w:World) :
 Calls Tryz.prog 48 #[.int .i64 ((k:Int)+1)] w λe w'=>e=.returned (.tuple #[.agg #[.string (opS ((k:Int)+1)),.int .i64 (opP ((k:Int)+1)),.int .i64 (opW ((k:Int)+1))],.int .i64 0])/\Below w.heap.size w w':=by
 have hA0:=At.made w #[.string ⟨#[]⟩,.int .i64 0,.int .i64 0] 81;have hb0:Below w.heap.size w (w.alloc (.cells #[.string ⟨#[]⟩,.int .i64 0,.int .i64 0] 81)):=(Below.refl _ _).alloc (Nat.le_refl _) _;have h1:(0:Int)<=(k:Int):=by omega
 have h2:(k:Int)<75:=by omega
 have hkw:IntKind.i64.wrap (k:Int)=(k:Int):=by rw[IntKind.wrap_i64];omega
 have hp:=zsz k hk hk;have hq:=zsD k hk hk;unfold zvR at hp;unfold zvN at hq;obtain⟨-,hp0,hp8⟩:=zl1 k hk;obtain⟨-,hw0,hw5⟩:=zlG k hk;generalize opP ((k:Int)+1)=p at *;generalize opW ((k:Int)+1)=q at *;have hpw:IntKind.u8.wrap p=p:=zgc (by omega) (by omega)
 have hqw:IntKind.u8.wrap q=q:=zgc (by omega) (by omega)
 have hpi:IntKind.i64.wrap p=p:=by rw[IntKind.wrap_i64];omega
 have hqi:IntKind.i64.wrap q=q:=by rw[IntKind.wrap_i64];omega
 go_enter Tryz.func48,Tryz.ntmps48;go_wp2_with fail
 go_region_held3 (λw'=>True) (exact trivial)
  (first | (go_at_call 76;refine (zgE _ _).mono ?_;rintro e wz ⟨rfl,hz⟩;subst wz))
 all_goals
  clear hp hq;go_wp2;refine bodyPost_ret (v:=_) (by simp[results,Tryz.results48,go_sem]) rfl ⟨rfl, ?_⟩
  exact Below.drewN ((Below.refl _ _).alloc (Nat.le_refl _) _) 1
theorem zij (n:Int) (h:¬ (1<=n/\n<=75)) (w:World) :
 Calls Tryz.prog 48 #[.int .i64 n] w λe w'=>e=.returned (.tuple #[.agg #[.string ⟨#[]⟩,.int .i64 0,.int .i64 0],.int .i64 3])/\Below w.heap.size w w':=by
 have hor:(decide (n<1)||decide (75<n))=true:=by simp;omega
 by_cases h1:n<1
 ·clear h hor;go_enter Tryz.func48,Tryz.ntmps48;go_wp2;refine bodyPost_ret (v:=_) (by simp[results,Tryz.results48,go_sem]) rfl ⟨rfl, ?_⟩
  exact (Below.refl _ _).alloc (Nat.le_refl _) _
 ·have h2:75<n:=by omega
  clear h hor;go_enter Tryz.func48,Tryz.ntmps48;go_wp2;refine bodyPost_ret (v:=_) (by simp[results,Tryz.results48,go_sem]) rfl ⟨rfl, ?_⟩
  exact (Below.refl _ _).alloc (Nat.le_refl _) _
def xcL:List Ins->List Value
 | []=>[]
 | x :: r=>.int .i64 x.1 :: .int .i64 x.2.1 :: .int .i64 x.2.2.1 :: .int .i64 x.2.2.2.1 :: .int .i64 x.2.2.2.2.1 :: .bool x.2.2.2.2.2 :: xcL r
theorem zga (L:List Ins):(xcL L).length=6 * L.length:=by
 induction L with
 | nil=>rfl
 | cons t r ih=>simp[xcL,ih];omega
theorem zoB:∀ (L:List Ins) (i:Nat) (h:i<L.length),(xcL L)[i * 6]? =some (.int .i64 L[i].1)/\(xcL L)[i * 6+1]? =some (.int .i64 L[i].2.1)/\(xcL L)[i * 6+2]? =some (.int .i64 L[i].2.2.1)/\(xcL L)[i * 6+3]? =some (.int .i64 L[i].2.2.2.1)/\(xcL L)[i * 6+4]? =some (.int .i64 L[i].2.2.2.2.1)/\(xcL L)[i * 6+5]? =some (.bool L[i].2.2.2.2.2)
 | t :: r,0,_=>⟨rfl,rfl,rfl,rfl,rfl,rfl⟩
 | t :: r,i+1,h=>by
  have ih:=zoB r i (by simpa using h)
  have e:(i+1) * 6=i * 6+1+1+1+1+1+1:=by omega
  simp only[xcL,e,List.getElem?_cons_succ,List.getElem_cons_succ];exact ih
def Xs (w:World) (v:Value) (l:List Ins):Prop:=
 ∃ a cap,v=.slice a l.length cap/\l.length<=cap/\cap<=maxLen /\
  (l≠[]->∃ b off,a=some ⟨b,off,none⟩/\b<w.heap.size/\∀ j u,(xcL l)[j]? =some u->w.cell? ⟨b,off+j,none⟩=some u)
theorem Xs.nil (w:World):Xs w (.slice none 0 0) []:=⟨none,0,rfl,Nat.le_refl _,Nat.zero_le _,λh=>absurd rfl h⟩
theorem Xs.len {w:World} {v:Value} {l:List Ins} (h:Xs w v l):l.length<=maxLen:=by
 obtain⟨a,cap,_,h1,h2,_⟩:=h;omega
theorem Xs.shape {w:World} {v:Value} {l:List Ins} (h:Xs w v l):∃ a c,v=.slice a l.length c/\l.length<=c/\c<=maxLen:=by
 obtain⟨a,c,h1,h2,h3,_⟩:=h;exact⟨a,c,h1,h2,h3⟩
theorem Xs.of_block {w w':World} {v:Value} {l:List Ins} (h:Xs w v l) (hs:w.heap.size<=w'.heap.size) (hk:∀ k,v.ownBlock=some k->k<w.heap.size->w'.heap[k]? =w.heap[k]?):Xs w' v l:=by
 obtain⟨a,cap,rfl,h1,h2,h3⟩:=h;refine⟨a,cap,rfl,h1,h2,λhne=>?_⟩
 obtain⟨b,off,rfl,hb,hc⟩:=h3 hne;refine⟨b,off,rfl,by omega,λj u hj=>?_⟩
 rw[<- hc j u hj];exact World.cell?_of_block (hk b rfl hb)
theorem Xs.below {w w':World} {v:Value} {l:List Ins} {B:Nat} (h:Xs w v l) (hb:Below B w w') (hk:∀ k,v.ownBlock=some k->k<B):Xs w' v l:=
 h.of_block hb.size λk hv _=>hb.block k (hk k hv)
theorem Xs.later {w w':World} {v:Value} {l:List Ins} (h:Xs w v l) (hb:Below w.heap.size w w'):Xs w' v l:=
 h.of_block hb.size λk _ hk=>hb.block k hk
theorem Xs.drewN {w:World} {v:Value} {l:List Ins} (h:Xs w v l) (n:Nat):Xs (w.drewN n) v l:=
 h.of_block (Nat.le_refl _) λ_ _ _=>rfl
def Six (w:World) (b o:Nat) (x:Ins):Prop:=w.cell? ⟨b,o,none⟩=some (.int .i64 x.1)/\w.cell? ⟨b,o+1,none⟩=some (.int .i64 x.2.1)/\w.cell? ⟨b,o+2,none⟩=some (.int .i64 x.2.2.1) /\
 w.cell? ⟨b,o+3,none⟩=some (.int .i64 x.2.2.2.1)/\w.cell? ⟨b,o+4,none⟩=some (.int .i64 x.2.2.2.2.1)/\w.cell? ⟨b,o+5,none⟩=some (.bool x.2.2.2.2.2)
theorem Six.below {w w':World} {b o B:Nat} {x:Ins} (h:Six w b o x) (hb:Below B w w') (hB:b<B):Six w' b o x:=by
 have e:∀ o,w'.cell? ⟨b,o,none⟩=w.cell? ⟨b,o,none⟩:=λo=>hb.cell (p:=⟨b,o,none⟩) hB
 unfold Six at h ⊢;simp only[e];exact h
theorem Xs.parts {w:World} {v:Value} {l:List Ins} (h:Xs w v l) (hne:l≠[]):∃ b off cap,v=.slice (some ⟨b,off,none⟩) l.length cap/\l.length<=cap/\cap<=maxLen/\b<w.heap.size/\∀ i (hi:i<l.length),Six w b (off+i * 6) l[i]:=by
 obtain⟨a,cap,rfl,h1,h2,h3⟩:=h;obtain⟨b,off,rfl,hb,hc⟩:=h3 hne;refine⟨b,off,cap,rfl,h1,h2,hb,λi hi=>?_⟩
 obtain⟨g0,g1,g2,g3,g4,g5⟩:=zoB l i hi;exact⟨hc _ _ g0,by rw[Nat.add_assoc];exact hc _ _ g1,by rw[Nat.add_assoc];exact hc _ _ g2,by rw[Nat.add_assoc];exact hc _ _ g3,by rw[Nat.add_assoc];exact hc _ _ g4,by rw[Nat.add_assoc];exact hc _ _ g5⟩
def OwnX (w:World) (base:Nat) (v:Value) (l:List Ins):Prop:=w.ownsRow base 65 6 v l.length (xcL l)
theorem OwnX.xs {w:World} {base:Nat} {v:Value} {l:List Ins} (h:OwnX w base v l):Xs w v l:=by
 obtain⟨h1,h2⟩:=h
 rcases h2 with ⟨rfl,h0⟩ | ⟨g,cap,cur,rfl,hg,hh,hn,hm,hs,ht⟩
 ·have:l=[]:=List.eq_nil_of_length_eq_zero h0;subst this;exact Xs.nil w
 ·refine⟨_,cap,rfl,hn,hm,λ_=>⟨g,0,rfl,(Array.getElem?_eq_some_iff.1 hh).1,λj u hj=>?_⟩⟩
  have hjl:j<6 * l.length:=by rw[<- zga];exact (List.getElem?_eq_some_iff.1 hj).1
  rw[<- ht,List.getElem?_take,if_pos (by omega)]at hj
  simp only[World.cell?,hh,Nat.zero_add];simpa using hj
theorem OwnX.block {w:World} {base:Nat} {v:Value} {l:List Ins} (h:OwnX w base v l):∀ k,v.ownBlock=some k->base<=k/\k<w.heap.size:=World.ownsRow.lt h
theorem OwnX.of_block {w w':World} {base:Nat} {v:Value} {l:List Ins} (h:OwnX w base v l) (hb:∀ k,v.ownBlock=some k->k<w.heap.size->w'.heap[k]? =w.heap[k]?):OwnX w' base v l:=by
 obtain⟨h1,h2⟩:=h;refine⟨h1, ?_⟩
 rcases h2 with h2 | ⟨g,cap,cur,rfl,hg,hh,r⟩
 ·exact Or.inl h2
 ·exact Or.inr ⟨g,cap,cur,rfl,hg,by rw[hb g rfl (Array.getElem?_eq_some_iff.1 hh).1];exact hh,r⟩
theorem OwnX.later {w w':World} {base:Nat} {v:Value} {l:List Ins} (h:OwnX w base v l) (hb:Below w.heap.size w w'):OwnX w' base v l:=
 h.of_block λk _ hk=>hb.block k hk
theorem OwnX.nil (w:World) (base:Nat):OwnX w base (.slice none 0 0) []:=World.ownsRow_nil w base 65 6
theorem OwnX.typed {w:World} {base:Nat} {v:Value} {l:List Ins} (h:OwnX w base v l):∀ k,v.ownBlock=some k->∃ C,At w k C 65:=by
 intro k hk
 rcases h.2 with ⟨rfl,_⟩ | ⟨g,cap,cur,rfl,hg,hh,r⟩
 ·simp[Value.ownBlock]at hk
 ·simp[Value.ownBlock]at hk;subst hk;exact⟨cur,hh⟩
theorem OwnX.empty (w:World) (base:Nat) (hb:base<=w.heap.size):OwnX (w.alloc (.cells #[] 65)) base (.slice (some ⟨w.heap.size,0,none⟩) 0 0) []:=by
 have:=World.ownsRow_lit (base:=base) (e:=65) (size:=6) w #[] 0 hb (Nat.zero_le _) (by simp)
 unfold OwnX;simpa[xcL]using this
theorem OwnX.lit (w:World) (base:Nat) (l:List Ins) (C:Array Value) (n:Nat) (hb:base<=w.heap.size) (hC:C=(xcL l).toArray) (hn:n=l.length) (hm:l.length<=maxLen) :
 OwnX (w.alloc (.cells C 65)) base (.slice (some ⟨w.heap.size,0,none⟩) n n) l:=by
 subst hC hn;have:=World.ownsRow_lit (base:=base) (e:=65) (size:=6) w (xcL l).toArray l.length hb hm (by simp[zga];omega)
 unfold OwnX;simpa using this
theorem OwnX.ne {w:World} {base g:Nat} {v:Value} {l:List Ins} {C:Array Value} {t:TypeId} (ho:OwnX w base v l) (h:At w g C t) (ht:t≠65):v.ownBlock≠some g:=by
 intro e;obtain⟨C',hC⟩:=ho.typed g e;unfold At at h hC;rw[h]at hC;simp only[Option.some.injEq,Obj.cells.injEq]at hC;exact ht hC.2.1
theorem zvL (W:World) (x:Ins):(binOp .neq 65 (.agg #[.int .i64 x.1,.int .i64 x.2.1,.int .i64 x.2.2.1,.int .i64 x.2.2.2.1,.int .i64 x.2.2.2.2.1,.bool x.2.2.2.2.2]) (.agg #[.int .i64 x.1,.int .i64 x.2.1,.int .i64 x.2.2.1,.int .i64 x.2.2.2.1,.int .i64 x.2.2.2.2.1,.bool x.2.2.2.2.2])).run Tryz.prog W=.ok (.bool false) W:=by
 simp[go_sem]
theorem zgk (xa xb:Option Addr) (ca cb:Nat) (w:World) :
 Calls Tryz.prog 56 #[.slice xa 0 ca,.slice xb 0 cb] w λe w'=>e=.returned (.bool true)/\w'=w:=by
 go_enter Tryz.func56,Tryz.ntmps56;go_wp2;refine wp_loop_rounds 1 ?_;rw[rounds_succ];go_wp2;go_ret;exact⟨rfl,rfl⟩
theorem zhg {w:World} {ba oa ca bb ob cb:Nat} {l:List Ins} (hl:l.length<=maxLen)
 (ha:∀ i (h:i<l.length),Six w ba (oa+i * 6) l[i]) (hb:∀ i (h:i<l.length),Six w bb (ob+i * 6) l[i]) :
 Calls Tryz.prog 56 #[.slice (some ⟨ba,oa,none⟩) l.length ca,.slice (some ⟨bb,ob,none⟩) l.length cb] w λe w'=>e=.returned (.bool true)/\∃ n,w'=w.drewN n:=by
 unfold maxLen at hl;have HA:Hid (∀ i (h:i<l.length),Six w ba (oa+i * 6) l[i]):=ha;have HB:Hid (∀ i (h:i<l.length),Six w bb (ob+i * 6) l[i]):=hb;clear ha hb;go_enter Tryz.func56,Tryz.ntmps56;go_wp2;go_loopw [5] (λz wr=>∃ q n:Nat,q<=l.length/\z=.int .i64 (q:Int)/\wr=w.drewN n) (λz _=>l.length - (intOf z).toNat)
 case atStart=>exact⟨0,0,Nat.zero_le _,rfl,rfl⟩
 case round =>
  obtain⟨q,n,hq,rfl,rfl⟩:=hrel;by_cases hql:q<l.length
  ·obtain⟨c0,c1,c2,c3,c4,c5⟩:=HA.out q hql;obtain⟨d0,d1,d2,d3,d4,d5⟩:=HB.out q hql;have hne:=λW=>zvL W l[q]
   generalize l[q]=t at *;obtain⟨o,m,k,i,d,r⟩:=t;simp only at c0 c1 c2 c3 c4 c5 d0 d1 d2 d3 d4 d5 hne;go_wp2;go_quiet (fail)
   go_wp2;go_roundw
   case rel=>exact⟨q+1,n+nq,by omega,by go_num,rfl⟩
   case measure=>simp[intOf];omega
  ·go_wp2;go_ret;exact⟨rfl,n,rfl⟩
theorem ziv {w:World} {va vb:Value} {l:List Ins} (ha:Xs w va l) (hb:Xs w vb l) :
 Calls Tryz.prog 56 #[va,vb] w λe w'=>e=.returned (.bool true)/\∃ n,w'=w.drewN n:=by
 have hl:=ha.len;by_cases hne:l=[]
 ·subst hne;obtain⟨xa,ca,rfl,_,_,_⟩:=ha;obtain⟨xb,cb,rfl,_,_,_⟩:=hb;refine (zgk xa xb ca cb w).mono ?_;rintro e w' ⟨rfl,rfl⟩;exact⟨rfl,0,rfl⟩
 ·obtain⟨ba,oa,ca,rfl,_,_,_,ha⟩:=ha.parts hne;obtain⟨bb,ob,cb,rfl,_,_,_,hb⟩:=hb.parts hne;exact zhg hl ha hb
end Go.Proofs.YtkedhjdipnhgdaaGreat

namespace Go.Proofs.YtkedhjdipnhgdaaGreat
set_option maxHeartbeats 16000000
set_option linter.all false
open RowKit
attribute [local go_sem ↓] wp_at_zero wp_at_succ
theorem zah {P:Program} {f:FuncId} {fn:Func} {c:Code} (hf:P.funcs[f]? =some fn) (hname:(fn.name == "runtime.NumGoroutine")=false) (hb:fn.body=some c) (args:Array Value) (w:World) :
 (callFunc f args).run P w=.ok (.enter f args) w:=by
 have h1:¬ fn.name = "runtime.NumGoroutine" := by simpa using hname
 simp[callFunc,hf,h1,hb]
theorem zaS {α:Type} {p:α->Bool} {l:List α} {q:Nat} (hq:q<l.length) (h:(l.take q).any p=false) (hx:p l[q]=false):(l.take (q+1)).any p=false:=by
 rw[List.take_succ_eq_append_getElem hq,List.any_append,h];simpa using hx
structure Tells {α:Type} (P:Program) (V:α->Value) (w:World) (f:FuncId) (bs cs:Array Value) (p:α->Bool) (l:List α):Prop where
 enter:∀ args W,(callFunc f args).run P W=.ok (.enter f args) W
 tells:∀ W,Below w.heap.size w W->∀ x∈l,Calls P f (bs.push (V x) ++ cs) W λe w'=>e=.returned (.bool (p x))/\Below W.heap.size W w'
theorem Tells.later {α:Type} {P:Program} {V:α->Value} {w w':World} {f:FuncId} {bs cs:Array Value} {p:α->Bool} {l:List α} (h:Tells P V w f bs cs p l) (hb:Below w.heap.size w w'):Tells P V w' f bs cs p l:=
 ⟨h.enter,λW hW x hx=>h.tells W (zaa hb hW) x hx⟩
theorem zk6 {b off cap:Nat} {l:List Sp} {w:World} {f:FuncId} {bs cs:Array Value} {p:Sp->Bool} (hb:b<w.heap.size) (hc:∀ i (hi:i<l.length),El spE w b (off+i * 2) l[i]) (hl:l.length<=maxLen) (hf:Tells Tryz.prog zcV w f bs cs p l) :
 Calls Tryz.prog 252 #[.slice (some ⟨b,off,none⟩) l.length cap,.func (.func f) bs cs] w λe w' =>
  (∃ k:Int,e=.returned (.int .i64 k)/\(0<=k↔l.any p=true))/\Below w.heap.size w w':=by
 unfold maxLen at hl;have HC:Hid (∀ i (hi:i<l.length),El spE w b (off+i * 2) l[i]):=hc;have HF:Hid (Tells Tryz.prog zcV w f bs cs p l):=hf;have hen:=hf.enter;clear hc hf;go_enter Tryz.func252,Tryz.ntmps252;go_wp2_with fail
 go_loopw [5,8] (λ_ z wr=>∃ q:Nat,q<=l.length/\z=.int .i64 q/\Below w.heap.size w wr/\(l.take q).any p=false) (λ_ z _=>l.length - (intOf z).toNat)
 case atStart=>exact⟨0,Nat.zero_le _,rfl,Below.refl _ _,by simp⟩
 case round =>
  obtain⟨q,hq,rfl,hB,hany⟩:=hrel;have HAn:Hid ((l.take q).any p=false):=hany;have hsz:=hB.size;clear hany;by_cases hql:q<l.length
  ·obtain⟨c0,c1⟩:=((HC.out q hql).below hB hb).two;have HN:Hid (p l[q]=false->(l.take (q+1)).any p=false):=zaS hql HAn.out;have HY:Hid (p l[q]=true->l.any p=true):=λh=>List.any_eq_true.2 ⟨_,List.getElem_mem hql,h⟩
   have HL:Hid (Calls Tryz.prog f (bs.push (zcV l[q]) ++ cs) wr λe w'=>e=.returned (.bool (p l[q]))/\Below wr.heap.size wr w'):=HF.out.tells wr hB _ (List.getElem_mem hql)
   generalize l[q]=x at *;have HBL:Hid (Below w.heap.size w wr):=hB;clear hB
   cases hx:p x with
   | false =>
    have H1:Hid ((l.take (q+1)).any p=false):=HN.out hx;rw[hx]at HL;go_wp2_with fail
    refine Calls.mono HL.out ?_;rintro e w1 ⟨rfl,hb1⟩;have hB1:=zaa HBL.out hb1;clear hb1;go_wp2_with fail
    go_roundw
    case rel=>exact⟨q+1,by omega,by go_num,hB1,H1.out⟩
    case measure=>simp[intOf];omega
   | true =>
    have H1:Hid (l.any p=true):=HY.out hx;rw[hx]at HL;go_wp2_with fail
    refine Calls.mono HL.out ?_;rintro e w1 ⟨rfl,hb1⟩;have hB1:=zaa HBL.out hb1;clear hb1;go_wp2_with fail
    go_ret;exact⟨⟨_,rfl,⟨λ_=>H1.out,λ_=>by omega⟩⟩,hB1⟩
  ·have HF':Hid (l.any p=false):=by
    show _=_;have:=HAn.out
    rwa [List.take_of_length_le (by omega)]at this
   go_wp2;go_ret;exact⟨⟨_,rfl,⟨λh=>absurd h (by decide),λh=>absurd h (by rw[HF'.out];decide)⟩⟩,hB⟩
theorem zku (a:Option Addr) (cap:Nat) (f:Value) (w:World) :
 Calls Tryz.prog 252 #[.slice a 0 cap,f] w λe w'=>e=.returned (.int .i64 (-1))/\w'=w:=by
 go_enter Tryz.func252,Tryz.ntmps252;go_wp2;refine wp_loop_rounds 1 ?_;rw[rounds_succ];go_wp2;go_ret;exact⟨rfl,rfl⟩
theorem zbe {v:Value} {l:List Sp} {w:World} (hX:Es spE w v l) {f:FuncId} {bs cs:Array Value} {p:Sp->Bool} (hf:Tells Tryz.prog zcV w f bs cs p l) :
 Calls Tryz.prog 239 #[v,.func (.func f) bs cs] w λe w'=>e=.returned (.bool (l.any p))/\Below w.heap.size w w':=by
 have HI:Hid (Calls Tryz.prog 252 #[v,.func (.func f) bs cs] w λe w'=>(∃ k:Int,e=.returned (.int .i64 k)/\(0<=k↔l.any p=true))/\Below w.heap.size w w'):=by
  by_cases hne:l=[]
  ·subst hne;obtain⟨a,c,rfl,_,_⟩:=hX.shape;refine (zku a c _ w).mono ?_;rintro e w' ⟨rfl,rfl⟩;exact⟨⟨_,rfl,⟨λh=>absurd h (by decide),λh=>by simp at h⟩⟩,Below.refl _ _⟩
  ·have hl:=hX.len;obtain⟨b,off,cap,rfl,h1,h2,hb,hc⟩:=hX.parts hne;exact zk6 hb hc hl hf
 clear hX hf;go_enter Tryz.func239,Tryz.ntmps239;go_wp2_with fail
 refine Calls.mono HI.out ?_;rintro e w1 ⟨⟨k,rfl,hk⟩,hb1⟩;have HK:Hid (decide (0<=k)=l.any p):=by
  show _=_;rw[Bool.eq_iff_iff,decide_eq_true_iff];exact hk
 clear hk;go_wp2;go_ret;exact⟨zab HK.out,hb1⟩
theorem zjz {b off cap:Nat} {l:List Cl} {w:World} {f:FuncId} {bs cs:Array Value} {p:Cl->Bool} (hb:b<w.heap.size) (hc:∀ i (hi:i<l.length),El zci w b (off+i * 10) l[i]) (hl:l.length<=maxLen) (hf:Tells Tryz.prog clV w f bs cs p l) :
 Calls Tryz.prog 245 #[.slice (some ⟨b,off,none⟩) l.length cap,.func (.func f) bs cs] w λe w' =>
  (∃ k:Int,e=.returned (.int .i64 k)/\(0<=k↔l.any p=true))/\Below w.heap.size w w':=by
 unfold maxLen at hl;have HC:Hid (∀ i (hi:i<l.length),El zci w b (off+i * 10) l[i]):=hc;have HF:Hid (Tells Tryz.prog clV w f bs cs p l):=hf;have hen:=hf.enter;clear hc hf;go_enter Tryz.func245,Tryz.ntmps245;go_wp2_with fail
 go_loopw [5,8] (λ_ z wr=>∃ q:Nat,q<=l.length/\z=.int .i64 q/\Below w.heap.size w wr/\(l.take q).any p=false) (λ_ z _=>l.length - (intOf z).toNat)
 case atStart=>exact⟨0,Nat.zero_le _,rfl,Below.refl _ _,by simp⟩
 case round =>
  obtain⟨q,hq,rfl,hB,hany⟩:=hrel;have HAn:Hid ((l.take q).any p=false):=hany;have hsz:=hB.size;clear hany;by_cases hql:q<l.length
  ·obtain⟨c0,c1,c2,c3,c4,c5,c6,c7,c8,c9⟩:=((HC.out q hql).below hB hb).ten;have HN:Hid (p l[q]=false->(l.take (q+1)).any p=false):=zaS hql HAn.out;have HY:Hid (p l[q]=true->l.any p=true):=λh=>List.any_eq_true.2 ⟨_,List.getElem_mem hql,h⟩
   have HL:Hid (Calls Tryz.prog f (bs.push (clV l[q]) ++ cs) wr λe w'=>e=.returned (.bool (p l[q]))/\Below wr.heap.size wr w'):=HF.out.tells wr hB _ (List.getElem_mem hql)
   generalize l[q]=x at *;have HBL:Hid (Below w.heap.size w wr):=hB;clear hB
   cases hx:p x with
   | false =>
    have H1:Hid ((l.take (q+1)).any p=false):=HN.out hx;rw[hx]at HL;go_wp2_with fail
    refine Calls.mono HL.out ?_;rintro e w1 ⟨rfl,hb1⟩;have hB1:=zaa HBL.out hb1;clear hb1;go_wp2_with fail
    go_roundw
    case rel=>exact⟨q+1,by omega,by go_num,hB1,H1.out⟩
    case measure=>simp[intOf];omega
   | true =>
    have H1:Hid (l.any p=true):=HY.out hx;rw[hx]at HL;go_wp2_with fail
    refine Calls.mono HL.out ?_;rintro e w1 ⟨rfl,hb1⟩;have hB1:=zaa HBL.out hb1;clear hb1;go_wp2_with fail
    go_ret;exact⟨⟨_,rfl,⟨λ_=>H1.out,λ_=>by omega⟩⟩,hB1⟩
  ·have HF':Hid (l.any p=false):=by
    show _=_;have:=HAn.out
    rwa [List.take_of_length_le (by omega)]at this
   go_wp2;go_ret;exact⟨⟨_,rfl,⟨λh=>absurd h (by decide),λh=>absurd h (by rw[HF'.out];decide)⟩⟩,hB⟩
theorem zko (a:Option Addr) (cap:Nat) (f:Value) (w:World) :
 Calls Tryz.prog 245 #[.slice a 0 cap,f] w λe w'=>e=.returned (.int .i64 (-1))/\w'=w:=by
 go_enter Tryz.func245,Tryz.ntmps245;go_wp2;refine wp_loop_rounds 1 ?_;rw[rounds_succ];go_wp2;go_ret;exact⟨rfl,rfl⟩
theorem zdp {v:Value} {l:List Cl} {w:World} (hX:Es zci w v l) {f:FuncId} {bs cs:Array Value} {p:Cl->Bool} (hf:Tells Tryz.prog clV w f bs cs p l) :
 Calls Tryz.prog 224 #[v,.func (.func f) bs cs] w λe w'=>e=.returned (.bool (l.any p))/\Below w.heap.size w w':=by
 have HI:Hid (Calls Tryz.prog 245 #[v,.func (.func f) bs cs] w λe w'=>(∃ k:Int,e=.returned (.int .i64 k)/\(0<=k↔l.any p=true))/\Below w.heap.size w w'):=by
  by_cases hne:l=[]
  ·subst hne;obtain⟨a,c,rfl,_,_⟩:=hX.shape;refine (zko a c _ w).mono ?_;rintro e w' ⟨rfl,rfl⟩;exact⟨⟨_,rfl,⟨λh=>absurd h (by decide),λh=>by simp at h⟩⟩,Below.refl _ _⟩
  ·have hl:=hX.len;obtain⟨b,off,cap,rfl,h1,h2,hb,hc⟩:=hX.parts hne;exact zjz hb hc hl hf
 clear hX hf;go_enter Tryz.func224,Tryz.ntmps224;go_wp2_with fail
 refine Calls.mono HI.out ?_;rintro e w1 ⟨⟨k,rfl,hk⟩,hb1⟩;have HK:Hid (decide (0<=k)=l.any p):=by
  show _=_;rw[Bool.eq_iff_iff,decide_eq_true_iff];exact hk
 clear hk;go_wp2;go_ret;exact⟨zab HK.out,hb1⟩
end Go.Proofs.YtkedhjdipnhgdaaGreat
