import Derived.Test.YtkedhjdipnhgdaaGreatR02
import Derived.Lib.Strings
import Derived.DeepKeys4
import Derived.DeepKeys3
import Derived.Maps.OwnSet
import Derived.Maps.OwnOps
namespace Go.Proofs.YtkedhjdipnhgdaaGreat
set_option maxHeartbeats 16000000
set_option linter.all false
open RowKit
structure Enc (α:Type) where
 cells:α->List Value
 size:Nat
 pos:0<size
 len:∀ x,(cells x).length=size
 one:∀ x,∀ u∈cells x,u.oneCell'=true
def ecL {α:Type} (E:Enc α) (l:List α):List Value:=l.flatMap E.cells
theorem zbm {α:Type} (E:Enc α) (l:List α):(ecL E l).length=l.length * E.size:=by
 induction l with
 | nil=>simp[ecL]
 | cons x r ih =>
  have h:ecL E (x :: r)=E.cells x ++ ecL E r:=by simp[ecL]
  rw[h,List.length_append,E.len,ih,List.length_cons,Nat.add_mul];omega
theorem zdJ {α:Type} (E:Enc α) (a b:List α):ecL E (a ++ b)=ecL E a ++ ecL E b:=by simp[ecL]
theorem zjN {α:Type} (E:Enc α):∀ (l:List α) (i:Nat) (h:i<l.length) (j:Nat) (hj:j<E.size),(ecL E l)[i * E.size+j]? =(E.cells l[i])[j]?
 | x :: r,0,_,j,hj=>by
  have h:ecL E (x :: r)=E.cells x ++ ecL E r:=by simp[ecL]
  rw[h,Nat.zero_mul,Nat.zero_add,List.getElem?_append_left (by rw[E.len];exact hj)]
  rfl
 | x :: r,i+1,h,j,hj=>by
  have e:ecL E (x :: r)=E.cells x ++ ecL E r:=by simp[ecL]
  rw[e,List.getElem?_append_right (by rw[E.len,Nat.add_mul];omega),E.len,show (i+1) * E.size+j - E.size=i * E.size+j by rw[Nat.add_mul];omega,zjN E r i (by simpa using h) j hj]
  rfl
theorem zpc {α:Type} (E:Enc α) (l:List α):∀ u∈ecL E l,u.oneCell'=true:=by
 intro u hu;simp only[ecL,List.mem_flatMap]at hu;obtain⟨x,_,hx⟩:=hu;exact E.one x u hx
def Es {α:Type} (E:Enc α) (w:World) (v:Value) (l:List α):Prop:=
 ∃ a cap,v=.slice a l.length cap/\l.length<=cap/\cap<=maxLen /\
  (l≠[]->∃ b off,a=some ⟨b,off,none⟩/\b<w.heap.size/\∀ j u,(ecL E l)[j]? =some u->w.cell? ⟨b,off+j,none⟩=some u)
theorem Es.nil {α:Type} (E:Enc α) (w:World):Es E w (.slice none 0 0) []:=⟨none,0,rfl,Nat.le_refl _,Nat.zero_le _,λh=>absurd rfl h⟩
theorem Es.len {α:Type} {E:Enc α} {w:World} {v:Value} {l:List α} (h:Es E w v l):l.length<=maxLen:=by
 obtain⟨a,cap,_,h1,h2,_⟩:=h;omega
theorem Es.shape {α:Type} {E:Enc α} {w:World} {v:Value} {l:List α} (h:Es E w v l):∃ a c,v=.slice a l.length c/\l.length<=c/\c<=maxLen:=by
 obtain⟨a,c,h1,h2,h3,_⟩:=h;exact⟨a,c,h1,h2,h3⟩
theorem Es.of_block {α:Type} {E:Enc α} {w w':World} {v:Value} {l:List α} (h:Es E w v l) (hs:w.heap.size<=w'.heap.size) (hk:∀ k,v.ownBlock=some k->k<w.heap.size->w'.heap[k]? =w.heap[k]?):Es E w' v l:=by
 obtain⟨a,cap,rfl,h1,h2,h3⟩:=h;refine⟨a,cap,rfl,h1,h2,λhne=>?_⟩
 obtain⟨b,off,rfl,hb,hc⟩:=h3 hne;refine⟨b,off,rfl,by omega,λj u hj=>?_⟩
 rw[<- hc j u hj];exact World.cell?_of_block (hk b rfl hb)
theorem Es.below {α:Type} {E:Enc α} {w w':World} {v:Value} {l:List α} {B:Nat} (h:Es E w v l) (hb:Below B w w') (hk:∀ k,v.ownBlock=some k->k<B):Es E w' v l:=
 h.of_block hb.size λk hv _=>hb.block k (hk k hv)
theorem Es.later {α:Type} {E:Enc α} {w w':World} {v:Value} {l:List α} (h:Es E w v l) (hb:Below w.heap.size w w'):Es E w' v l:=
 h.of_block hb.size λk _ hk=>hb.block k hk
theorem Es.drewN {α:Type} {E:Enc α} {w:World} {v:Value} {l:List α} (h:Es E w v l) (n:Nat):Es E (w.drewN n) v l:=
 h.of_block (Nat.le_refl _) λ_ _ _=>rfl
def El {α:Type} (E:Enc α) (w:World) (b o:Nat) (x:α):Prop:=∀ j u,(E.cells x)[j]? =some u->w.cell? ⟨b,o+j,none⟩=some u
theorem El.below {α:Type} {E:Enc α} {w w':World} {b o B:Nat} {x:α} (h:El E w b o x) (hb:Below B w w') (hB:b<B):El E w' b o x:=
 λj u hj=>by rw[<- h j u hj];exact hb.cell (p:=⟨b,o+j,none⟩) hB
theorem Es.parts {α:Type} {E:Enc α} {w:World} {v:Value} {l:List α} (h:Es E w v l) (hne:l≠[]):∃ b off cap,v=.slice (some ⟨b,off,none⟩) l.length cap/\l.length<=cap/\cap<=maxLen/\b<w.heap.size/\∀ i (hi:i<l.length),El E w b (off+i * E.size) l[i]:=by
 obtain⟨a,cap,rfl,h1,h2,h3⟩:=h;obtain⟨b,off,rfl,hb,hc⟩:=h3 hne;refine⟨b,off,cap,rfl,h1,h2,hb,λi hi j u hj=>?_⟩
 have hjs:j<E.size:=by rw[<- E.len l[i]];exact (List.getElem?_eq_some_iff.1 hj).1
 rw[Nat.add_assoc];exact hc _ _ (by rw[zjN E l i hi j hjs];exact hj)
theorem Es.of_parts {α:Type} {E:Enc α} {w:World} {b off cap:Nat} {l:List α} (h1:l.length<=cap) (h2:cap<=maxLen) (hb:b<w.heap.size) (h:∀ i (hi:i<l.length),El E w b (off+i * E.size) l[i]):Es E w (.slice (some ⟨b,off,none⟩) l.length cap) l:=by
 refine⟨_,_,rfl,h1,h2,λ_=>⟨b,off,rfl,hb,λj u hj=>?_⟩⟩
 have hjl:j<l.length * E.size:=by rw[<- zbm];exact (List.getElem?_eq_some_iff.1 hj).1
 have hq:j / E.size<l.length:=by rw[Nat.div_lt_iff_lt_mul E.pos];exact hjl
 have hr:j % E.size<E.size:=Nat.mod_lt _ E.pos;have he:j / E.size * E.size+j % E.size=j:=by rw[Nat.mul_comm];exact Nat.div_add_mod j E.size
 have hg:=zjN E l (j / E.size) hq (j % E.size) hr;rw[he]at hg;rw[hg]at hj;have:=h _ hq _ _ hj
 rwa [Nat.add_assoc,he]at this
def OwnE {α:Type} (E:Enc α) (w:World) (base:Nat) (t:TypeId) (v:Value) (l:List α):Prop:=w.ownsRow base t E.size v l.length (ecL E l)
theorem OwnE.es {α:Type} {E:Enc α} {w:World} {base:Nat} {t:TypeId} {v:Value} {l:List α} (h:OwnE E w base t v l):Es E w v l:=by
 obtain⟨h1,h2⟩:=h
 rcases h2 with ⟨rfl,h0⟩ | ⟨g,cap,cur,rfl,hg,hh,hn,hm,hs,ht⟩
 ·have:l=[]:=List.eq_nil_of_length_eq_zero h0;subst this;exact Es.nil E w
 ·refine⟨_,cap,rfl,hn,hm,λ_=>⟨g,0,rfl,(Array.getElem?_eq_some_iff.1 hh).1,λj u hj=>?_⟩⟩
  have hjl:j<l.length * E.size:=by rw[<- zbm];exact (List.getElem?_eq_some_iff.1 hj).1
  rw[<- ht,List.getElem?_take,if_pos (by omega)]at hj
  simp only[World.cell?,hh,Nat.zero_add];simpa using hj
theorem OwnE.shape {α:Type} {E:Enc α} {w:World} {base:Nat} {t:TypeId} {v:Value} {l:List α} (h:OwnE E w base t v l):∃ a c,v=.slice a l.length c/\l.length<=c/\c<=maxLen:=h.es.shape
theorem OwnE.block {α:Type} {E:Enc α} {w:World} {base:Nat} {t:TypeId} {v:Value} {l:List α} (h:OwnE E w base t v l):∀ k,v.ownBlock=some k->base<=k/\k<w.heap.size:=World.ownsRow.lt h
theorem OwnE.of_block {α:Type} {E:Enc α} {w w':World} {base:Nat} {t:TypeId} {v:Value} {l:List α} (h:OwnE E w base t v l) (hb:∀ k,v.ownBlock=some k->k<w.heap.size->w'.heap[k]? =w.heap[k]?):OwnE E w' base t v l:=by
 obtain⟨h1,h2⟩:=h;refine⟨h1, ?_⟩
 rcases h2 with h2 | ⟨g,cap,cur,rfl,hg,hh,r⟩
 ·exact Or.inl h2
 ·exact Or.inr ⟨g,cap,cur,rfl,hg,by rw[hb g rfl (Array.getElem?_eq_some_iff.1 hh).1];exact hh,r⟩
theorem OwnE.later {α:Type} {E:Enc α} {w w':World} {base:Nat} {t:TypeId} {v:Value} {l:List α} (h:OwnE E w base t v l) (hb:Below w.heap.size w w'):OwnE E w' base t v l:=
 h.of_block λk _ hk=>hb.block k hk
theorem OwnE.mono {α:Type} {E:Enc α} {w:World} {base base':Nat} {t:TypeId} {v:Value} {l:List α} (h:OwnE E w base t v l) (hb:base'<=base):OwnE E w base' t v l:=by
 obtain⟨h1,h2⟩:=h;refine⟨h1, ?_⟩
 rcases h2 with h2 | ⟨g,cap,cur,rfl,hg,r⟩
 ·exact Or.inl h2
 ·exact Or.inr ⟨g,cap,cur,rfl,Nat.le_trans hb hg,r⟩
theorem OwnE.nil {α:Type} (E:Enc α) (w:World) (base:Nat) (t:TypeId):OwnE E w base t (.slice none 0 0) []:=World.ownsRow_nil w base t E.size
theorem OwnE.typed {α:Type} {E:Enc α} {w:World} {base:Nat} {t:TypeId} {v:Value} {l:List α} (h:OwnE E w base t v l):∀ k,v.ownBlock=some k->∃ C,At w k C t:=by
 intro k hk
 rcases h.2 with ⟨rfl,_⟩ | ⟨g,cap,cur,rfl,hg,hh,r⟩
 ·simp[Value.ownBlock]at hk
 ·simp[Value.ownBlock]at hk;subst hk;exact⟨cur,hh⟩
theorem OwnE.lit {α:Type} (E:Enc α) (w:World) (base:Nat) (t:TypeId) (l:List α) (C:Array Value) (n:Nat) (hb:base<=w.heap.size) (hC:C=(ecL E l).toArray) (hn:n=l.length) (hm:l.length<=maxLen) :
 OwnE E (w.alloc (.cells C t)) base t (.slice (some ⟨w.heap.size,0,none⟩) n n) l:=by
 subst hC hn;have:=World.ownsRow_lit (base:=base) (e:=t) (size:=E.size) w (ecL E l).toArray l.length hb hm (by simp[zbm])
 unfold OwnE;simpa using this
theorem OwnE.ne {α:Type} {E:Enc α} {w:World} {base g:Nat} {t s:TypeId} {v:Value} {l:List α} {C:Array Value} (ho:OwnE E w base t v l) (h:At w g C s) (ht:s≠t):v.ownBlock≠some g:=by
 intro e;obtain⟨C',hC⟩:=ho.typed g e;unfold At at h hC;rw[h]at hC;simp only[Option.some.injEq,Obj.cells.injEq]at hC;exact ht hC.2.1
theorem At.grownE {α:Type} {E:Enc α} {w w':World} {g base:Nat} {C:Array Value} {t s:TypeId} {v:Value} {l:List α} (h:At w g C s) (ho:OwnE E w base t v l) (ht:s≠t) (hg:w.grownBy w' v.ownBlock):At w' g C s:=by
 have hl:=h.lt;have hne:=ho.ne h ht;unfold At at h ⊢;rw[hg.block g hl (λe=>hne e.symm)];exact h
theorem zaE {α:Type} {E:Enc α} {w w':World} {base B:Nat} {t:TypeId} {v:Value} {l:List α} (ho:OwnE E w base t v l) (hg:w.grownBy w' v.ownBlock) (hB:B<=base) (hs:B<=w.heap.size):Below B w w':=
 ⟨hg.os,hg.tape,hg.output,hg.size,λk hk=>hg.block k (by omega) (λe=>by have:=ho.block k e.symm;omega)⟩
theorem zdh {α:Type} (E:Enc α) {P:Program} (w:World) (base:Nat) (ts ty t:TypeId) (z:Value) (bytes:Nat) (ht:P.underlying ts=some (.slice t)) (hinfo:(P.info? t).map (λi=>(i.zero,i.size,i.bytes))=some (some z,E.size,bytes)) (hzs:z.cells.size=E.size)
 {v y:Value} {xs ys:List α} (hv:OwnE E w base t v xs) (hy:Es E w y ys) (hb:xs.length+ys.length<=maxLen) (hby:((xs.length+ys.length)+(xs.length+ys.length) / 4+192) * bytes<=281474976710656) (hbase:base<=w.heap.size) :
 ∃ v' w',(Builtin.append_ #[ts,ts] ty #[v,y]).run P w=.ok v' w'/\OwnE E w' base t v' (xs ++ ys)/\w.grownBy w' v.ownBlock:=by
 obtain⟨i,hi,hz0,hz1,hz2⟩:=info_parts hinfo;obtain⟨a,cap,rfl,h1,h2,h3⟩:=id hy
 cases a with
 | none =>
  have hys:ys=[]:=by
   by_cases h:ys=[]
   ·exact h
   ·obtain⟨b,off,hh,_⟩:=h3 h;simp at hh
  subst hys;refine⟨v,w, ?_,by simpa using hv,⟨rfl,rfl,rfl,Nat.le_refl _,λ_ _ _=>rfl⟩⟩
  rcases hv.2 with ⟨rfl,h0⟩ | ⟨g,cp,cur,rfl,_,_,hnc,_⟩
  ·simp[Builtin.append_,run_underlying ht,sizeOf,typeInfo,hi,Builtin.lenOf,Builtin.firstCells]
  ·simp[Builtin.append_,run_underlying ht,sizeOf,typeInfo,hi,Builtin.lenOf,Builtin.firstCells,hnc,storeCells]
 | some ad =>
  have hnews:∀ j u,(ecL E ys)[j]? =some u->w.cell? (ad.add j)=some u:=by
   intro j u hj;have hne:ys≠[]:=by intro e;subst e;simp[ecL]at hj
   obtain⟨b,off,hh,_,hc⟩:=h3 hne;simp only[Option.some.injEq]at hh;subst hh;have hplain:(⟨b,off,none⟩:Addr).add j=⟨b,off+j,none⟩:=by unfold Addr.add;split <;> simp_all
   rw[hplain];exact hc j u hj
  obtain⟨v',w',hr,ho,hg,_⟩:=run_append_own_wide (P:=P) w base ts ty t i z E.size bytes ht hi hz0 hz1 hz2 hzs E.pos v xs.length (ecL E xs) hv ad ys.length cap (ecL E ys) (zbm E ys) hnews
   (zpc E ys) hb hby hbase
  refine⟨v',w',hr, ?_,hg⟩;unfold OwnE;rw[List.length_append,zdJ];exact ho
theorem zal {α:Type} (E:Enc α) {P:Program} {w:World} {ops:Array Oper} {rest:List Oper} {o:Oper} {a:Act} {Q:Exit->Act->World->Prop} (hw:Region.wanted o (yielded ops a.tmps)=true) (s x:Operand) (ts:TypeId)
 (ho:o.op=.call { callee:=.builtin .append,args:=#[s,x],argTypes:=#[ts,ts] }) (base:Nat) (t:TypeId) (z:Value) (bytes:Nat) (ht:P.underlying ts=some (.slice t)) (hinfo:(P.info? t).map (λi=>(i.zero,i.size,i.bytes))=some (some z,E.size,bytes)) (hzs:z.cells.size=E.size)
 {v y:Value} {xs ys:List α} (hs:a.eval s=v) (hx:a.eval x=y) (hv:OwnE E w base t v xs) (hy:Es E w y ys) (hb:xs.length+ys.length<=maxLen) (hby:((xs.length+ys.length)+(xs.length+ys.length) / 4+192) * bytes<=281474976710656) (hbase:base<=w.heap.size)
 (h:∀ v' w',OwnE E w' base t v' (xs ++ ys)->w.grownBy w' v.ownBlock->wpList P ops Q rest (a.put o.dst v') w'):wpList P ops Q (o :: rest) a w:=by
 refine zbL hw λK hK=>?_
 obtain⟨v',w',hr,h2,h3⟩:=zdh E w base ts o.type t z bytes ht hinfo hzs hv hy hb hby hbase;unfold Oper.wp execOp;simp only[ho,resolve,invoke,builtin,Sem.run_bind,Sem.run_pure,Result.andThen_ok,List.map_toArray,List.map_cons,List.map_nil,hs,hx,hr];exact hK _ _ (h v' w' h2 h3)
theorem zqk {α:Type} (E:Enc α) (l:List α) (n:Nat):∀ (j:Nat) (u:Value),(ecL E (l.take n))[j]? =some u->(ecL E l)[j]? =some u:=by
 intro j u hj;have h:ecL E l=ecL E (l.take n) ++ ecL E (l.drop n):=by rw[<- zdJ,List.take_append_drop]
 rw[h,List.getElem?_append_left (List.getElem?_eq_some_iff.1 hj).1];exact hj
theorem zqg {α:Type} (E:Enc α) (l:List α) (n:Nat) (hn:n<=l.length):∀ (j:Nat) (u:Value),(ecL E (l.drop n))[j]? =some u->(ecL E l)[n * E.size+j]? =some u:=by
 intro j u hj;have h:ecL E l=ecL E (l.take n) ++ ecL E (l.drop n):=by rw[<- zdJ,List.take_append_drop]
 have hl:(ecL E (l.take n)).length=n * E.size:=by rw[zbm,List.length_take,Nat.min_eq_left hn]
 rw[h,List.getElem?_append_right (by omega),hl,Nat.add_sub_cancel_left]
 exact hj
theorem zb0 {α:Type} {E:Enc α} {P:Program} {w:World} {a:Option Addr} {cap:Nat} {l:List α} (hv:Es E w (.slice a l.length cap) l) (n:Nat) (h:n<=l.length) (ts t:TypeId) (ht:P.underlying ts=some (.slice t)) (hs:(P.info? t).map (·.size)=some E.size) :
 (∀ (W:World) (k:IntKind),(Instr.slice ts (.slice a l.length cap) none (some (.int k (n:Int))) none).run P W=.ok (.slice a n cap) W)/\Es E w (.slice a n cap) (l.take n):=by
 obtain⟨a0,c0,he,h1,h2,h3⟩:=hv;simp only[Value.slice.injEq]at he;obtain⟨rfl,_,rfl⟩:=he;have hl:(l.take n).length=n:=by rw[List.length_take,Nat.min_eq_left h]
 refine⟨λW k=>?_,⟨a,cap,by rw[hl],by omega,h2,λhne=>?_⟩⟩
 ·cases hq:P.info? t with
  | none=>simp[hq]at hs
  | some i =>
   have hi:i.size=E.size:=by simpa[hq]using hs
   have b1:(Instr.sliceBound (.int k (n:Int)) cap .sliceAcap).run P W=.ok n W:=by rw[run_sliceBound _ _ _ _ _ (by omega) (by omega)];simp
   have b2:(Instr.sliceBound (.int .i64 0) n .sliceB).run P W=.ok 0 W:=by rw[run_sliceBound _ _ _ _ _ (by omega) (by omega)];simp
   have hadd:∀ x:Addr,x.add 0=x:=λx=>by unfold Addr.add;cases x with | mk b o d=>split <;> simp_all
   have hmap:Option.map (λx:Addr=>x.add 0) a=a:=by cases a <;> simp[hadd]
   simp[Instr.slice,run_underlying ht,Instr.sliceBounds,b1,b2,sizeOf,typeInfo,hq,hi,hmap]
 ·have hne':l≠[]:=by intro e;subst e;simp at hne
  obtain⟨b,off,rfl,hb,hc⟩:=h3 hne';exact⟨b,off,rfl,hb,λj u hj=>hc j u (zqk E l n j u hj)⟩
theorem zcZ {α:Type} {E:Enc α} {P:Program} {w:World} {a:Option Addr} {cap:Nat} {l:List α} (hv:Es E w (.slice a l.length cap) l) (n:Nat) (h:n<=l.length) (ts t:TypeId) (ht:P.underlying ts=some (.slice t)) (hs:(P.info? t).map (·.size)=some E.size) :
 ∃ a' cap',(∀ (W:World) (k:IntKind),(Instr.slice ts (.slice a l.length cap) (some (.int k (n:Int))) none none).run P W=.ok (.slice a' (l.length - n) cap') W)/\Es E w (.slice a' (l.length - n) cap') (l.drop n) /\
  (∀ k,(Value.slice a' (l.length - n) cap').ownBlock=some k->(Value.slice a l.length cap).ownBlock=some k)/\(∀ b off,a=some ⟨b,off,none⟩->n<l.length->a'=some ⟨b,off+n * E.size,none⟩):=by
 obtain⟨a0,c0,he,h1,h2,h3⟩:=hv;simp only[Value.slice.injEq]at he;obtain⟨rfl,_,rfl⟩:=he;have hplain:∀ b off j,(⟨b,off,none⟩:Addr).add j=⟨b,off+j,none⟩:=λb off j=>by unfold Addr.add;split <;> simp_all
 refine⟨if cap=n then a else a.map (·.add (n * E.size)),cap - n, ?_,⟨_,_,by rw[List.length_drop],by rw[List.length_drop];omega,by omega, ?_⟩, ?_, ?_⟩
 ·intro W k
  cases hq:P.info? t with
  | none=>simp[hq]at hs
  | some i =>
   have hi:i.size=E.size:=by simpa[hq]using hs
   have b1:(Instr.sliceBound (.int .i64 (l.length:Int)) cap .sliceAcap).run P W=.ok l.length W:=by rw[run_sliceBound _ _ _ _ _ (by omega) (by omega)];simp
   have b2:(Instr.sliceBound (.int k (n:Int)) l.length .sliceB).run P W=.ok n W:=by rw[run_sliceBound _ _ _ _ _ (by omega) (by omega)];simp
   simp[Instr.slice,run_underlying ht,Instr.sliceBounds,b1,b2,sizeOf,typeInfo,hq,hi]
 ·intro hne;have hlt:n<l.length:=by
   rcases Nat.lt_or_ge n l.length with g | g
   ·exact g
   ·exact absurd (List.drop_eq_nil_of_le g) hne
  obtain⟨b,off,rfl,hb,hc⟩:=h3 (by intro e;subst e;simp at hlt)
  refine⟨b,off+n * E.size, ?_,hb,λj u hj=>?_⟩
  ·rw[if_neg (by omega)];simp[hplain]
  ·rw[Nat.add_assoc];exact hc _ u (zqg E l n h j u hj)
 ·intro k hk
  split at hk
  ·cases a with
   | none=>simp[Value.ownBlock]at hk
   | some ad=>exact hk
  ·cases a with
   | none=>simp[Value.ownBlock]at hk
   | some ad =>
    cases ad with
    | mk b o d =>
     simp only[Option.map_some,Value.ownBlock]at hk ⊢;unfold Addr.add at hk
     split at hk <;> simp_all
 ·rintro b off rfl hlt;rw[if_neg (by omega)];simp[hplain]
theorem zfQ (n:Int) (w:World) :
 Calls Tryz.prog 91 #[.int .i64 n] w λe w'=>e=.returned (.agg #[.string (opS n),.int .i64 (opP n),.int .i64 (opW n)])/\Below w.heap.size w w':=by
 have hall:n<=12∨(12<n/\n<=33)∨(33<n/\n<=47)∨(47<n/\n<=66)∨66<n:=by omega
 have hb0:Below w.heap.size w (w.alloc (.cells #[.string ⟨#[]⟩,.int .i64 0,.int .i64 0] 81)):=(Below.refl _ _).alloc (Nat.le_refl _) _;have hA0:=At.made w #[.string ⟨#[]⟩,.int .i64 0,.int .i64 0] 81
 rcases hall with h | ⟨h0,h⟩ | ⟨h0,h⟩ | ⟨h0,h⟩ | h
 ·go_enter Tryz.func91,Tryz.ntmps91;go_wp2_with fail
  refine (zg2 n h _).mono ?_;rintro e w1 ⟨rfl,hb⟩;have hA:=hA0.later hb;have tc:=hA.cell;have tm:=hA.melt;have HF:=(hA.set3 (.string (opS n)) (.int .i64 (opP n)) (.int .i64 (opW n))).cell;have HB:=zbn (hb0.trans (hb.mono hb0.size)) (Nat.le_refl w.heap.size) (.string (opS n)) (.int .i64 (opP n)) (.int .i64 (opW n));clear hb hb0 hA hA0;go_wp2;exact bodyPost_ret (v:=.agg #[.string (opS n),.int .i64 (opP n),.int .i64 (opW n)]) (by simp[results,Tryz.results91,go_sem,HF]) rfl ⟨rfl,HB⟩
 ·go_enter Tryz.func91,Tryz.ntmps91;go_wp2_with fail
  refine (zfl n h0 h _).mono ?_;rintro e w1 ⟨rfl,hb⟩;have hA:=hA0.later hb;have tc:=hA.cell;have tm:=hA.melt;have HF:=(hA.set3 (.string (opS n)) (.int .i64 (opP n)) (.int .i64 (opW n))).cell;have HB:=zbn (hb0.trans (hb.mono hb0.size)) (Nat.le_refl w.heap.size) (.string (opS n)) (.int .i64 (opP n)) (.int .i64 (opW n));clear hb hb0 hA hA0;go_wp2;exact bodyPost_ret (v:=.agg #[.string (opS n),.int .i64 (opP n),.int .i64 (opW n)]) (by simp[results,Tryz.results91,go_sem,HF]) rfl ⟨rfl,HB⟩
 ·go_enter Tryz.func91,Tryz.ntmps91;go_wp2_with fail
  refine (zhb n h0 h _).mono ?_;rintro e w1 ⟨rfl,hb⟩;have hA:=hA0.later hb;have tc:=hA.cell;have tm:=hA.melt;have HF:=(hA.set3 (.string (opS n)) (.int .i64 (opP n)) (.int .i64 (opW n))).cell;have HB:=zbn (hb0.trans (hb.mono hb0.size)) (Nat.le_refl w.heap.size) (.string (opS n)) (.int .i64 (opP n)) (.int .i64 (opW n));clear hb hb0 hA hA0;go_wp2;exact bodyPost_ret (v:=.agg #[.string (opS n),.int .i64 (opP n),.int .i64 (opW n)]) (by simp[results,Tryz.results91,go_sem,HF]) rfl ⟨rfl,HB⟩
 ·go_enter Tryz.func91,Tryz.ntmps91;go_wp2_with fail
  refine (zfH n h0 h _).mono ?_;rintro e w1 ⟨rfl,hb⟩;have hA:=hA0.later hb;have tc:=hA.cell;have tm:=hA.melt;have HF:=(hA.set3 (.string (opS n)) (.int .i64 (opP n)) (.int .i64 (opW n))).cell;have HB:=zbn (hb0.trans (hb.mono hb0.size)) (Nat.le_refl w.heap.size) (.string (opS n)) (.int .i64 (opP n)) (.int .i64 (opW n));clear hb hb0 hA hA0;go_wp2;exact bodyPost_ret (v:=.agg #[.string (opS n),.int .i64 (opP n),.int .i64 (opW n)]) (by simp[results,Tryz.results91,go_sem,HF]) rfl ⟨rfl,HB⟩
 ·go_enter Tryz.func91,Tryz.ntmps91;go_wp2_with fail
  refine (ziz n h _).mono ?_;rintro e w1 ⟨rfl,hb⟩;have hA:=hA0.later hb;have tc:=hA.cell;have tm:=hA.melt;have HF:=(hA.set3 (.string (opS n)) (.int .i64 (opP n)) (.int .i64 (opW n))).cell;have HB:=zbn (hb0.trans (hb.mono hb0.size)) (Nat.le_refl w.heap.size) (.string (opS n)) (.int .i64 (opP n)) (.int .i64 (opW n));clear hb hb0 hA hA0;go_wp2;exact bodyPost_ret (v:=.agg #[.string (opS n),.int .i64 (opP n),.int .i64 (opW n)]) (by simp[results,Tryz.results91,go_sem,HF]) rfl ⟨rfl,HB⟩
theorem ztN {n:Int} (h:1<=n/\n<=75):opS n≠⟨#[]⟩:=by
 have hall:∀ k:Nat,k<75->(opI ((k:Int)+1)).1≠[]:=by decide +kernel
 have:=hall (n - 1).toNat (by omega)
 rw[show (((n - 1).toNat:Int)+1)=n by omega]at this
 intro e;apply this;have:=congrArg (λb=>b.data.toList) e
 simpa[opS]using this
theorem zpZ {n:Int} (h:1<=n/\n<=75):(opS n).toList.isEmpty=false:=by
 have hne:=ztN h;rw[Lib.toList_data]
 cases e:(opS n).data.toList with
 | nil=>exact absurd (by cases hs:opS n with | mk d=>rw[hs]at e;simp at e;rw[e]) hne
 | cons _ _=>rfl
theorem zmV:(⟨#[]⟩:ByteArray).toList.isEmpty=true:=by rw[Lib.toList_data];rfl
theorem zsM (n:Int) (h1:1<=n) (h2:n<=75) (w:World) :
 Calls Tryz.prog 66 #[.int .i64 n] w λe w'=>e=.returned (.tuple #[.agg #[.string (opS n),.int .i64 (opP n),.int .i64 (opW n)],.int .i64 0])/\Below w.heap.size w w':=by
 have hb0:Below w.heap.size w (w.alloc (.cells #[.string ⟨#[]⟩,.int .i64 0,.int .i64 0] 81)):=(Below.refl _ _).alloc (Nat.le_refl _) _;have hA0:=At.made w #[.string ⟨#[]⟩,.int .i64 0,.int .i64 0] 81;have hq:=zpZ ⟨h1,h2⟩;go_enter Tryz.func66,Tryz.ntmps66;go_wp2_with fail
 refine (zfQ n _).mono ?_;rintro e w1 ⟨rfl,hb⟩;have hA:=hA0.later hb;have hbx:Below w1.heap.size w1 (w1.alloc (.cells #[.string (opS n),.int .i64 (opP n),.int .i64 (opW n)] 81)):=(Below.refl _ _).alloc (Nat.le_refl _) _;have hA2:=hA.later hbx;have hX:=At.made w1 #[.string (opS n),.int .i64 (opP n),.int .i64 (opW n)] 81;have hB:=(hb0.trans (hb.mono hb0.size)).trans (hbx.mono (hb0.trans (hb.mono hb0.size)).size);have tc:=hA2.cell;have tm:=hA2.melt;have xc:=hX.cell;have HF:=(hA2.set3 (.string (opS n)) (.int .i64 (opP n)) (.int .i64 (opW n))).cell;have HB:=zbn hB (Nat.le_refl w.heap.size) (.string (opS n)) (.int .i64 (opP n)) (.int .i64 (opW n));clear hb hb0 hA hA0 hbx hA2 hX hB;go_wp2;exact bodyPost_ret (v:=.tuple #[.agg #[.string (opS n),.int .i64 (opP n),.int .i64 (opW n)],.int .i64 0]) (by simp[results,Tryz.results66,go_sem,HF]) rfl ⟨rfl,HB⟩
theorem zso (n:Int) (h:¬ (1<=n/\n<=75)) (w:World) :
 Calls Tryz.prog 66 #[.int .i64 n] w λe w'=>e=.returned (.tuple #[.agg #[.string ⟨#[]⟩,.int .i64 0,.int .i64 0],.int .i64 3])/\Below w.heap.size w w':=by
 have hb0:Below w.heap.size w (w.alloc (.cells #[.string ⟨#[]⟩,.int .i64 0,.int .i64 0] 81)):=(Below.refl _ _).alloc (Nat.le_refl _) _;have hA0:=At.made w #[.string ⟨#[]⟩,.int .i64 0,.int .i64 0] 81;have hq:=zmV;have HI:=zfQ n (w.alloc (.cells #[.string ⟨#[]⟩,.int .i64 0,.int .i64 0] 81));rw[zdb h,zcy h,zdU h]at HI;clear h;go_enter Tryz.func66,Tryz.ntmps66;go_wp2_with fail
 refine Calls.mono HI ?_;rintro e w1 ⟨rfl,hb⟩;have hA:=hA0.later hb;have hbx:Below w1.heap.size w1 (w1.alloc (.cells #[.string ⟨#[]⟩,.int .i64 0,.int .i64 0] 81)):=(Below.refl _ _).alloc (Nat.le_refl _) _;have hA2:=hA.later hbx;have hX:=At.made w1 #[.string ⟨#[]⟩,.int .i64 0,.int .i64 0] 81;have hB:=(hb0.trans (hb.mono hb0.size)).trans (hbx.mono (hb0.trans (hb.mono hb0.size)).size);have tc:=hA2.cell;have tm:=hA2.melt;have xc:=hX.cell;have HF:=(hA2.set3 (.string ⟨#[]⟩) (.int .i64 0) (.int .i64 0)).cell;have HB:=zbn hB (Nat.le_refl w.heap.size) (.string ⟨#[]⟩) (.int .i64 0) (.int .i64 0);clear hb hb0 hA hA0 hbx hA2 hX hB HI;go_wp2;exact bodyPost_ret (v:=.tuple #[.agg #[.string ⟨#[]⟩,.int .i64 0,.int .i64 0],.int .i64 3]) (by simp[results,Tryz.results66,go_sem,HF]) rfl ⟨rfl,HB⟩
def bLo (p:Int):Int:=if p=1 then -2147483648 else if p=2 then -9223372036854775808 else 0
def bHi (p:Int):Int:=if p=1 then 2147483647 else if p=2 then 9223372036854775807 else if p=3 then 11 else if p=4 then 6 else if p=5 then 159 else if p=6 then 63 else if p=7 then 63 else 0
def zeo (k i d:Int) (r:Bool):Bool:=k==0&&i==0&&d==0&&!r
def zfY (p n k i d:Int) (r:Bool):Bool:=decide (bLo p<=n)&&decide (n<=bHi p)&&if p=8 then zbO 1 k i d r else zeo k i d r
theorem znl (p:Int) (w:World) :
 Calls Tryz.prog 234 #[.int .i64 p] w λe w'=>e=.returned (.tuple #[.int .i64 (bLo p),.int .i64 (bHi p)])/\w'=w:=by
 go_enter Tryz.func234,Tryz.ntmps234;go_wp2
 all_goals (go_ret2;exact⟨zgv (by (try simp only[beq_iff_eq,beq_eq_false_iff_ne,ne_eq]at *);simp[bLo, *]) (by (try simp only[beq_iff_eq,beq_eq_false_iff_ne,ne_eq]at *);simp[bHi, *]),rfl⟩)
theorem zqR (p:Int) (w:World) :
 Calls Tryz.prog 246 #[.int .i64 p] w λe w'=>e=.returned (.tuple #[.int .i64 (bHi p),.int .i64 (bLo p)])/\w'=w:=by
 go_enter Tryz.func246,Tryz.ntmps246;go_wp2
 all_goals (go_ret2;exact⟨zgv (by (try simp only[beq_iff_eq,beq_eq_false_iff_ne,ne_eq]at *);simp[bHi, *]) (by (try simp only[beq_iff_eq,beq_eq_false_iff_ne,ne_eq]at *);simp[bLo, *]),rfl⟩)
theorem zhx (k i d:Int) (r:Bool) (w:World) :
 Calls Tryz.prog 233 #[.agg #[.int .i64 k,.int .i64 i,.int .i64 d,.bool r]] w λe w'=>e=.returned (.bool (zbO 1 k i d r))/\Below w.heap.size w w':=by
 go_enter Tryz.func233,Tryz.ntmps233;go_wp2_with fail
 refine (ziI k i d r _).mono ?_;rintro e w1 ⟨rfl,hb⟩;have hB:=zaA hb;obtain⟨hc,hf⟩:=zkH hb;clear hb;go_wp2
 all_goals go_ret
 all_goals refine⟨zab ?_,hB⟩
 all_goals simp[zbO, *]
theorem zoi (W:World) (k i d k' i' d':Int) (r r':Bool):(binOp .eql 47 (.agg #[.int .i64 k,.int .i64 i,.int .i64 d,.bool r]) (.agg #[.int .i64 k',.int .i64 i',.int .i64 d',.bool r'])).run Tryz.prog W=.ok (.bool (k==k'&&i==i'&&d==d'&&r==r')) W:=by
 simp[go_sem]
 cases h1:(k==k') <;> cases h2:(i==i') <;> cases h3:(d==d') <;> cases h4:(r==r') <;> simp_all[go_sem]
theorem zeN (p n k i d:Int) (r:Bool) (w:World) :
 Calls Tryz.prog 217 #[.int .i64 p,.int .i64 n,.agg #[.int .i64 k,.int .i64 i,.int .i64 d,.bool r]] w λe w'=>e=.returned (.bool (zfY p n k i d r))/\Below w.heap.size w w':=by
 have hz:∀ W:World,(binOp .eql 47 (.agg #[.int .i64 k,.int .i64 i,.int .i64 d,.bool r]) (.agg #[.int .i64 0,.int .i64 0,.int .i64 0,.bool false])).run Tryz.prog W=.ok (.bool (zeo k i d r)) W:=λW=>by
  rw[zoi];cases r <;> rfl
 have hb0:Below w.heap.size w (w.alloc (.cells #[.int .i64 k,.int .i64 i,.int .i64 d,.bool r] 47)):=(Below.refl _ _).alloc (Nat.le_refl _) _;have hA0:=At.made w #[.int .i64 k,.int .i64 i,.int .i64 d,.bool r] 47;by_cases h8:p=8
 ·subst h8;have HF8:Hid (zfY 8 n k i d r=(decide (n=0)&&zbO 1 k i d r)):=by
   show _=_;unfold zfY;rw[if_pos rfl,show bLo 8=0 from rfl,show bHi 8=0 from rfl,show (decide (0<=n)&&decide (n<=0))=decide (n=0) by rw[Bool.eq_iff_iff];simp;omega]
  go_enter Tryz.func217,Tryz.ntmps217;go_wp2_with fail
  refine (zhx k i d r _).mono ?_;rintro e w1 ⟨rfl,hb⟩;have hA:=hA0.later hb;have hB:=hb0.trans (hb.mono hb0.size);have tc:=hA.cell;have tm:=hA.melt;have HB:=zdN hB (Nat.le_refl w.heap.size) (.int .i64 0) (.int .i64 0) (.int .i64 0) (.bool false);have HC:=(hA.set4 (.int .i64 0) (.int .i64 0) (.int .i64 0) (.bool false)).cell;clear hb hb0 hA hA0 hz
  cases hm:zbO 1 k i d r with
  | false =>
   go_wp2_with fail
   go_ret;exact⟨zab (by rw[HF8.out,hm];simp),hB⟩
  | true =>
   go_wp2_with fail
   all_goals go_ret
   all_goals refine⟨zab ?_,HB⟩
   all_goals rw[HF8.out,hm]
   all_goals simp[*]
 ·have h8':(p==8)=false:=by simpa using h8
  have HF:Hid (zfY p n k i d r=(decide (bLo p<=n)&&decide (n<=bHi p)&&zeo k i d r)):=by show _=_;unfold zfY;rw[if_neg h8]
  clear h8 hA0;by_cases h0:p=0
  ·subst h0;have HF0:Hid (zfY 0 n k i d r=(decide (n=0)&&zeo k i d r)):=by
    show _=_;rw[HF.out,show bLo 0=0 from rfl,show bHi 0=0 from rfl,show (decide (0<=n)&&decide (n<=0))=decide (n=0) by rw[Bool.eq_iff_iff];simp;omega]
   clear HF;go_enter Tryz.func217,Tryz.ntmps217;go_wp2_with fail
   all_goals go_ret
   all_goals refine⟨zab ?_,hb0⟩
   all_goals rw[HF0.out]
   all_goals simp_all
  ·have h0':(p==0)=false:=by simpa using h0
   clear h0;go_enter Tryz.func217,Tryz.ntmps217;go_wp2_with fail
   refine (znl p _).mono ?_;rintro e wz ⟨rfl,hw⟩;subst wz
   cases hq:zeo k i d r with
   | false =>
    go_wp2_with fail
    all_goals go_ret
    all_goals refine⟨zab ?_,hb0⟩
    all_goals rw[HF.out,hq]
    all_goals simp
   | true =>
    go_wp2_with fail
    all_goals go_ret
    all_goals refine⟨zab ?_,hb0⟩
    all_goals rw[HF.out,hq]
    all_goals (rw[Bool.eq_iff_iff];simp;try omega)
def zge (op n k i d:Int) (r:Bool):Int:=if 1<=op/\op<=75 then if zfY (opP op) n k i d r=true then 0 else 17 else 3
theorem zpY (op n k i d:Int) (r:Bool) (w:World) :
 Calls Tryz.prog 195 #[.agg #[.int .i64 op,.int .i64 n,.int .i64 k,.int .i64 i,.int .i64 d,.bool r]] w λe w'=>e=.returned (.int .i64 (zge op n k i d r))/\Below w.heap.size w w':=by
 have hb0:Below w.heap.size w (w.alloc (.cells #[.int .i64 op,.int .i64 n,.int .i64 k,.int .i64 i,.int .i64 d,.bool r] 65)):=(Below.refl _ _).alloc (Nat.le_refl _) _;have hA0:=At.made w #[.int .i64 op,.int .i64 n,.int .i64 k,.int .i64 i,.int .i64 d,.bool r] 65;by_cases hin:1<=op/\op<=75
 ·have HE:Hid (zge op n k i d r=if zfY (opP op) n k i d r=true then 0 else 17):=by show _=_;unfold zge;rw[if_pos hin]
  obtain⟨h1,h2⟩:=hin;go_enter Tryz.func195,Tryz.ntmps195;go_wp2_with fail
  refine (zsM op h1 h2 _).mono ?_;rintro e w1 ⟨rfl,hb⟩;have hA:=hA0.later hb;have hB:=hb0.trans (hb.mono hb0.size);have hbx:Below w1.heap.size w1 (w1.alloc (.cells #[.string (opS op),.int .i64 (opP op),.int .i64 (opW op)] 81)):=(Below.refl _ _).alloc (Nat.le_refl _) _;have hA2:=hA.later hbx;have hB2:=hB.trans (hbx.mono hB.size);have hX:=At.made w1 #[.string (opS op),.int .i64 (opP op),.int .i64 (opW op)] 81;have tc:=hA2.cell;have xc:=hX.cell;clear hb hb0 hA hA0 hB hbx hA2 hX;go_wp2_with fail
  refine (zeN (opP op) n k i d r _).mono ?_;rintro e w2 ⟨rfl,hb⟩;have hB3:=hB2.trans (hb.mono hB2.size);clear hb hB2 tc xc
  cases hq:zfY (opP op) n k i d r with
  | false =>
   go_wp2_with fail
   go_ret;exact⟨zak (by rw[HE.out,hq];rfl),hB3⟩
  | true =>
   go_wp2_with fail
   go_ret;exact⟨zak (by rw[HE.out,hq];rfl),hB3⟩
 ·have HE:Hid (zge op n k i d r=3):=by show _=_;unfold zge;rw[if_neg hin]
  go_enter Tryz.func195,Tryz.ntmps195;go_wp2_with fail
  refine (zso op hin _).mono ?_;rintro e w1 ⟨rfl,hb⟩;have hB:=hb0.trans (hb.mono hb0.size);have hbx:Below w1.heap.size w1 (w1.alloc (.cells #[.string ⟨#[]⟩,.int .i64 0,.int .i64 0] 81)):=(Below.refl _ _).alloc (Nat.le_refl _) _;have hB2:=hB.trans (hbx.mono hB.size);clear hb hb0 hA0 hB hbx;go_wp2_with fail
  go_ret;exact⟨zak HE.out.symm,hB2⟩
def leN:List UInt8->Nat
 | []=>0
 | b :: r=>b.toNat+256 * leN r
def beA (x:Nat) (l:List UInt8):Nat:=l.foldl (λy b=>256 * y+b.toNat) x
def zxV (bs:List UInt8) (at_ c s mk:Nat):Nat × Nat × Nat:=
 if s=0 then (0,0,2) else if bs.length<at_+s then (0,0,1) else if zhT (beA (c - mk) (seg bs (at_+1) (s - 1)):Int)=(s:Int) then (beA (c - mk) (seg bs (at_+1) (s - 1)),s,0) else (0,0,2)
def zvG (c:Nat):Nat:=(zv3 (c:Int)).toNat
def zxs (s:Nat):Nat:=(zkQ (s:Int)).toNat
def unp (bs:List UInt8) (at_:Nat):Nat × Nat × Nat:=
 if h:at_<bs.length then zxV bs at_ bs[at_].toNat (zvG bs[at_].toNat) (zxs (zvG bs[at_].toNat)) else (0,0,1)
def zc4 (l:List Int):List Value:=l.map (Value.int .i64)
theorem zae (l:List Int):(zc4 l).length=l.length:=by simp[zc4]
theorem zg8 (l:List Int):∀ u∈zc4 l,u.oneCell'=true:=λu hu=>by simp[zc4]at hu;obtain⟨x,_,rfl⟩:=hu;rfl
def Is (w:World) (v:Value) (l:List Int):Prop:=Sl w v (zc4 l)
theorem zn0 (va vb:Option Addr) (la lb ca cb:Nat) (w:World) (hne:la≠lb) (ha:la<=maxLen) (hb:lb<=maxLen) :
 Calls Tryz.prog 27 #[.slice va la ca,.slice vb lb cb] w λe w'=>e=.returned (.bool false)/\w'=w:=by
 have h1:((la:Int) != (lb:Int))=true:=by rw[bne_iff_ne];omega
 go_enter Tryz.func27,Tryz.ntmps27;go_wp2;go_ret;exact⟨rfl,rfl⟩
theorem zjm (va vb:Option Addr) (ca cb:Nat) (w:World) :
 Calls Tryz.prog 27 #[.slice va 0 ca,.slice vb 0 cb] w λe w'=>e=.returned (.bool true)/\w'=w:=by
 go_enter Tryz.func27,Tryz.ntmps27;go_wp2;refine wp_loop_rounds 1 ?_;rw[rounds_succ];go_wp2;go_ret;exact⟨rfl,rfl⟩
theorem zgu {xs ys:List Int} {k:Nat} (h1:k<xs.length) (h2:k<ys.length) (h:xs.take k=ys.take k) (e:xs[k]=ys[k]):xs.take (k+1)=ys.take (k+1):=by
 rw[List.take_succ_eq_append_getElem h1,List.take_succ_eq_append_getElem h2,h,e]
theorem zp9 (a b:Nat) (oa ob ca cb:Nat) (xs ys:List Int) (w:World) (hl:xs.length=ys.length) (hm:xs.length<=maxLen)
 (ha:∀ i (h:i<xs.length),w.cell? ⟨a,oa+i,none⟩=some (.int .i64 xs[i]))
 (hb:∀ i (h:i<ys.length),w.cell? ⟨b,ob+i,none⟩=some (.int .i64 ys[i])) :
 Calls Tryz.prog 27 #[.slice (some ⟨a,oa,none⟩) xs.length ca,.slice (some ⟨b,ob,none⟩) xs.length cb] w λe w'=>e=.returned (.bool (decide (xs=ys)))/\∃ n,w'=w.drewN n:=by
 unfold maxLen at hm;have h1:((xs.length:Int) != (xs.length:Int))=false:=by simp
 go_enter Tryz.func27,Tryz.ntmps27;go_wp2;go_loopw [5] (λi wr=>∃ k n:Nat,k<=xs.length/\i=.int .i64 k/\wr=w.drewN n/\xs.take k=ys.take k) (λi _=>xs.length - (intOf i).toNat)
 case atStart=>exact⟨0,0,Nat.zero_le _,rfl,rfl,rfl⟩
 case round =>
  obtain⟨k,n,hk,rfl,rfl,ht⟩:=hrel;by_cases hlt:k<xs.length
  ·have ca:=ha k hlt;have cb:=hb k (by omega)
   have hlb:k<ys.length:=by omega
   have HT:Hid (xs.take k=ys.take k):=ht;clear ht ha hb;by_cases he:xs[k]=ys[k]
   ·have hq:(xs[k] != ys[k])=false:=by simp[he]
    have HE:Hid (xs.take (k+1)=ys.take (k+1)):=zgu hlt hlb HT.out he;clear he;generalize xs[k]=x at *;generalize ys[k]=y at *;go_wp2;go_quiet (fail)
    go_wp2;go_roundw
    case rel=>exact⟨k+1,n+nq,by omega,by go_num,rfl,HE.out⟩
    case measure=>simp[intOf];omega
   ·have hq:(xs[k] != ys[k])=true:=by
     rw[bne_iff_ne];exact he
    have HE:Hid (¬ xs[k]=ys[k]):=he;clear he;go_wp2;go_quiet (fail)
    go_wp2;go_ret;exact⟨zab (by have h:=HE.out;symm;rw[decide_eq_false_iff_not];intro e;subst e;exact h rfl),n+nq,by rw[World.drewN_drewN]⟩
  ·go_wp2;go_ret;refine⟨zab ?_,n,rfl⟩
   symm;rw[decide_eq_true_iff]
   rwa [List.take_of_length_le (by omega),List.take_of_length_le (by omega)]at ht
theorem zhO {va vb:Value} {xs ys:List Int} {w:World} (ha:Is w va xs) (hb:Is w vb ys) :
 Calls Tryz.prog 27 #[va,vb] w λe w'=>e=.returned (.bool (decide (xs=ys)))/\∃ n,w'=w.drewN n:=by
 obtain⟨a,ca,rfl,h1,h2,h3⟩:=ha;obtain⟨b,cb,rfl,g1,g2,g3⟩:=hb;rw[zae]at h1 g1 ⊢;rw[zae];by_cases hl:xs.length=ys.length
 ·by_cases hx:xs=[]
  ·subst hx;have hy:ys=[]:=List.eq_nil_of_length_eq_zero hl.symm;subst hy;refine (zjm a b ca cb w).mono ?_;rintro e w' ⟨rfl,rfl⟩;exact⟨zab (by simp),0,rfl⟩
  ·obtain⟨ba,oa,rfl,_,hca⟩:=h3 (by simpa[zc4]using hx)
   obtain⟨bb,ob,rfl,_,hcb⟩:=g3 (by simp only[zc4,ne_eq,List.map_eq_nil_iff];intro e;subst e;exact hx (List.eq_nil_of_length_eq_zero hl))
   rw[<- hl];exact zp9 ba bb oa ob ca cb xs ys w hl (by omega) (λi h=>by rw[hca i (by rw[zae];exact h)];simp[zc4]) (λi h=>by rw[hcb i (by rw[zae];exact h)];simp[zc4])
 ·refine (zn0 a b _ _ ca cb w hl (by omega) (by omega)).mono ?_
  rintro e w' ⟨rfl,rfl⟩;exact⟨zab (by symm;rw[decide_eq_false_iff_not];intro e;subst e;exact hl rfl),0,rfl⟩
end Go.Proofs.YtkedhjdipnhgdaaGreat

namespace Go.Proofs.YtkedhjdipnhgdaaGreat
set_option maxHeartbeats 16000000
set_option linter.all false
open Go.RowKit Go.Maps
theorem znE {P:Program} {k ki kb:TypeId} {fs:Array Field} {f0 f1 f2 f3:Field} (hk:P.underlying k=some (.struct fs)) (hfs:fs.toList=[f0,f1,f2,f3]) (hn:(f0.name != "_" && (f1.name != "_" && (f2.name != "_" && f3.name != "_")))=true)
 (h0:f0.type=ki) (h1:f1.type=ki) (h2:f2.type=ki) (h3:f3.type=kb) (o0:f0.offset=0) (o1:f1.offset=1) (o2:f2.offset=2) (o3:f3.offset=3) (hi:P.underlying ki=some (.int .i64)) (hb:P.underlying kb=some .bool)
 (hc:P.cellsOf k=4) (ci:P.cellsOf ki=1) (cb:P.cellsOf kb=1) (hkt:P.keyType k=true) (hs:k<P.types.size) {a b c:Int} {d:Bool} (ha:(Lit.int .i64 a).wf=true) (hb2:(Lit.int .i64 b).wf=true) (hc2:(Lit.int .i64 c).wf=true) :
 keyOf P k (.agg #[.int .i64 a,.int .i64 b,.int .i64 c,.bool d])=some (.string (keyBytes [.int .i64 a,.int .i64 b,.int .i64 c,.bool d])):=by
 have hf:(Value.agg #[.int .i64 a,.int .i64 b,.int .i64 c,.bool d]).formed P k=true:=by simp[Value.formed,hk,hc]
 have hpos:0<P.types.size:=Nat.lt_of_le_of_lt (Nat.zero_le k) hs;obtain⟨m,hm⟩:∃ m,P.types.size=m+1:=⟨P.types.size - 1,by omega⟩
 have hall:fs.all (λf=>f.name != "_")=true:=by
  rw[<- Array.all_toList,hfs];simpa[Bool.and_eq_true]using hn
 unfold keyOf;rw[hk];simp only[hkt,hf,Bool.and_self,if_true];rw[hm];simp[Program.keyLits,hk,hi,hb,hc,ci,cb,hfs,hall,h0,h1,h2,h3,o0,o1,o2,o3,Value.cells,ha,hb2,hc2]
theorem Tryz.laid13:laidOutB Tryz.prog=true:=by kernel_rfl
theorem Tryz.row13:(47:TypeId)<Tryz.prog.types.size:=of_decide_eq_true (by kernel_rfl)
theorem Tryz.deep13:Tryz.prog.keyTypeAt 2 47=true:=by kernel_rfl
theorem zsR:Keyed Tryz.prog 47:=Keyed.of_law (deep_law_laid Tryz.laid13 (m:=2) (by omega) Tryz.row13 Tryz.deep13 (by rw[Tryz.underlying47]))
theorem Tryz.key13:Tryz.prog.keyType 47=true:=by kernel_rfl
theorem Tryz.cells13:Tryz.prog.cellsOf 47=4:=by kernel_rfl
theorem Tryz.cellsI13:Tryz.prog.cellsOf 3=1:=by kernel_rfl
theorem Tryz.cellsB13:Tryz.prog.cellsOf 4=1:=by kernel_rfl
def zvr (t:Ty):Value:=.agg #[.int .i64 t.1,.int .i64 t.2.1,.int .i64 t.2.2.1,.bool t.2.2.2]
def zgU (t:Ty):Lit:=.string (keyBytes [.int .i64 t.1,.int .i64 t.2.1,.int .i64 t.2.2.1,.bool t.2.2.2])
def WfT (t:Ty):Prop:=(Lit.int .i64 t.1).wf=true/\(Lit.int .i64 t.2.1).wf=true/\(Lit.int .i64 t.2.2.1).wf=true
theorem zha {t:Ty} (h:WfT t):keyOf Tryz.prog 47 (zvr t)=some (zgU t):=
 znE Tryz.underlying47 rfl rfl rfl rfl rfl rfl rfl rfl rfl rfl Tryz.underlying3 Tryz.underlying4 Tryz.cells13 Tryz.cellsI13 Tryz.cellsB13 Tryz.key13 Tryz.row13 h.1 h.2.1 h.2.2
theorem Tryz.tiled13:Tryz.prog.tiled 2 47=true:=by kernel_rfl
theorem zoo {s t:Ty} (hs:WfT s) (ht:WfT t) (h:zgU s=zgU t):s=t:=by
 have:=keyOf_inj_deep Tryz.tiled13 (by rw[Tryz.underlying47]) (zha hs) (by rw[h];exact zha ht)
 unfold zvr at this;obtain⟨a,b,c,d⟩:=s;obtain⟨a',b',c',d'⟩:=t;simpa using this
end Go.Proofs.YtkedhjdipnhgdaaGreat
