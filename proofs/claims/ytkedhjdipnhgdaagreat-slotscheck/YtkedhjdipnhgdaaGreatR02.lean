import Derived.Test.YtkedhjdipnhgdaaGreatR01
import Derived.Deep.AppendSrc
import Derived.Deep.DeepAppendWide
import Derived.Laws.IdiomStrings
import Derived.Laws.CopyRow
import Derived.Deep.RegionLaw
import Derived.Lib.BytesEntry
import Derived.Laws.BytesArg
namespace Go.Proofs.YtkedhjdipnhgdaaGreat
set_option maxHeartbeats 16000000
set_option linter.all false
open RowKit
def Sl (w:World) (v:Value) (xs:List Value):Prop:=
 ∃ a cap,v=.slice a xs.length cap/\xs.length<=cap/\cap<=maxLen /\
  (xs≠[]->∃ b off,a=some ⟨b,off,none⟩/\b<w.heap.size/\∀ i (h:i<xs.length),w.cell? ⟨b,off+i,none⟩=some xs[i])
theorem Sl.nil (w:World):Sl w (.slice none 0 0) []:=⟨none,0,rfl,Nat.le_refl _,Nat.zero_le _,λh=>absurd rfl h⟩
theorem Sl.len {w:World} {v:Value} {xs:List Value} (h:Sl w v xs):xs.length<=maxLen:=by
 obtain⟨a,cap,_,h1,h2,_⟩:=h;omega
theorem Sl.of_block {w w':World} {v:Value} {xs:List Value} (h:Sl w v xs) (hs:w.heap.size<=w'.heap.size) (hk:∀ k,v.ownBlock=some k->k<w.heap.size->w'.heap[k]? =w.heap[k]?):Sl w' v xs:=by
 obtain⟨a,cap,rfl,h1,h2,h3⟩:=h;refine⟨a,cap,rfl,h1,h2,λhne=>?_⟩
 obtain⟨b,off,rfl,hb,hc⟩:=h3 hne;refine⟨b,off,rfl,by omega,λi hi=>?_⟩
 rw[<- hc i hi];exact World.cell?_of_block (hk b rfl hb)
theorem Sl.later {w w':World} {v:Value} {xs:List Value} (h:Sl w v xs) (hb:Below w.heap.size w w'):Sl w' v xs:=
 h.of_block hb.size λk _ hk=>hb.block k hk
theorem Sl.below {w w':World} {v:Value} {xs:List Value} {B:Nat} (h:Sl w v xs) (hb:Below B w w') (hk:∀ k,v.ownBlock=some k->k<B):Sl w' v xs:=
 h.of_block hb.size λk hv _=>hb.block k (hk k hv)
theorem Sl.drewN {w:World} {v:Value} {xs:List Value} (h:Sl w v xs) (n:Nat):Sl (w.drewN n) v xs:=
 h.of_block (Nat.le_refl _) λ_ _ _=>rfl
theorem Bs.sl {w:World} {v:Value} {bs:List UInt8} (h:Bs w v bs):Sl w v (u8s bs):=by
 obtain⟨a,cap,rfl,h1,h2,h3⟩:=h;refine⟨a,cap,by rw[zaz],by rw[zaz];exact h1,h2,λhne=>?_⟩
 obtain⟨b,off,rfl,hb,hc⟩:=h3 (by intro e;subst e;simp[u8s]at hne)
 refine⟨b,off,rfl,hb,λi hi=>?_⟩
 rw[zaz]at hi;rw[hc i hi];simp[u8s]
theorem Sl.bs {w:World} {v:Value} {bs:List UInt8} (h:Sl w v (u8s bs)):Bs w v bs:=by
 obtain⟨a,cap,rfl,h1,h2,h3⟩:=h;rw[zaz]at h1;refine⟨a,cap,by rw[zaz],h1,h2,λhne=>?_⟩
 obtain⟨b,off,rfl,hb,hc⟩:=h3 (by intro e;simp[u8s]at e;exact hne e)
 refine⟨b,off,rfl,hb,λi hi=>?_⟩
 rw[hc i (by rw[zaz];exact hi)];simp[u8s]
theorem Sl.made (w:World) (xs:List Value) (C:Array Value) (e:TypeId) (n:Nat) (hC:C=xs.toArray) (hn:n=xs.length) (hm:xs.length<=maxLen):Sl (w.alloc (.cells C e)) (.slice (some ⟨w.heap.size,0,none⟩) n n) xs:=by
 subst hC hn;refine⟨_,_,rfl,Nat.le_refl _,hm,λ_=>⟨_,_,rfl,by simp,λi hi=>?_⟩⟩
 rw[Nat.zero_add,World.cell?_alloc_at _ _ _ _ rfl];simp[List.getElem?_eq_getElem hi]
theorem Sl.src {P:Program} {w:World} {y:Value} {ys:List Value} (h:Sl w y ys) {tx e':TypeId} (hk:P.underlying tx=some (.slice e')) (h1:∀ u∈ys,u.oneCell'=true):Src P 1 tx y ys.length ys w:=by
 obtain⟨a,cap,rfl,g1,g2,g3⟩:=h
 cases a with
 | none =>
  have hys:ys=[]:=by
   by_cases h:ys=[]
   ·exact h
   ·obtain⟨b,off,hh,_⟩:=g3 h;simp at hh
  subst hys;exact Src.ofNil w hk cap
 | some ad =>
  refine Src.ofSlice w hk ad ys.length cap ys (by omega) ?_ h1
  intro j u hj;have hjl:=(List.getElem?_eq_some_iff.1 hj).1;obtain⟨b,off,hh,_,hc⟩:=g3 (by intro e;subst e;simp at hjl)
  simp only[Option.some.injEq]at hh;subst hh;have hplain:(⟨b,off,none⟩:Addr).add j=⟨b,off+j,none⟩:=by unfold Addr.add;split <;> simp_all
  rw[hplain,hc j hjl,<- (List.getElem?_eq_some_iff.1 hj).2]
theorem zsG (bs:List UInt8):∀ u∈u8s bs,u.oneCell'=true:=λu hu=>by simp[u8s]at hu;obtain⟨x,_,rfl⟩:=hu;rfl
theorem Bs.src {P:Program} {w:World} {y:Value} {ys:List UInt8} (h:Bs w y ys) {tx e':TypeId} (hk:P.underlying tx=some (.slice e')):Src P 1 tx y ys.length (u8s ys) w:=by
 have:=h.sl.src (P:=P) hk (zsG ys)
 rwa [zaz]at this
def OwnV (w:World) (base:Nat) (e:TypeId) (v:Value) (xs:List Value):Prop:=w.ownsRow base e 1 v xs.length xs
theorem Own.v {w:World} {base:Nat} {e:TypeId} {v:Value} {xs:List UInt8} (h:Own w base e v xs):OwnV w base e v (u8s xs):=by
 unfold OwnV;rw[zaz];exact h
theorem OwnV.own {w:World} {base:Nat} {e:TypeId} {v:Value} {xs:List UInt8} (h:OwnV w base e v (u8s xs)):Own w base e v xs:=by
 unfold OwnV at h;rw[zaz]at h;exact h
theorem OwnV.sl {w:World} {base:Nat} {e:TypeId} {v:Value} {xs:List Value} (h:OwnV w base e v xs):Sl w v xs:=by
 obtain⟨h1,h2⟩:=h
 rcases h2 with ⟨rfl,h0⟩ | ⟨g,cap,cur,rfl,hg,hh,hn,hm,hs,ht⟩
 ·have:xs=[]:=List.eq_nil_of_length_eq_zero h0;subst this;exact Sl.nil w
 ·refine⟨_,cap,rfl,hn,hm,λ_=>⟨g,0,rfl,(Array.getElem?_eq_some_iff.1 hh).1,λi hi=>?_⟩⟩
  have:(cur.toList.take (xs.length * 1))[i]? =some xs[i]:=by rw[ht];exact List.getElem?_eq_getElem hi
  simp only[World.cell?,hh];rw[List.getElem?_take,if_pos (by omega)]at this
  simpa using this
theorem OwnV.block {w:World} {base:Nat} {e:TypeId} {v:Value} {xs:List Value} (h:OwnV w base e v xs):∀ k,v.ownBlock=some k->base<=k/\k<w.heap.size:=World.ownsRow.lt h
theorem OwnV.of_block {w w':World} {base:Nat} {e:TypeId} {v:Value} {xs:List Value} (h:OwnV w base e v xs) (hb:∀ k,v.ownBlock=some k->k<w.heap.size->w'.heap[k]? =w.heap[k]?):OwnV w' base e v xs:=by
 obtain⟨h1,h2⟩:=h;refine⟨h1, ?_⟩
 rcases h2 with h2 | ⟨g,cap,cur,rfl,hg,hh,r⟩
 ·exact Or.inl h2
 ·exact Or.inr ⟨g,cap,cur,rfl,hg,by rw[hb g rfl (Array.getElem?_eq_some_iff.1 hh).1];exact hh,r⟩
theorem OwnV.later {w w':World} {base:Nat} {e:TypeId} {v:Value} {xs:List Value} (h:OwnV w base e v xs) (hb:Below w.heap.size w w'):OwnV w' base e v xs:=
 h.of_block λk _ hk=>hb.block k hk
theorem OwnV.typed {w:World} {base:Nat} {e:TypeId} {v:Value} {xs:List Value} (h:OwnV w base e v xs):∀ k,v.ownBlock=some k->∃ C,w.heap[k]? =some (.cells C e (0,0)):=by
 intro k hk
 rcases h.2 with ⟨rfl,_⟩ | ⟨g,cap,cur,rfl,hg,hh,r⟩
 ·simp[Value.ownBlock]at hk
 ·simp[Value.ownBlock]at hk;subst hk;exact⟨cur,hh⟩
theorem OwnV.nil (w:World) (base:Nat) (e:TypeId):OwnV w base e (.slice none 0 0) []:=World.ownsRow_nil w base e 1
theorem OwnV.lit (w:World) (base:Nat) (e:TypeId) (xs:List Value) (C:Array Value) (n:Nat) (hb:base<=w.heap.size) (hC:C=xs.toArray) (hn:n=xs.length) (hm:xs.length<=maxLen) :
 OwnV (w.alloc (.cells C e)) base e (.slice (some ⟨w.heap.size,0,none⟩) n n) xs:=by
 subst hC hn;have:=World.ownsRow_lit (base:=base) (e:=e) (size:=1) w xs.toArray xs.length hb hm (by simp)
 unfold OwnV;simpa using this
theorem zca {P:Program} (w:World) (base:Nat) (t tx ty e:TypeId) (i:TypeInfo) (z:Value) (ht:P.underlying t=some (.slice e)) (hi:P.info? e=some i) (hz:i.zero=some z) (hs1:i.size=1) (hzs:z.cells.size=1)
 {v y:Value} {xs news:List Value} {n:Nat} (hv:OwnV w base e v xs) (hs:Src P 1 tx y n news w) (h63:xs.length+n<=maxLen) (hbytes:((xs.length+n)+(xs.length+n) / 4+192) * i.bytes<=281474976710656) (hbase:base<=w.heap.size) :
 ∃ v' w',(Builtin.append_ #[t,tx] ty #[v,y]).run P w=.ok v' w'/\OwnV w' base e v' (xs ++ news)/\w.grownBy w' v.ownBlock/\(v'.ownBlock=v.ownBlock∨v'.ownBlock=some w.heap.size)/\w'.heap.size<=w.heap.size+1:=by
 have hnl:news.length=n:=by have:=hs.newsLen;omega
 have h63i:((xs.length+n:Nat):Int)<=9223372036854775807:=by simp only[maxLen]at h63;omega
 have hlen:(xs ++ news).length=xs.length+n:=by rw[List.length_append,hnl]
 have grown:∀ (old:Nat),old<xs.length+n ->
  OwnV (w.drew.alloc (.cells ((xs ++ news).toArray ++ Builtin.zeroCells z.cells (grownCap w (xs.length+n) old e - (xs.length+n))) e)) base e
   (.slice (some ⟨w.heap.size,0,none⟩) (xs.length+n) (grownCap w (xs.length+n) old e)) (xs ++ news):=by
  intro old ho;have hge:=grownCap_ge w (xs.length+n) old e;have hcm:grownCap w (xs.length+n) old e<=maxLen:=grownCap_le_maxLen w (xs.length+n) old e h63;refine⟨by omega,.inr ⟨w.heap.size,_,_,by rw[hlen],hbase,heap_alloc_new w.drew _,by rw[hlen];exact hge,hcm, ?_, ?_⟩⟩
  ·simp only[Array.size_append,List.size_toArray,size_zeroCells,hzs,hlen];omega
  ·rw[show (xs ++ news).length * 1=(xs ++ news).length by omega,Array.toList_append]
   exact List.take_left
 have hgb:∀ row C,w.grownBy (w.drew.alloc (.cells C e)) row:=λrow C=>⟨rfl,rfl,rfl,by simp,λk hk _=>heap_alloc_old w.drew _ hk⟩
 rcases hv.2 with ⟨rfl,h0⟩ | ⟨g,cap,cur,rfl,hbg,hg,hnc,hcm,hcs,htake⟩
 ·have hx:xs=[]:=List.eq_nil_of_length_eq_zero h0;subst hx;by_cases hm:n=0
  ·subst hm;have hn:news=[]:=List.eq_nil_of_length_eq_zero hnl;subst hn;refine⟨.slice none 0 0,w, ?_,OwnV.nil w base e,⟨rfl,rfl,rfl,Nat.le_refl _,λ_ _ _=>rfl⟩,.inl rfl,by omega⟩
   have hc:=hs.cells
   rcases hs.kind with ⟨e',hk⟩ | hk <;> simp[Builtin.append_,run_underlying ht,run_underlying hk,sizeOf,typeInfo,hi,hs1,hs.len,hc]
  ·have hr:=run_append_grow_src (P:=P) w t tx ty e i z ht hi hz none 0 0 [] (by simp[Builtin.firstCells]) y n news (by rw[hs1];exact hs) (by omega) (by simpa using h63i) (growslice_fits_wide (by omega) (by simpa using hbytes))
   have hgr:=grown 0 (by simp;omega)
   simp only[List.length_nil]at hgr;exact⟨_,_,hr,hgr,hgb _ _,.inr rfl,by simp⟩
 ·by_cases hroom:xs.length+n<=cap
  ·have hfit:xs.length * i.size+news.length<=cur.size:=by rw[hs1,hcs,hnl];omega
   have hst:=run_storeCells_at P g (xs.length * i.size) e news 0 cur w hg (by simpa using hfit) hs.one
   simp only[Nat.add_zero]at hst;have hr:(Builtin.append_ #[t,tx] ty #[.slice (some ⟨g,0,none⟩) xs.length cap,y]).run P w=.ok (.slice (some ⟨g,0,none⟩) (xs.length+n) cap) (w.setRow g (cur.toList.take (xs.length * i.size) ++ news ++ cur.toList.drop (xs.length * i.size+news.length)).toArray):=by
    have hc:=hs.cells;rw[hs1]at hst ⊢;simp only[Nat.mul_one]at hst ⊢
    rcases hs.kind with ⟨e',hk⟩ | hk <;> simp[Builtin.append_,run_underlying ht,run_underlying hk,sizeOf,typeInfo,hi,hs1,hs.len,hc,hroom,Addr.add_lit,hst]
   refine⟨_,_,hr,⟨by omega,.inr ⟨g,cap,_,by rw[hlen],hbg,setRow_heap w g cur _ e _ hg,by rw[hlen];exact hroom,hcm, ?_, ?_⟩⟩,⟨rfl,rfl,rfl,by simp,λk _ hk=>setRow_other w g k _ (λe=>hk (by simp[Value.ownBlock,e]))⟩,.inl rfl,by simp⟩
   ·simp only[List.size_toArray,List.length_append,List.length_take,List.length_drop,Array.length_toList,hs1];omega
   ·rw[hs1,htake,Nat.mul_one];exact List.take_left
  ·have hold:(Builtin.firstCells i.size xs.length (.slice (some ⟨g,0,none⟩) xs.length cap)).run P w.drew=.ok xs.toArray w.drew:=by
    rw[hs1];refine run_firstCells_some w.drew 1 xs.length ⟨g,0,none⟩ xs.length cap xs (by omega) ?_
    intro j u hj;exact World.ownsRow.cells (w:=w.drew) (base:=base) (e:=e) (size:=1) (v:=.slice (some ⟨g,0,none⟩) xs.length cap) (n:=xs.length) (xs:=xs) hv (g:=g) rfl j u hj
   have hr:=run_append_grow_src (P:=P) w t tx ty e i z ht hi hz (some ⟨g,0,none⟩) xs.length cap xs hold y n news (by rw[hs1];exact hs) (by omega) h63i (growslice_fits_wide (by omega) hbytes)
   exact⟨_,_,hr,grown cap (by omega),hgb _ _,.inr rfl,by simp⟩
theorem zbv {P:Program} {ops:Array Oper} {Q:Exit->Act->World->Prop} {a:Act} {w:World} {rest:List Oper} {o:Oper} (hw:Region.wanted o (yielded ops a.tmps)=true) (s x:Operand) (t tx:TypeId)
 (ho:o.op=.call { callee:=.builtin .append,args:=#[s,x],argTypes:=#[t,tx] }) (base:Nat) (e:TypeId) (z:Value) (bytes:Nat) (ht:P.underlying t=some (.slice e)) (hinfo:(P.info? e).map (λi=>(i.zero,i.size,i.bytes))=some (some z,1,bytes)) (hzs:z.cells.size=1)
 {v y:Value} {xs news:List Value} {n:Nat} (hs:a.eval s=v) (hx:a.eval x=y) (hv:OwnV w base e v xs) (hy:Src P 1 tx y n news w) (h63:xs.length+n<=maxLen) (hb:((xs.length+n)+(xs.length+n) / 4+192) * bytes<=281474976710656) (hbase:base<=w.heap.size)
 (h:∀ v' w',OwnV w' base e v' (xs ++ news)->w.grownBy w' v.ownBlock->(v'.ownBlock=v.ownBlock∨v'.ownBlock=some w.heap.size)->w'.heap.size<=w.heap.size+1->wpList P ops Q rest (a.put o.dst v') w'):wpList P ops Q (o :: rest) a w:=by
 refine zbL hw λK hK=>?_
 obtain⟨i,hi,hz0,hz1,hz2⟩:=info_parts hinfo;subst hz2;obtain⟨v',w',hr,h2,h3,h4,h5⟩:=zca (P:=P) w base t tx o.type e i z ht hi hz0 hz1 hzs hv hy h63 hb hbase;unfold Oper.wp execOp;simp only[ho,resolve,invoke,builtin,Sem.run_bind,Sem.run_pure,Result.andThen_ok,List.map_toArray,List.map_cons,List.map_nil,hs,hx,hr];exact hK _ _ (h v' w' h2 h3 h4 h5)
theorem zg2 (n:Int) (hn:n<=12) (w:World) :
 Calls Tryz.prog 120 #[.int .i64 n] w λe w'=>e=.returned (.agg #[.string (opS n),.int .i64 (opP n),.int .i64 (opW n)])/\Below w.heap.size w w':=by
 go_enter Tryz.func120,Tryz.ntmps120;go_wp2
 all_goals
  refine bodyPost_ret (v:=_) (by simp[results,Tryz.results120,go_sem];rfl) rfl ⟨?_, ?_⟩
  ·simp only[beq_iff_eq,beq_eq_false_iff_ne,ne_eq]at *
   first
    | (subst n;rfl)
    | (
      have ho:¬ (1<=n/\n<=75):=by omega
      exact zdF (zdb ho).symm (zcy ho).symm (zdU ho).symm)
  ·exact (Below.refl _ _).alloc (Nat.le_refl _) _
theorem zfl (n:Int) (h1:12<n) (h2:n<=33) (w:World) :
 Calls Tryz.prog 121 #[.int .i64 n] w λe w'=>e=.returned (.agg #[.string (opS n),.int .i64 (opP n),.int .i64 (opW n)])/\Below w.heap.size w w':=by
 go_enter Tryz.func121,Tryz.ntmps121;go_wp2
 all_goals
  refine bodyPost_ret (v:=_) (by simp[results,Tryz.results121,go_sem];rfl) rfl ⟨?_, ?_⟩
  ·simp only[beq_iff_eq,beq_eq_false_iff_ne,ne_eq]at *
   first
    | (subst n;rfl)
    | (
      have ho:¬ (1<=n/\n<=75):=by omega
      exact zdF (zdb ho).symm (zcy ho).symm (zdU ho).symm)
  ·exact (Below.refl _ _).alloc (Nat.le_refl _) _
theorem zhb (n:Int) (h1:33<n) (h2:n<=47) (w:World) :
 Calls Tryz.prog 122 #[.int .i64 n] w λe w'=>e=.returned (.agg #[.string (opS n),.int .i64 (opP n),.int .i64 (opW n)])/\Below w.heap.size w w':=by
 go_enter Tryz.func122,Tryz.ntmps122;go_wp2
 all_goals
  refine bodyPost_ret (v:=_) (by simp[results,Tryz.results122,go_sem];rfl) rfl ⟨?_, ?_⟩
  ·simp only[beq_iff_eq,beq_eq_false_iff_ne,ne_eq]at *
   first
    | (subst n;rfl)
    | (
      have ho:¬ (1<=n/\n<=75):=by omega
      exact zdF (zdb ho).symm (zcy ho).symm (zdU ho).symm)
  ·exact (Below.refl _ _).alloc (Nat.le_refl _) _
theorem zfH (n:Int) (h1:47<n) (h2:n<=66) (w:World) :
 Calls Tryz.prog 123 #[.int .i64 n] w λe w'=>e=.returned (.agg #[.string (opS n),.int .i64 (opP n),.int .i64 (opW n)])/\Below w.heap.size w w':=by
 go_enter Tryz.func123,Tryz.ntmps123;go_wp2
 all_goals
  refine bodyPost_ret (v:=_) (by simp[results,Tryz.results123,go_sem];rfl) rfl ⟨?_, ?_⟩
  ·simp only[beq_iff_eq,beq_eq_false_iff_ne,ne_eq]at *
   first
    | (subst n;rfl)
    | (
      have ho:¬ (1<=n/\n<=75):=by omega
      exact zdF (zdb ho).symm (zcy ho).symm (zdU ho).symm)
  ·exact (Below.refl _ _).alloc (Nat.le_refl _) _
theorem ziz (n:Int) (h1:66<n) (w:World) :
 Calls Tryz.prog 124 #[.int .i64 n] w λe w'=>e=.returned (.agg #[.string (opS n),.int .i64 (opP n),.int .i64 (opW n)])/\Below w.heap.size w w':=by
 go_enter Tryz.func124,Tryz.ntmps124;go_wp2
 all_goals
  refine bodyPost_ret (v:=_) (by simp[results,Tryz.results124,go_sem];rfl) rfl ⟨?_, ?_⟩
  ·simp only[beq_iff_eq,beq_eq_false_iff_ne,ne_eq]at *
   first
    | (subst n;rfl)
    | (
      have ho:¬ (1<=n/\n<=75):=by omega
      exact zdF (zdb ho).symm (zcy ho).symm (zdU ho).symm)
  ·exact (Below.refl _ _).alloc (Nat.le_refl _) _
structure Only (rb:Nat) (w w':World):Prop where
 os:w'.os=w.os
 tape:w'.tape=w.tape
 output:w'.output=w.output
 size:w.heap.size<=w'.heap.size
 block:∀ k,k<w.heap.size->k≠rb->w'.heap[k]? =w.heap[k]?
theorem Only.refl (rb:Nat) (w:World):Only rb w w:=⟨rfl,rfl,rfl,Nat.le_refl _,λ_ _ _=>rfl⟩
theorem Only.trans {rb:Nat} {a b c:World} (h:Only rb a b) (k:Only rb b c):Only rb a c:=
 ⟨k.os.trans h.os,k.tape.trans h.tape,k.output.trans h.output,Nat.le_trans h.size k.size,λi hi hne=>(k.block i (Nat.lt_of_lt_of_le hi h.size) hne).trans (h.block i hi hne)⟩
theorem Only.below {rb B:Nat} {w w':World} (h:Only rb w w') (hB:B<=rb) (hs:B<=w.heap.size):Below B w w':=
 ⟨h.os,h.tape,h.output,h.size,λk hk=>h.block k (by omega) (by omega)⟩
theorem Only.of_below {rb:Nat} {w w':World} (h:Below w.heap.size w w'):Only rb w w':=⟨h.os,h.tape,h.output,h.size,λk hk _=>h.block k hk⟩
theorem Only.drewN {rb:Nat} {a w:World} (h:Only rb a w) (n:Nat):Only rb a (w.drewN n):=⟨h.os,h.tape,h.output,h.size,h.block⟩
theorem Only.setCell {rb:Nat} {a w:World} (h:Only rb a w) (o:Nat) (u:Value):Only rb a (w.setCell ⟨rb,o,none⟩ u):=
 h.trans ⟨rfl,rfl,rfl,by simp[World.setCell],λk _ hne=>Below.heap_setCell _ _ _ _ hne⟩
theorem Only.alloc {rb:Nat} {a w:World} (h:Only rb a w) (o:Obj):Only rb a (w.alloc o):=
 h.trans (Only.of_below ((Below.refl _ _).alloc (Nat.le_refl _) o))
theorem Bs.only {w w':World} {v:Value} {bs:List UInt8} {rb:Nat} (h:Bs w v bs) (ho:Only rb w w') (hk:bs≠[]->v.ownBlock≠some rb):Bs w' v bs:=by
 by_cases hb:bs=[]
 ·subst hb;obtain⟨a,cap,rfl,h1,h2,h3⟩:=h;exact⟨a,cap,rfl,h1,h2,λhne=>absurd rfl hne⟩
 ·exact h.of_block ho.size λk hv hlt=>ho.block k hlt (λe=>hk hb (e ▸ hv))
theorem zfI {P:Program} (w:World) (t ty e:TypeId) (i:TypeInfo) (z:Value) (n:Nat) (zs:List Value) (ht:P.underlying t=some (.slice e)) (hi:P.info? e=some i) (hz:i.zero=some z) (hzs:(Builtin.zeroCells z.cells n).toList=zs) (h1:∀ v∈zs,v.oneCell'=true) (hn:0<n)
 (g o c:Nat) (cur:Array Value) (hg:At w g cur e) (ho:o+zs.length<=cur.size) :
 (Builtin.clear_ #[t] ty #[.slice (some ⟨g,o,none⟩) n c]).run P w=.ok (.tuple #[]) (w.setRow g (cur.toList.take o ++ zs ++ cur.toList.drop (o+zs.length)).toArray):=by
 have hst:=run_storeCells_at P g o e zs 0 cur w hg (by simpa using ho) h1
 simp only[Nat.add_zero]at hst;obtain⟨m,rfl⟩:∃ m,n=m+1:=⟨n - 1,by omega⟩
 simp[Builtin.clear_,run_underlying ht,zeroValue,typeInfo,hi,hz,hzs,hst]
theorem zoL {base:Nat} (w:World) (g:Nat) (C:Array Value) (hg:base<=g):Below base w (w.setRow g C):=
 ⟨rfl,rfl,rfl,by simp,λk hk=>setRow_other w g k _ (by omega)⟩
end Go.Proofs.YtkedhjdipnhgdaaGreat

namespace Go.Proofs.YtkedhjdipnhgdaaGreat
set_option maxHeartbeats 16000000
set_option linter.all false
open Go.RowKit Go.Maps
theorem zfx {P:Program} {ops:Array Oper} {o:Oper} {a:Act} {w:World} {K:Act->World->Prop} {Q:Exit->Act->World->Prop} {E:Prop} (hg:o.guard=none) (s x:Operand) (t tx:TypeId)
 (ho:o.op=.call { callee:=.builtin .append,args:=#[s,x],argTypes:=#[t,tx] }) (base:Nat) (e:TypeId) (z:Value) (bytes:Nat) (ht:P.underlying t=some (.slice e)) (hinfo:(P.info? e).map (λi=>(i.zero,i.size,i.bytes))=some (some z,1,bytes)) (hzs:z.cells.size=1)
 {v y:Value} {xs news:List Value} {n:Nat} (hs:a.eval s=v) (hx:a.eval x=y) (hv:OwnV w base e v xs) (hy:Src P 1 tx y n news w) (h63:xs.length+n<=maxLen) (hb:((xs.length+n)+(xs.length+n) / 4+192) * bytes<=281474976710656) (hbase:base<=w.heap.size)
 (h:∀ v' w',OwnV w' base e v' (xs ++ news)->w.grownBy w' v.ownBlock->K (a.put o.dst v') w'):if Region.wanted o (yielded ops a.tmps)=true then Oper.wp P o a w K Q else E:=by
 have hw:Region.wanted o (yielded ops a.tmps)=true:=by simp[Region.wanted,hg]
 rw[if_pos hw];obtain⟨i,hi,hz0,hz1,hz2⟩:=info_parts hinfo;subst hz2;obtain⟨v',w',hr,h2,h3,h4,h5⟩:=zca (P:=P) w base t tx o.type e i z ht hi hz0 hz1 hzs hv hy h63 hb hbase;unfold Oper.wp execOp;simp only[ho,resolve,invoke,builtin,Sem.run_bind,Sem.run_pure,Result.andThen_ok,List.map_toArray,List.map_cons,List.map_nil,hs,hx,hr];exact h v' w' h2 h3
theorem ziZ (s:ByteArray):s.toList=s.data.toList:=Lib.toList_data s
theorem zuo (s t:ByteArray):(s.toList==t.toList)=decide (s.data.toList=t.data.toList):=by
 rw[ziZ,ziZ];generalize s.data.toList=a;generalize t.data.toList=b;by_cases h:a=b <;> simp[h]
theorem zqA {P:Program} {tx e':TypeId} (hk:P.underlying tx=some (.slice e')) (w:World) (x:Value) (e:TypeId) (g:Nat) (hg:g=w.heap.size) (h1:x.oneCell'=true):Src P 1 tx (.slice (some ⟨g,0,none⟩) 1 1) 1 [x] (w.alloc (Obj.cells #[x] e)):=by
 subst hg;exact (Sl.made w [x] #[x] e 1 rfl rfl (by simp[maxLen])).src hk (by intro u hu;simp at hu;subst hu;exact h1)
end Go.Proofs.YtkedhjdipnhgdaaGreat

namespace Go.Proofs.YtkedhjdipnhgdaaGreat
set_option maxHeartbeats 16000000
set_option linter.all false
structure Cl where
 k:Int
 tf:Int
 tt:Int
 hf:Int
 ht:Int
 fi:Int
 t0:Int
 t1:Int
 t2:Int
 t3:Bool
abbrev Sp:=Int × Int
def zcI (c:Cl):Sp:=(c.tf,c.tt)
def zex (c:Cl):Sp:=(c.hf,c.ht)
def zgd (c:Cl):Sp:=(c.fi,c.hf)
def zaj (c:Cl):List Sp:=if c.k=2 then [zcI c,zex c,zgd c] else [zcI c,zex c]
def zbK (s o:Sp):Bool:=decide (s.1<s.2)&&decide (o.1<=s.1)&&decide (s.2<=o.2)
def zeV (s o:Sp):Bool:=decide (max s.1 o.1<min s.2 o.2)
def zgf (n:Int) (c:Cl):Bool:=
 decide (1<=c.k)&&decide (c.k<=4)&&zbK (zcI c) (0,n)&&zbK (zex c) (0,n)&&(if c.k=2 then zbK (zgd c) (0,n) else decide (c.fi = -1))
def ziU (l:List Sp) (i:Nat):Bool:=(l.take i).any (zeV (l.getD i (0,0)))
def zfu (l:List Sp):Bool:=(List.range l.length).any (ziU l)
def zdP (a b:List Sp):Bool:=a.any λs=>b.any (zeV s)
def zns (a:List Sp) (o:Sp):Bool:=a.all λs=>zbK s o&&!decide (s=o)
def zcS (a b:List Sp):Bool:=
 if zdP a b=true then (if a.headD (0,0)=b.headD (0,0) then !zdP a.tail b.tail else b.any (zns a)) else true
def clE (n:Int) (pre:List Cl) (c:Cl):Int:=
 if zgf n c=true then (if zfu (zaj c)=true then 12 else if (pre.any λx=>!zcS (zaj x) (zaj c))=true then 12 else 0) else 3
def zjV (n:Int) (l:List Cl) (i:Nat):Int:=match l[i]? with
 | some c=>clE n (l.take i) c
 | none=>0
theorem zkv (n:Int) (l:List Cl) (i:Nat) (h:i<l.length):zjV n l i=clE n (l.take i) l[i]:=by
 simp[zjV,List.getElem?_eq_getElem h]
def FirstR (f:Nat->Int) (m:Nat) (i e:Int):Prop:=(i=0/\e=0/\∀ k,k<m->f k=0)∨(∃ q,q<m/\i=(q:Int)/\e=f q/\f q≠0/\∀ k,k<q->f k=0)
def zfV (n:Int) (l:List Cl) (i e:Int):Prop:=if 6<l.length then i=0/\e=4 else FirstR (zjV n l) l.length i e
def bnd (c:Cl) (p:Int):Sp:=if p=1 then (c.tf,c.tt) else if p=2 then (c.hf,c.ht) else if c.k=2 then (c.fi,c.hf) else (0,0)
def zap (a:Cl) (p:Int) (b:Cl) (q:Int):Bool:=
 decide ((bnd a p).1<(bnd b q).2)&&decide ((bnd b q).1<(bnd a p).2)&&decide ((bnd a p).1<(bnd a p).2)&&decide ((bnd b q).1<(bnd b q).2)
def zay (a:Cl) (p:Int) (b:Cl) (q:Int):Bool:=
 if (bnd a p).1=0/\(bnd a p).2=0 then true
 else decide ((bnd b q).1<=(bnd a p).1)&&decide ((bnd a p).2<=(bnd b q).2)&&(decide ((bnd b q).1<(bnd a p).1)||decide ((bnd a p).2<(bnd b q).2))
def zaV (n:Int) (c:Cl):Int:=
 if c.k<1∨4<c.k∨¬ (0<=c.tf/\c.tf<c.tt/\c.tt<=n)∨¬ (0<=c.hf/\c.hf<c.ht/\c.ht<=n) then 3
 else if (c.k=2/\(c.fi<0∨c.hf<=c.fi))∨(c.k≠2/\c.fi≠-1) then 3
 else if (zap c 1 c 2||zap c 1 c 3||zap c 2 c 3)=true then 12 else 0
def za5 (a b:Cl) (q:Int):Bool:=decide ((bnd b q).1<(bnd b q).2)&&zay a 1 b q&&zay a 2 b q&&zay a 3 b q
def zeg (a b:Cl):Bool:=decide (a.tf=b.tf)&&decide (a.tt=b.tt)
def zbG (a b:Cl) (p q:Int):Bool:=zap a p b q&&!(zeg a b&&decide (p=1)&&decide (q=1))
def za1 (a b:Cl) (p:Int):Bool:=zbG a b p 1||zbG a b p 2||zbG a b p 3
def zbh (a b:Cl):Bool:=if (za5 a b 1||za5 a b 2||za5 a b 3)=true then true else !(za1 a b 1||za1 a b 2||za1 a b 3)
def ztp (n:Int) (pre:List Cl) (c:Cl):Int:=
 if zaV n c=0 then (if (pre.any λx=>!zbh x c)=true then 12 else 0) else zaV n c
def zdW (n:Int) (l:List Cl) (i:Nat):Int:=match l[i]? with
 | some c=>ztp n (l.take i) c
 | none=>0
theorem zmp (n:Int) (l:List Cl) (i:Nat) (h:i<l.length):zdW n l i=ztp n (l.take i) l[i]:=by
 simp[zdW,List.getElem?_eq_getElem h]
def zdd (n:Int) (l:List Cl) (i e:Int):Prop:=if 6<l.length then i=0/\e=4 else FirstR (zdW n l) l.length i e
theorem zaW (s o:Sp):zeV s o=true↔s.1<s.2/\s.1<o.2/\o.1<s.2/\o.1<o.2:=by
 simp only[zeV,decide_eq_true_eq,Int.max_lt,Int.lt_min];constructor
 ·rintro⟨⟨a,b⟩,c,d⟩;exact⟨a,c,b,d⟩
 ·rintro⟨a,c,b,d⟩;exact⟨⟨a,b⟩,c,d⟩
theorem zgJ (s o:Sp):zbK s o=true↔s.1<s.2/\o.1<=s.1/\s.2<=o.2:=by
 simp only[zbK,Bool.and_eq_true,decide_eq_true_eq,and_assoc]
theorem zo3 (n:Int) (c:Cl):zgf n c=true↔1<=c.k/\c.k<=4/\c.tf<c.tt/\0<=c.tf/\c.tt<=n/\c.hf<c.ht/\0<=c.hf/\c.ht<=n/\(c.k=2->c.fi<c.hf/\0<=c.fi/\c.hf<=n)/\(c.k≠2->c.fi = -1):=by
 obtain⟨k,tf,tt,hf,ht,fi,t0,t1,t2,t3⟩:=c;by_cases hk:k=2
 ·simp only[zgf,Bool.and_eq_true,decide_eq_true_eq,zgJ,zcI,zex,zgd,hk,if_true,true_implies,ne_eq,not_true_eq_false,false_implies,and_true,and_assoc]
 ·simp only[zgf,Bool.and_eq_true,decide_eq_true_eq,zgJ,zcI,zex,zgd,hk,if_false,false_implies,ne_eq,not_false_eq_true,true_implies,true_and,and_assoc]
theorem zs0 (a b:Sp):zfu [a,b]=zeV b a:=by
 simp[zfu,ziU,List.range,List.range.loop]
theorem zoy (a b c:Sp):zfu [a,b,c]=(zeV b a||(zeV c a||zeV c b)):=by
 simp[zfu,ziU,List.range,List.range.loop]
theorem znV (c:Cl):zfu (zaj c)=true↔zeV (zex c) (zcI c)=true∨(c.k=2/\(zeV (zgd c) (zcI c)=true∨zeV (zgd c) (zex c)=true)):=by
 by_cases hk:c.k=2
 ·simp only[zaj,hk,if_true,zoy,Bool.or_eq_true,true_and]
 ·simp only[zaj,hk,if_false,zs0,false_and,or_false]
theorem zbF (a:Cl) (p:Int) (b:Cl) (q:Int):zap a p b q=zeV (bnd a p) (bnd b q):=by
 rw[Bool.eq_iff_iff,zaW];simp only[zap,Bool.and_eq_true,decide_eq_true_eq];constructor
 ·rintro⟨⟨⟨a,b⟩,c⟩,d⟩;exact⟨c,a,b,d⟩
 ·rintro⟨c,a,b,d⟩;exact⟨⟨⟨a,b⟩,c⟩,d⟩
theorem zpL (c:Cl):bnd c 1=zcI c:=rfl
theorem zrV (c:Cl):bnd c 2=zex c:=rfl
theorem zqf (c:Cl):bnd c 3=if c.k=2 then zgd c else (0,0):=rfl
theorem zp3 (n:Int) (c:Cl):zaV n c=(if zgf n c=true then (if zfu (zaj c)=true then 12 else 0) else 3):=by
 have h1:=zo3 n c;have h2:=znV c;have h3:(zap c 1 c 2||zap c 1 c 3||zap c 2 c 3)=true↔zfu (zaj c)=true:=by
  rw[h2];simp only[Bool.or_eq_true,zbF,zpL,zrV,zqf];by_cases hk:c.k=2
  ·simp only[hk,if_true,true_and,zaW];constructor <;> (intro h;omega)
  ·simp only[hk,if_false,false_and,or_false,zaW];constructor <;> (intro h;omega)
 unfold zaV;by_cases hr:zgf n c=true
 ·have hr':=h1.1 hr;rw[if_neg (by omega),if_neg (by omega),if_pos hr]
  by_cases ho:zfu (zaj c)=true
  ·rw[if_pos (h3.2 ho),if_pos ho]
  ·rw[if_neg (λh=>ho (h3.1 h)),if_neg ho]
 ·have hr':=λh=>hr (h1.2 h)
  rw[if_neg hr]
  split
  ·rfl
  ·rw[if_pos (Classical.byContradiction λhB=>hr' ⟨by omega,by omega,by omega,by omega,by omega,by omega,by omega,by omega,λhk=>by omega,λhk=>by omega⟩)]
theorem zvt (n:Int) (a b:Cl) (ha:zgf n a=true) (hb:zgf n b=true) (oa:zfu (zaj a)=false) (ob:zfu (zaj b)=false):zbh a b=zcS (zaj a) (zaj b):=by
 rw[zo3]at ha hb;have oa':¬ zfu (zaj a)=true:=by rw[oa];decide
 have ob':¬ zfu (zaj b)=true:=by rw[ob];decide
 rw[znV]at oa' ob';have hmeet:(zdP (zaj a) (zaj b)=true)↔(zap a 1 b 1||zap a 1 b 2||zap a 1 b 3||zap a 2 b 1||zap a 2 b 2||zap a 2 b 3||zap a 3 b 1||zap a 3 b 2||zap a 3 b 3)=true:=by
  have z:∀ s:Sp,zeV (0,0) s=false/\zeV s (0,0)=false:=λs=>⟨by rw[Bool.eq_false_iff,ne_eq,zaW];omega,by rw[Bool.eq_false_iff,ne_eq,zaW];omega⟩
  by_cases h1:a.k=2 <;> by_cases h2:b.k=2 <;> simp[zaj,h1,h2,zdP,zbF,zpL,zrV,zqf,z,or_assoc]
 have hcell:∀ (s o:Sp),(zbK s o&&!decide (s=o))=true↔s.1<s.2/\o.1<=s.1/\s.2<=o.2/\(o.1<s.1∨s.2<o.2):=by
  intro s o;obtain⟨s1,s2⟩:=s;obtain⟨o1,o2⟩:=o;simp only[Bool.and_eq_true,zgJ,Bool.not_eq_true',decide_eq_false_iff_not,Prod.mk.injEq];omega
 have hhold:∀ q:Int,(za5 a b q=true)↔((bnd b q).1<(bnd b q).2/\zns (zaj a) (bnd b q)=true):=by
  intro q;have hw:∀ p:Int,(bnd a p).1<(bnd a p).2->(zay a p b q=true↔(zbK (bnd a p) (bnd b q)&&!decide (bnd a p=bnd b q))=true):=by
   intro p hp;rw[hcell];unfold zay;rw[if_neg (by omega)]
   simp only[Bool.and_eq_true,Bool.or_eq_true,decide_eq_true_eq];omega
  have w1:=hw 1 (by rw[zpL];exact ha.2.2.1)
  have w2:=hw 2 (by rw[zrV];exact ha.2.2.2.2.2.1)
  rw[zpL]at w1;rw[zrV]at w2;by_cases h1:a.k=2
  ·have w3:=hw 3 (by rw[zqf,if_pos h1];exact (ha.2.2.2.2.2.2.2.2.1 h1).1)
   rw[zqf,if_pos h1]at w3;simp only[za5,Bool.and_eq_true (zay _ _ _ _),Bool.and_eq_true (decide _&&zay _ _ _ _),Bool.and_eq_true (decide _&&zay _ _ _ _&&zay _ _ _ _),Bool.and_eq_true (decide _),decide_eq_true_eq,w1,w2,w3,zns,zaj,h1,if_true,List.all_cons,List.all_nil,Bool.and_true];simp only[Bool.and_eq_true,and_assoc]
  ·have w3:zay a 3 b q=true:=by
    unfold zay;rw[zqf,if_neg h1];simp
   simp only[za5,w3,Bool.and_true];simp only[Bool.and_eq_true (decide _&&zay _ _ _ _),Bool.and_eq_true (decide _),decide_eq_true_eq,w1,w2,zns,zaj,h1,if_false,List.all_cons,List.all_nil,Bool.and_true];simp only[Bool.and_eq_true,and_assoc]
 have hany:(za5 a b 1||za5 a b 2||za5 a b 3)=true↔(zaj b).any (zns (zaj a))=true:=by
  have l1:(zcI b).1<(zcI b).2:=hb.2.2.1;have l2:(zex b).1<(zex b).2:=hb.2.2.2.2.2.1;simp only[Bool.or_eq_true,hhold,zpL,zrV,zqf];by_cases h2:b.k=2
  ·have l3:(zgd b).1<(zgd b).2:=(hb.2.2.2.2.2.2.2.2.1 h2).1;simp only[zaj,h2,if_true,List.any_cons,List.any_nil,Bool.or_eq_true,l1,l2,l3,true_and,or_assoc,Bool.false_eq_true,or_false]
  ·simp only[zaj,h2,if_false,List.any_cons,List.any_nil,Bool.or_eq_true,l1,l2,true_and,or_assoc,Bool.false_eq_true,or_false,Int.lt_irrefl,false_and]
 have hsame:zeg a b=true↔zcI a=zcI b:=by simp[zeg,zcI]
 unfold zbh zcS;have hd:(zaj a).headD (0,0)=zcI a/\(zaj b).headD (0,0)=zcI b:=by unfold zaj;constructor <;> split <;> rfl
 rw[hd.1,hd.2];by_cases hm:zdP (zaj a) (zaj b)=true
 ·rw[if_pos hm];by_cases hs:zcI a=zcI b
  ·rw[if_pos hs];have hno:¬ (zaj b).any (zns (zaj a))=true:=by
    intro h;rw[List.any_eq_true]at h;obtain⟨o,ho,hin⟩:=h;have hta:zcI a∈zaj a:=by unfold zaj;split <;> simp
    have:=List.all_eq_true.1 hin _ hta;rw[hcell,hs]at this;have lt:(zcI b).1<(zcI b).2:=hb.2.2.1;have hco:o=zcI b∨o=zex b∨(b.k=2/\o=zgd b):=by
     unfold zaj at ho
     split at ho
     ·simp at ho;rcases ho with h | h | h
      ·exact .inl h
      ·exact .inr (.inl h)
      ·exact .inr (.inr ⟨by assumption,h⟩)
     ·simp at ho;rcases ho with h | h
      ·exact .inl h
      ·exact .inr (.inl h)
    rcases hco with rfl | rfl | ⟨hk,rfl⟩
    ·omega
    ·exact ob' (.inl (by rw[zaW];omega))
    ·exact ob' (.inr ⟨hk,.inl (by rw[zaW];omega)⟩)
   rw[if_neg (λh=>hno (hany.1 h))]
   congr 1
   have hsT:zeg a b=true:=hsame.2 hs;have e12:zap a 1 b 2=false:=by
    rw[zbF,zpL,zrV,hs,Bool.eq_false_iff,ne_eq,zaW];intro h;exact ob' (.inl (by rw[zaW];omega))
   have e13:zap a 1 b 3=false:=by
    rw[zbF,zpL,zqf,hs,Bool.eq_false_iff,ne_eq,zaW];intro h
    split at h
    ·rename_i hk;exact ob' (.inr ⟨hk,.inl (by rw[zaW];omega)⟩)
    ·omega
   have e21:zap a 2 b 1=false:=by
    rw[zbF,zpL,zrV,<- hs,Bool.eq_false_iff,ne_eq,zaW];intro h;exact oa' (.inl (by rw[zaW];omega))
   have e31:zap a 3 b 1=false:=by
    rw[zbF,zpL,zqf,<- hs,Bool.eq_false_iff,ne_eq,zaW];intro h
    split at h
    ·rename_i hk;exact oa' (.inr ⟨hk,.inl (by rw[zaW];omega)⟩)
    ·omega
   have z:∀ s:Sp,zeV (0,0) s=false/\zeV s (0,0)=false:=λs=>⟨by rw[Bool.eq_false_iff,ne_eq,zaW];omega,by rw[Bool.eq_false_iff,ne_eq,zaW];omega⟩
   simp only[za1,zbG,hsT,e12,e13,e21,e31];by_cases h1:a.k=2 <;> by_cases h2:b.k=2 <;> simp[zaj,h1,h2,zdP,zbF,zpL,zrV,zqf,z,Bool.or_assoc]
  ·rw[if_neg hs];have hsF:zeg a b=false:=by rw[Bool.eq_false_iff];exact λh=>hs (hsame.1 h)
   have hbad:(za1 a b 1||za1 a b 2||za1 a b 3)=true:=by
    rw[hmeet]at hm;simp only[za1,zbG,hsF,Bool.false_and,Bool.not_false,Bool.and_true];rw[<- hm];simp only[Bool.or_assoc]
   rw[hbad];by_cases ha':(zaj b).any (zns (zaj a))=true
   ·rw[if_pos (hany.2 ha'),ha']
   ·rw[if_neg (λh=>ha' (hany.1 h)),Bool.eq_false_iff.2 ha'];rfl
 ·rw[if_neg hm];have hm':=λh=>hm (hmeet.2 h)
  simp only[Bool.or_eq_true,not_or]at hm'
  split
  ·rfl
  ·simp only[za1,zbG];have f11:zap a 1 b 1=false:=Bool.eq_false_iff.2 λh=>hm' (by simp[h])
   have f12:zap a 1 b 2=false:=Bool.eq_false_iff.2 λh=>hm' (by simp[h])
   have f13:zap a 1 b 3=false:=Bool.eq_false_iff.2 λh=>hm' (by simp[h])
   have f21:zap a 2 b 1=false:=Bool.eq_false_iff.2 λh=>hm' (by simp[h])
   have f22:zap a 2 b 2=false:=Bool.eq_false_iff.2 λh=>hm' (by simp[h])
   have f23:zap a 2 b 3=false:=Bool.eq_false_iff.2 λh=>hm' (by simp[h])
   have f31:zap a 3 b 1=false:=Bool.eq_false_iff.2 λh=>hm' (by simp[h])
   have f32:zap a 3 b 2=false:=Bool.eq_false_iff.2 λh=>hm' (by simp[h])
   have f33:zap a 3 b 3=false:=Bool.eq_false_iff.2 λh=>hm' (by simp[h])
   rw[f11,f12,f13,f21,f22,f23,f31,f32,f33];rfl
theorem zxr {n:Int} {pre:List Cl} {c:Cl} (h:clE n pre c=0):zgf n c=true/\zfu (zaj c)=false/\∀ x∈pre,zcS (zaj x) (zaj c)=true:=by
 unfold clE at h
 split at h
 ·rename_i hr
  split at h
  ·exact absurd h (by decide)
  ·rename_i ho
   split at h
   ·exact absurd h (by decide)
   ·rename_i ha
    refine⟨hr,Bool.eq_false_iff.2 ho,λx hx=>?_⟩
    rw[List.any_eq_true]at ha
    cases hf:zcS (zaj x) (zaj c) with
    | true=>rfl
    | false=>exact absurd ⟨x,hx,by rw[hf];rfl⟩ ha
 ·exact absurd h (by decide)
theorem zfU {α:Type} {p q:α->Bool}:∀ {l:List α},(∀ x∈l,p x=q x)->l.any p=l.any q
 | [],_=>rfl
 | x :: r,h=>by rw[List.any_cons,List.any_cons,h x (by simp),zfU (λy hy=>h y (by simp[hy]))]
theorem zrJ (n:Int) (l:List Cl) (q:Nat) (hq:q<l.length) (h:∀ k,k<q->zjV n l k=0):zdW n l q=zjV n l q:=by
 rw[zmp n l q hq,zkv n l q hq];unfold ztp clE;rw[zp3];by_cases hr:zgf n l[q]=true
 ·rw[if_pos hr,if_pos hr];by_cases ho:zfu (zaj l[q])=true
  ·rw[if_pos ho,if_pos ho];rfl
  ·rw[if_neg ho,if_neg ho,if_pos rfl];have:((l.take q).any λx=>!zbh x l[q])=((l.take q).any λx=>!zcS (zaj x) (zaj l[q])):=by
    refine zfU λx hx=>?_
    obtain⟨k,hk,rfl⟩:=List.mem_take_iff_getElem.1 hx;have hkq:k<q:=by omega
    have h0:=h k hkq;rw[zkv n l k (by omega)]at h0
    obtain⟨h1,h2,_⟩:=zxr h0;rw[zvt n _ _ h1 hr h2 (Bool.eq_false_iff.2 ho)]
   rw[this]
 ·rw[if_neg hr,if_neg hr];rfl
def zdD (n:Int) (l:List Cl):Prop:=l.length<=6/\∀ k,k<l.length->zjV n l k=0
theorem zk8 {n:Int} {l:List Cl} {i e:Int} (h:zfV n l i e):(e=0↔zdD n l):=by
 unfold zfV at h
 split at h
 ·exact⟨λhe=>by omega,λ ⟨h1,_⟩=>by omega⟩
 ·rename_i hl
  rcases h with ⟨_,rfl,h⟩ | ⟨q,hq,_,rfl,hne,_⟩
  ·exact⟨λ_=>⟨by omega,h⟩,λ_=>rfl⟩
  ·exact⟨λhe=>absurd he hne,λ ⟨_,h2⟩=>h2 q hq⟩
theorem ziT {n:Int} {l:List Cl} {i e:Int} (h:zdd n l i e):(e=0↔zdD n l):=by
 unfold zdd at h
 split at h
 ·exact⟨λhe=>by omega,λ ⟨h1,_⟩=>by omega⟩
 ·rename_i hl
  have both:∀ q,q<=l.length->((∀ k,k<q->zdW n l k=0)->∀ k,k<q->zjV n l k=0):=by
   intro q
   induction q with
   | zero=>intro _ _ k hk;omega
   | succ q ih =>
    intro hq hg k hk;have h1:=ih (by omega) (λk hk=>hg k (by omega))
    rcases Nat.lt_or_ge k q with h | h
    ·exact h1 k h
    ·obtain rfl:k=q:=by omega
     rw[<- zrJ n l k (by omega) h1];exact hg k (by omega)
  rcases h with ⟨_,rfl,h⟩ | ⟨q,hq,_,rfl,hne,hk⟩
  ·exact⟨λ_=>⟨by omega,both _ (Nat.le_refl _) h⟩,λ_=>rfl⟩
  ·exact⟨λhe=>absurd he hne,λ ⟨_,h2⟩=>by rw[zrJ n l q hq (λk hk'=>h2 k (by omega))];exact h2 q hq⟩
end Go.Proofs.YtkedhjdipnhgdaaGreat
