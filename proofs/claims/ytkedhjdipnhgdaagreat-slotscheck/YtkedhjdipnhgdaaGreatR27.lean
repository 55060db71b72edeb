import Derived.Test.YtkedhjdipnhgdaaGreatR23
import Derived.Test.YtkedhjdipnhgdaaGreatR16
namespace Go.Proofs.YtkedhjdipnhgdaaGreat
set_option maxHeartbeats 16000000
set_option linter.all false
open RowKit
def zdf (t:Int) (x:FD):Bool:=decide (x.ow=t)&&!x.st
def zbP (g:Img) (t:Int):List Ty:=(g.fs.filter (zdf t)).map (·.t)
def zcP (t:Ty):Bool:=decide (t.1≠6)||(t.2.2.2||decide (0<t.2.2.1))
def zvP:Ty:=(2,0,0,false)
def orI (l:List Ty):List Ty:=if l=[] then [zvP] else l
def zft (t:Ty):List Ty:=if t.1=1 then [] else [t]
def zcQ (g:Img):Nat->Ty->List Ty
 | 0,t=>zft t
 | k+1,t=>if zcP t=true then zft t else orI ((zbP g t.2.1).flatMap (zcQ g k))
def dpB (g:Img):Nat->Ty->Bool
 | 0,t=>zcP t
 | k+1,t=>zcP t||(zbP g t.2.1).all (dpB g k)
def zbl (g:Img) (t:Ty):List Ty:=zcQ g g.ts.length t
def zaw (g:Img) (t:Ty):Bool:=plainT t&&(if t.1=5 then decide (zag g t.2.1≠-1)&&decide (zag g t.2.1≠1) else if t.1=6 then decide (zag g t.2.1=1) else true)
def zde (g:Img) (u:Int):List Ty:=(zbP g u).flatMap (zbl g)
def znm (g:Img) (t:Int):List Ty:=(upL g t).reverse.flatMap (zde g)
def zbZ (g:Img) (t:Int):Bool:=if zag g t=1 then decide (8<(zbl g (6,t,0,false)).length) else if zag g t=0 then decide (32<(znm g t).length) else false
def zb8 (g:Img):Int × Int:=
 if zaY g=false then (0,17) else
 match g.fs.findIdx? (λx=>!zaw g x.t) with
 | some i=>((i:Int),10)
 | none=>match (List.range g.ts.length).findIdx? (λt:Nat=>zbZ g (t:Int)) with
   | some t=>((t:Int),20)
   | none=>(0,0)
def zbc (g:Img):Bool:=decide ((zb8 g).2=0)
theorem zmv {g:Img} {k:Nat} {t:Ty} (h:zcP t=true):dpB g k t=true:=by
 cases k with
 | zero=>exact h
 | succ k=>unfold dpB;rw[h];rfl
theorem zj8 {g:Img}:∀ {k:Nat} {t:Ty},dpB g k t=true->dpB g (k+1) t=true/\zcQ g (k+1) t=zcQ g k t
 | 0,t,h=>by
  refine⟨zmv h, ?_⟩;unfold dpB at h;show (if zcP t=true then zft t else _)=zft t
  rw[if_pos h]
 | k+1,t,h=>by
  cases hw:zcP t with
  | true =>
   refine⟨zmv hw, ?_⟩;show (if zcP t=true then zft t else _)=(if zcP t=true then zft t else _)
   rw[if_pos hw,if_pos hw]
  | false =>
   have h1:(zbP g t.2.1).all (dpB g k)=true:=by
    unfold dpB at h;rw[hw]at h;simpa using h
   rw[List.all_eq_true]at h1;refine⟨?_, ?_⟩
   ·show (zcP t||(zbP g t.2.1).all (dpB g (k+1)))=true
    rw[hw,Bool.false_or,List.all_eq_true];exact λx hx=>(zj8 (h1 x hx)).1
   ·show (if zcP t=true then zft t else orI ((zbP g t.2.1).flatMap (zcQ g (k+1))))=(if zcP t=true then zft t else orI ((zbP g t.2.1).flatMap (zcQ g k)))
    rw[hw,if_neg (by decide),if_neg (by decide)]
    congr 1
    have:∀ l:List Ty,(∀ x∈l,zcQ g (k+1) x=zcQ g k x)->l.flatMap (zcQ g (k+1))=l.flatMap (zcQ g k):=by
     intro l
     induction l with
     | nil=>intro _;rfl
     | cons a r ih =>
      intro hl;rw[List.flatMap_cons,List.flatMap_cons,hl a (by simp),ih (λx hx=>hl x (List.mem_cons_of_mem _ hx))]
    exact this _ (λx hx=>(zj8 (h1 x hx)).2)
theorem zbk {g:Img} {t:Int} (h:zag g t≠-1):zam t g.ts.length=true:=by
 cases hn:zam t g.ts.length with
 | true=>rfl
 | false=>exact absurd (by unfold zag;rw[hn];rfl) h
theorem zpD {g:Img} {t:Int} {y:Ty} (h:y∈zbP g t):∃ (i:Nat) (hi:i<g.fs.length),g.fs[i].t=y/\g.fs[i].ow=t/\g.fs[i].st=false:=by
 unfold zbP at h;rw[List.mem_map]at h;obtain⟨x,hx,rfl⟩:=h;rw[List.mem_filter]at hx;obtain⟨i,hi,rfl⟩:=List.mem_iff_getElem.1 hx.1;have:=hx.2;unfold zdf at this;simp only[Bool.and_eq_true,decide_eq_true_iff,Bool.not_eq_true']at this;exact⟨i,hi,rfl,this.1,this.2⟩
theorem zka {α:Type} (p:α->Bool):∀ (l:List α) (s:Nat) (i:Nat) (h:i<l.length),p l[i]=true->(((s+i:Nat):Int))∈pkN p (s:Int) l
 | c :: r,s,0,h,hp=>by
  unfold pkN;have:p c=true:=hp;rw[if_pos this];simp
 | c :: r,s,i+1,h,hp=>by
  unfold pkN;have:=zka p r (s+1) i (by simpa using h) hp
  rw[List.mem_append];refine Or.inr ?_;rw[show s+(i+1)=s+1+i by omega]
  exact this
theorem zd1 {g:Img} {t:Ty} (hu:zaw g t=true) (hw:zcP t=false):t.1=6/\t.2.2.2=false/\t.2.2.1=0/\zag g t.2.1=1/\zam t.2.1 g.ts.length=true:=by
 unfold zcP at hw;simp only[Bool.or_eq_false_iff,decide_eq_false_iff_not,ne_eq,Decidable.not_not]at hw;obtain⟨h1,h2,h3⟩:=hw;unfold zaw at hu;rw[h1,if_neg (by decide),if_pos rfl,Bool.and_eq_true,decide_eq_true_iff]at hu
 have hd:0<=t.2.2.1:=by
  have:=hu.1;unfold plainT zaB at this;rw[decide_eq_true_iff]at this;exact this.1
 exact⟨h1,h2,by omega,hu.2,zbk (by rw[hu.2];decide)⟩
theorem zqu {g:Img} {t:Int} {y:Ty} (ht:zam t g.ts.length=true) (hy:y∈zbP g t) (hu:zaw g y=true) (hw:zcP y=false):y.2.1∈za6 g t:=by
 obtain⟨i,hi,h1,h2,h3⟩:=zpD hy;obtain⟨v1,v2,v3,v4,v5⟩:=zd1 hu hw;have hf:za7 g (i:Int)=y:=by unfold za7;rw[Int.toNat_natCast,List.getElem?_eq_getElem hi];exact h1
 have hs:zc0 g (i:Int)=false:=by unfold zc0;rw[Int.toNat_natCast,List.getElem?_eq_getElem hi];exact h3
 unfold za6;rw[List.mem_map];refine⟨(i:Int), ?_,by rw[hf]⟩
 rw[List.mem_filter];refine⟨?_, ?_⟩
 ·unfold zbg;rw[if_pos ht];have:=zka (λx:FD=>decide (x.ow=t)) g.fs 0 i hi (by simpa using h2)
  simpa using this
 ·unfold zbA;rw[hf,hs,v1,v3,v4];rfl
def AllU (g:Img):Prop:=∀ x∈g.fs,zaw g x.t=true
def ValA (g:Img):Prop:=∀ t,zam t g.ts.length=true->zag g t=1->t∉zau g.ts.length (za6 g) (za6 g t)
theorem AllU.hld {g:Img} (h:AllU g) {t:Int} {y:Ty} (hy:y∈zbP g t):zaw g y=true:=by
 obtain⟨i,hi,h1,_⟩:=zpD hy;rw[<- h1];exact h _ (List.getElem_mem hi)
theorem ValA.of {g:Img} (h:zaY g=true):ValA g:=by
 intro t ht hk hm;have:=((zla h).2 t ht).2.2.2.2;unfold zes at this;rw[hk,if_neg (by decide),if_neg (by decide),if_pos rfl]at this
 rw[List.contains_iff_mem.2 hm]at this
 cases this
theorem zo9 {g:Img} (U:AllU g) (V:ValA g):∀ (k:Nat) (P:List Int) (t:Ty),zaw g t=true->zcP t=false->P.Nodup->(∀ p∈P,zam p g.ts.length=true/\Rch g.ts.length (za6 g) (za6 g p) t.2.1)->dpB g k t=false->P.length+k+1<=g.ts.length
 | k,P,t,hu,hw,hd,hp,hf=>by
  obtain⟨v1,v2,v3,v4,v5⟩:=zd1 hu hw;have hn:t.2.1∉P:=λhm=>V _ v5 v4 (zcL.2 (hp _ hm).2)
  have hd2:(t.2.1 :: P).Nodup:=List.nodup_cons.2 ⟨hn,hd⟩;have hnum:∀ x∈t.2.1 :: P,zam x g.ts.length=true:=by
   intro x hx
   rcases List.mem_cons.1 hx with rfl | hx
   ·exact v5
   ·exact (hp x hx).1
  cases k with
  | zero =>
   have:=zeX g.ts.length _ hd2 (λx hx=>zai.1 (hnum x hx))
   simpa using this
  | succ k =>
   have hf2:(zbP g t.2.1).all (dpB g k)=false:=by
    unfold dpB at hf;rw[hw]at hf;simpa using hf
   rw[List.all_eq_false]at hf2;obtain⟨y,hy,hyd⟩:=hf2;have hyd2:dpB g k y=false:=by simpa using hyd
   have hyw:zcP y=false:=by
    cases h:zcP y with
    | false=>rfl
    | true=>rw[zmv h]at hyd2;cases hyd2
   have hyu:=U.hld hy;have hyp:=zqu v5 hy hyu hyw;have hyn:=(zd1 hyu hyw).2.2.2.2;have hstep:Rch g.ts.length (za6 g) (za6 g t.2.1) y.2.1:=λS hS _=>hS _ hyp hyn
   have:=zo9 U V k (t.2.1 :: P) y hyu hyw hd2 (λp hp2=>⟨hnum p hp2,by
    rcases List.mem_cons.1 hp2 with rfl | hp3
    ·exact hstep
    ·exact (hp p hp3).2.trans hstep⟩) hyd2
   rw[List.length_cons]at this;omega
theorem zoF {g:Img} (U:AllU g) (V:ValA g) {t:Ty} (hu:zaw g t=true):dpB g g.ts.length t=true:=by
 cases hw:zcP t with
 | true=>exact zmv hw
 | false =>
  cases hd:dpB g g.ts.length t with
  | true=>rfl
  | false =>
   have:=zo9 U V g.ts.length [] t hu hw (by simp) (λp hp=>absurd hp (by simp)) hd
   simp at this;omega
theorem znX {g:Img} {t:Ty} (hw:zcP t=true):zbl g t=zft t:=by
 unfold zbl
 cases g.ts.length with
 | zero=>rfl
 | succ k=>show (if zcP t=true then zft t else _)=_;rw[if_pos hw]
theorem zcC {α β:Type} {f h:α->List β}:∀ {l:List α},(∀ x∈l,f x=h x)->l.flatMap f=l.flatMap h
 | [],_=>rfl
 | a :: r,hl=>by rw[List.flatMap_cons,List.flatMap_cons,hl a (by simp),zcC (λx hx=>hl x (List.mem_cons_of_mem _ hx))]
theorem zoR {g:Img} (U:AllU g) (V:ValA g) {t:Ty} (hu:zaw g t=true) (hw:zcP t=false):zbl g t=orI (zde g t.2.1):=by
 have hd:=zoF U V hu;have hn:=(zd1 hu hw).2.2.2.2;have hpos:0<g.ts.length:=by rw[zai]at hn;omega
 obtain⟨m,hm⟩:∃ m,g.ts.length=m+1:=⟨g.ts.length - 1,by omega⟩
 unfold zde;unfold zbl;rw[hm]at hd ⊢;have h1:(zbP g t.2.1).all (dpB g m)=true:=by
  unfold dpB at hd;rw[hw]at hd;simpa using hd
 rw[List.all_eq_true]at h1;show (if zcP t=true then zft t else orI ((zbP g t.2.1).flatMap (zcQ g m)))=_
 rw[hw,if_neg (by decide)]
 congr 1
 exact zcC (λx hx=>((zj8 (h1 x hx)).2).symm)
def Cut (l c:List Ty):Prop:=l=c∨(32<l.length/\32<c.length)
theorem Cut.le {l c:List Ty} (h:Cut l c) (hc:c.length<=32):l=c:=by
 rcases h with h | ⟨_,h⟩
 ·exact h
 ·omega
theorem Cut.lt8 {l c:List Ty} (h:Cut l c):(8<l.length)↔(8<c.length):=by
 rcases h with rfl | ⟨h1,h2⟩
 ·exact Iff.rfl
 ·omega
theorem Cut.lt32 {l c:List Ty} (h:Cut l c):(32<l.length)↔(32<c.length):=by
 rcases h with rfl | ⟨h1,h2⟩
 ·exact Iff.rfl
 ·omega
theorem Cut.app {l c a b:List Ty} (h:Cut l c) (k:Cut a b):Cut (l ++ a) (c ++ b):=by
 unfold Cut at *;simp only[List.length_append]
 rcases h with rfl | ⟨h1,h2⟩
 ·rcases k with rfl | ⟨k1,k2⟩
  ·exact Or.inl rfl
  ·exact Or.inr ⟨by omega,by omega⟩
 ·exact Or.inr ⟨by omega,by omega⟩
theorem Cut.stop {l c:List Ty} (h:Cut l c) (hl:32<l.length) (b:List Ty):Cut l (c ++ b):=by
 unfold Cut at *;simp only[List.length_append]
 rcases h with rfl | ⟨h1,h2⟩
 ·exact Or.inr ⟨by omega,by omega⟩
 ·exact Or.inr ⟨by omega,by omega⟩
structure Fin_ (g:Img):Prop where
 wel:zaY g=true
 used:AllU g
 val:∀ t,zag g t=1->(zbl g (6,t,0,false)).length<=8
 cls:∀ t,zag g t=0->(znm g t).length<=32
theorem zbU {α:Type} {p:α->Bool} {l:List α}:l.findIdx? p=none↔∀ x∈l,p x=false:=List.findIdx?_eq_none_iff
theorem zf9 {α:Type} {p:α->Bool} {l:List α} {q:Nat} (hq:q<l.length) (h:∀ x∈l.take q,p x=false) (hp:p l[q]=true):l.findIdx? p=some q:=by
 rw[List.findIdx?_eq_some_iff_getElem];refine⟨hq,hp,λj hj=>?_⟩
 have:=h l[j] (by rw[List.mem_take_iff_getElem];exact⟨j,by omega,rfl⟩)
 rw[this];decide
theorem Fin_.of {g:Img} (h:zbc g=true):Fin_ g:=by
 unfold zbc zb8 at h;rw[decide_eq_true_iff]at h
 cases hw:zaY g with
 | false=>rw[hw,if_pos rfl]at h;simp at h
 | true =>
  rw[hw,if_neg (by decide)]at h
  cases h1:g.fs.findIdx? (λx=>!zaw g x.t) with
  | some i=>rw[h1]at h;simp at h
  | none =>
   rw[h1]at h
   cases h2:(List.range g.ts.length).findIdx? (λt:Nat=>zbZ g (t:Int)) with
   | some i=>rw[h2]at h;simp at h
   | none =>
    rw[zbU]at h1 h2;have hT:∀ t:Int,zag g t≠-1->zbZ g t=false:=λt ht=>by
     have hn:=zai.1 (zbk ht);have:=h2 t.toNat (by rw[List.mem_range];omega)
     rwa [show ((t.toNat:Nat):Int)=t by omega]at this
    refine⟨hw,λx hx=>by simpa using h1 x hx,λt ht=>?_,λt ht=>?_⟩
    ·have:=hT t (by rw[ht];decide)
     unfold zbZ at this;rw[ht,if_pos rfl,decide_eq_false_iff_not]at this;omega
    ·have:=hT t (by rw[ht];decide)
     unfold zbZ at this;rw[ht,if_neg (by decide),if_pos rfl,decide_eq_false_iff_not]at this
     omega
end Go.Proofs.YtkedhjdipnhgdaaGreat

namespace Go.Proofs.YtkedhjdipnhgdaaGreat
set_option maxHeartbeats 16000000
set_option linter.all false
open RowKit
attribute [local go_sem ↓] wp_at_zero wp_at_succ
def zeq (M:List Int) (q:Nat):List Int:=((List.range q).map (λi:Nat=>(i:Int))).filter M.contains
theorem zpx (M:List Int) (q:Nat):zeq M (q+1)=zeq M q ++ (if M.contains (q:Int)=true then [(q:Int)] else []):=by
 unfold zeq;rw[List.range_succ,List.map_append,List.filter_append]
 congr 1
 cases h:M.contains (q:Int) <;> simp only[List.map_cons,List.map_nil,List.filter_cons,h] <;> rfl
theorem zqM (M:List Int) (q:Nat):(zeq M q).length<=q:=by
 unfold zeq;refine Nat.le_trans (List.length_filter_le _ _) ?_;simp
theorem zg6 {n:Nat} {M:List Int} (h:Nd n 0 M) (x:Int):(zeq M n).contains x=M.contains x:=by
 rw[Bool.eq_iff_iff,List.contains_iff_mem,List.contains_iff_mem];unfold zeq;rw[List.mem_filter,List.contains_iff_mem,List.mem_map];constructor
 ·rintro⟨_,h⟩;exact h
 ·intro hx;have:=zai.1 (h.1 x hx);exact⟨⟨x.toNat,List.mem_range.2 (by omega),by omega⟩,hx⟩
structure AtQ (M:List Int) (q:Nat) (j:Nat) (n:Nat):Prop where
 lt:q<M.length
 eq:M[q]=(j:Int)
theorem AtQ.comeL_len {M:List Int} {q j n:Nat} (h:AtQ M q j n) (ts:List Int):q<(zaq n M ts).length:=Nat.lt_of_lt_of_le h.lt (zbt n ts M).length_le
theorem AtQ.comeL_at {M:List Int} {q j n:Nat} (h:AtQ M q j n) (ts:List Int) (hq:q<(zaq n M ts).length):(zaq n M ts)[q]=(j:Int):=by
 rw[<- h.eq];exact ((zbt n ts M).getElem h.lt).symm
set_option maxRecDepth 100000 in
theorem zeb {g:Img} {t:Int} {w:World} (hg:Im w g) (hi:imB g=true) :
 Calls Tryz.prog 53 #[imV g,.int .i64 t] w λe w'=>∃ v,e=.returned v/\OwnI w' w.heap.size v (zeq (zbj g t) g.ts.length)/\Below w.heap.size w w':=by
 obtain⟨w0,hw0⟩:∃ W,W=w.alloc (.cells (imC g) 26):=⟨_,rfl⟩;have HW0:Hid (w0=_):=hw0;obtain⟨hb0,hgb⟩:=GB.made hg hw0;have HB0:Hid (Below w.heap.size w w0):=hb0;have HG:Hid (GB w0 w.heap.size g):=hgb;have HI:Hid (imB g=true):=hi;have hln:=(zax hi).1;have HUp:Hid (Calls Tryz.prog 73 #[.agg (imC g),.int .i64 t] w0 λe w'=>∃ v,e=.returned v/\OwnI w' w0.heap.size v (upL g t)/\Below w0.heap.size w0 w'):=zdn hgb.im hi
 obtain⟨c0,c1,c2,c3⟩:=hgb.cells;unfold imC at HW0 HUp;clear hw0 hb0 hgb hg hi;unfold imV;go_enter Tryz.func53,Tryz.ntmps53;go_wp2_with (rw[<- HW0.out])
 refine Calls.mono HUp.out ?_;rintro e w1 ⟨uv,rfl,hu,hb1⟩;have HU:Hid (OwnI w1 w0.heap.size uv (upL g t)):=hu;have HB1:Hid (Below w0.heap.size w0 w1):=hb1;have HUN:Hid (Nd g.ts.length 0 (upL g t)):=zcw g t;obtain⟨up,hup⟩:∃ X,X=upL g t:=⟨_,rfl⟩;have HUE:Hid (zbj g t=zau g.ts.length (fsI g) (up.flatMap (fsI g))):=by show _=_;rw[hup];rfl
 rw[<- hup]at HU HUN;obtain⟨ua,uc,huv,_,_⟩:=(show Is w1 uv up from HU.out.is).shape
 subst huv;have HTh:Hid (∀ W (t:Int),Below w1.heap.size w1 W->Calls Tryz.prog 49 #[.agg (imC g),.int .i64 t] W λe w'=>e=.returned (.bool (zam t g.ts.length))/\Below W.heap.size W w'):=λW t hW=>za0 t (HG.out.im.later (zaa HB1.out hW))
 have HC4:Hid (∀ W,Below w1.heap.size w1 W->W.cell? ⟨w.heap.size,0,none⟩=some (.slice g.ta g.ts.length g.tc)/\W.cell? ⟨w.heap.size,1,none⟩=some (.slice g.fa g.fs.length g.fc)/\W.cell? ⟨w.heap.size,2,none⟩=some (.slice g.ma g.ms.length g.mc)/\W.cell? ⟨w.heap.size,3,none⟩=some (.int .i64 g.en)):=λW hW=>(HG.out.later (zaa HB1.out hW)).cells
 have htl:=HG.out.im.ts.len;have HTY:Hid (∀ j (hj:j<g.ts.length),∃ tb off,g.ta=some ⟨tb,off,none⟩/\g.ts.length<=g.tc/\g.tc<=maxLen/\∀ W,Below w1.heap.size w1 W->W.cell? ⟨tb,off+j * 4+3,none⟩=some (.slice g.ts[j].fa g.ts[j].fs.length g.ts[j].fc)/\Is W (.slice g.ts[j].fa g.ts[j].fs.length g.ts[j].fc) g.ts[j].fs):=λj hj=>by
  obtain⟨tb,off,hta,h8,h9,hty⟩:=HG.out.ty (by intro e;rw[e]at hj;simp at hj)
  exact⟨tb,off,hta,h8,h9,λW hW=>⟨((hty W (zaa HB1.out hW)).2 j hj).2.2.2,Sl.later (HG.out.im.tok _ (List.getElem_mem hj)).toIs (zaa HB1.out hW)⟩⟩
 unfold imC at HTh;unfold maxLen at htl;clear hu hb1 c0 c1 c2 c3 HUp hup;go_wp2_with fail
 go_loopw [5,7,8,9] (λlv z _ _ wr=>∃ q:Nat,q<=up.length/\z=.int .i64 q/\Hid (OwnI wr w1.heap.size lv (zaq g.ts.length [] ((up.take q).flatMap (fsI g)))/\Nd g.ts.length 0 (zaq g.ts.length [] ((up.take q).flatMap (fsI g))))/\Hid (Below w1.heap.size w1 wr)) (λ_ z _ _ _=>up.length - (intOf z).toNat)
 case atStart=>exact⟨0,Nat.zero_le _,rfl,⟨OwnI.nil _ _,Nd.nil _⟩,Below.refl _ _⟩
 case round =>
  obtain⟨q,hq,rfl,HO,HB⟩:=hrel;have hupl:=HUN.out.len;by_cases hql:q<up.length
  ·obtain⟨M0,hM0⟩:∃ X,X=zaq g.ts.length [] ((up.take q).flatMap (fsI g)):=⟨_,rfl⟩;rw[<- hM0]at HO;obtain⟨ub,uoff,hua,hub,_,u6_,u7_,hcu⟩:=(show Is w1 (.slice ua up.length uc) up from HU.out.is).at hql
   subst hua;obtain⟨j,hjj,hjl⟩:=zaK (HUN.out.1 _ (List.getElem_mem hql));have HNX:Hid (zaq g.ts.length [] ((up.take (q+1)).flatMap (fsI g))=zaq g.ts.length M0 g.ts[j].fs):=by show _=_;rw[zds hql,hjj,zef hjl,zee,<- hM0]
   have hcq:=hcu q hql;rw[hjj]at hcq;obtain⟨tb,off,hta,h8,h9,hty⟩:=HTY.out j hjl;have HCell:Hid (∀ W,Below w1.heap.size w1 W->W.cell? ⟨w.heap.size,0,none⟩=some (.slice (some ⟨tb,off,none⟩) g.ts.length g.tc)/\W.cell? ⟨ub,uoff+q,none⟩=some (.int .i64 j)/\W.cell? ⟨tb,off+j * 4+3,none⟩=some (.slice g.ts[j].fa g.ts[j].fs.length g.ts[j].fc)/\W.cell? ⟨w.heap.size,1,none⟩=some (.slice g.fa g.fs.length g.fc)/\W.cell? ⟨w.heap.size,2,none⟩=some (.slice g.ma g.ms.length g.mc)/\W.cell? ⟨w.heap.size,3,none⟩=some (.int .i64 g.en)):=λW hW=>⟨by have:=(HC4.out W hW).1;rw[hta]at this;exact this,by rw[<- hcq];exact hW.cell (p:=⟨ub,uoff+q,none⟩) hub,(hty W hW).1,(HC4.out W hW).2⟩
   have HTh2:Hid (∀ W (t:Int),Below w1.heap.size w1 W->Calls Tryz.prog 49 #[.agg #[.slice (some ⟨tb,off,none⟩) g.ts.length g.tc,.slice g.fa g.fs.length g.fc,.slice g.ma g.ms.length g.mc,.int .i64 g.en],.int .i64 t] W λe w'=>e=.returned (.bool (zam t g.ts.length))/\Below W.heap.size W w'):=by show ∀ W (t:Int),_->_;rw[<- hta];exact HTh.out
   have HFI:Hid (∀ W,Below w1.heap.size w1 W->Is W (.slice g.ts[j].fa g.ts[j].fs.length g.ts[j].fc) g.ts[j].fs):=λW hW=>(hty W hW).2
   have hf4:=(zbD HI.out hjl).2.1;have hqi:(q:Int)<(up.length:Int):=by omega
   have hji:(j:Int)<(g.ts.length:Int):=by omega
   unfold maxLen at h9 u7_;clear hcu hcq hty hjj hM0 hta;generalize g.ts[j]=x at *;go_wp2_with fail
   go_loopw [5,8,9] (λlv z _ wr=>∃ k:Nat,k<=x.fs.length/\z=.int .i64 k/\Hid (OwnI wr w1.heap.size lv (zaq g.ts.length M0 (x.fs.take k))/\Nd g.ts.length 0 (zaq g.ts.length M0 (x.fs.take k)))/\Hid (Below w1.heap.size w1 wr)) (λ_ z _ _=>x.fs.length - (intOf z).toNat)
   case atStart=>exact⟨0,Nat.zero_le _,rfl,HO.out,HB.out⟩
   case round =>
    clear HO HB;obtain⟨k,hk,rfl,HO,HB⟩:=hrel;have hMl:=HO.out.2.len;have hlen:=HO.out.1.lenV;obtain⟨d0,d1,d2,d4,d5,d6⟩:=HCell.out wr HB.out;by_cases hkl:k<x.fs.length
    ·have hki:(k:Int)<(x.fs.length:Int):=by omega
     obtain⟨fb,foff,hfa,hfb,_,h6,h7,hc⟩:=(HFI.out wr HB.out).at hkl;have d3:=hc k hkl;have HST:Hid (zaq g.ts.length M0 (x.fs.take (k+1))=zbJ g.ts.length (zaq g.ts.length M0 (x.fs.take k)) x.fs[k]):=zcB hkl;obtain⟨M,hM⟩:∃ X,X=zaq g.ts.length M0 (x.fs.take k):=⟨_,rfl⟩;rw[<- hM]at HO HST hMl hlen;rw[hfa]at d2;unfold maxLen at h7;clear hc hM hfa;generalize x.fs[k]=f at *;go_wp2_with fail
     go_quiet (fail)
     go_wp2_with fail
     go_quiet (fail)
     go_wp2_with fail
     refine Calls.mono (HTh2.out _ f (Below.drewN HB.out _)) ?_;rintro e w2 ⟨rfl,hb2⟩;have HB2:Hid (Below w1.heap.size w1 w2):=zaa (Below.drewN HB.out _) hb2;have HO2:Hid (OwnI w2 w1.heap.size u5 M):=OwnI.later (OwnI.later HO.out.1 (Below.drewN (Below.refl _ _) _)) hb2;clear hb2 d0 d1 d2 d3 d4 d5 d6
     cases hn:zam f g.ts.length with
     | false =>
      have HS2:Hid (zaq g.ts.length M0 (x.fs.take (k+1))=M):=by show _=_;rw[HST.out,zcr hn]
      clear hn;go_wp2_with fail
      go_roundw
      case rel=>exact⟨k+1,by omega,by go_num,by rw[HS2.out];exact⟨HO2.out,HO.out.2⟩,HB2.out⟩
      case measure=>simp[intOf];omega
     | true =>
      go_wp2_with fail
      refine (zaM HO2.out.is f).mono ?_;rintro e wz ⟨rfl,hz⟩;subst wz
      cases hh:M.contains f with
      | true =>
       have HS2:Hid (zaq g.ts.length M0 (x.fs.take (k+1))=M):=by show _=_;rw[HST.out,zb2 hh]
       clear hn hh;go_wp2_with fail
       go_roundw
       case rel=>exact⟨k+1,by omega,by go_num,by rw[HS2.out];exact⟨HO2.out,HO.out.2⟩,HB2.out⟩
       case measure=>simp[intOf];omega
      | false =>
       have HS2:Hid (zaq g.ts.length M0 (x.fs.take (k+1))=M ++ [f]):=by show _=_;rw[HST.out,zaR hn hh]
       have HN2:Hid (Nd g.ts.length 0 (M ++ [f])):=by have:=HO.out.2.step f;rw[zaR hn hh]at this;exact this
       clear hn hh;go_wp2_with (at_builtin;go_must (refine zas (v:=u5) rfl (.tmp 59) (.tmp 61) rfl w1.heap.size rfl rfl (HO2.out.later (zac _ _ _)) (zbf w2 f _ rfl) (by omega) (Nat.le_trans HB2.out.size (zac _ _ _).size) ?_;intro v5 w5 ho5 hg5;have hB5:=(zbN HB2.out _).trans (zar (HO2.out.later (zac _ _ _)) hg5 (Nat.le_refl _) (Nat.le_trans HB2.out.size (zac _ _ _).size))))
       go_roundw
       case rel=>exact⟨k+1,by omega,by go_num,by rw[HS2.out];exact⟨ho5,HN2.out⟩,hB5⟩
       case measure=>simp[intOf];omega
    ·have hki:¬ (k:Int)<(x.fs.length:Int):=by omega
     have HE:Hid (zaq g.ts.length M0 (x.fs.take k)=zaq g.ts.length M0 x.fs):=zcG hkl;go_wp2_with fail
     go_quiet (fail)
     go_wp2_with fail
     go_roundw
     case rel=>exact⟨q+1,by omega,by go_num,by rw[HNX.out,<- HE.out];exact⟨OwnI.later HO.out.1 (Below.drewN (Below.refl _ _) _),HO.out.2⟩,Below.drewN HB.out _⟩
     case measure=>simp[intOf];omega
  ·have HE1:Hid (zaq g.ts.length [] ((up.take q).flatMap (fsI g))=zaq g.ts.length [] (up.flatMap (fsI g))):=by show _=_;rw[List.take_of_length_le (by omega)]
   rw[HE1.out]at HO;clear HE1;go_wp2_with fail
   go_loopw [5,10,11,12] (λlv z _ _ wr=>∃ (q:Nat) (M:List Int),q<=M.length/\z=.int .i64 q/\Hid (OwnI wr w1.heap.size lv M/\Nd g.ts.length 0 M)/\Hid (goL g.ts.length (fsI g) (g.ts.length+1 - q) q M=zbj g t)/\Hid (Below w1.heap.size w1 wr)) (λ_ z _ _ _=>g.ts.length+1 - (intOf z).toNat)
   case atStart=>exact⟨0,_,Nat.zero_le _,rfl,HO.out,by rw[HUE.out];rfl,HB.out⟩
   case round =>
    clear HO HB;obtain⟨q,M0,hq,rfl,HO,HGo,HB⟩:=hrel;have hMl0:=HO.out.2.len;by_cases hql:q<M0.length
    ·obtain⟨gl0,capl0,hlv0,p1_,p2_,p3_,p4_,p5_⟩:=HO.out.1.parts (by intro e;rw[e]at hql;simp at hql)
     unfold maxLen at p2_;obtain⟨j,hjj,hjl⟩:=zaK (HO.out.2.1 _ (List.getElem_mem hql));have HPre:Hid (AtQ M0 q j g.ts.length):=⟨hql,hjj⟩;have HNX:Hid (goL g.ts.length (fsI g) (g.ts.length+1 - (q+1)) (q+1) (zaq g.ts.length M0 g.ts[j].fs)=zbj g t):=by
      show _=_;rw[<- HGo.out,show g.ts.length+1 - q=(g.ts.length+1 - (q+1))+1 by omega,zdt hql,hjj,zef hjl]
     obtain⟨tb,off,hta,h8,h9,hty⟩:=HTY.out j hjl;have HCell:Hid (∀ W,Below w1.heap.size w1 W->W.cell? ⟨w.heap.size,0,none⟩=some (.slice (some ⟨tb,off,none⟩) g.ts.length g.tc)/\W.cell? ⟨tb,off+j * 4+3,none⟩=some (.slice g.ts[j].fa g.ts[j].fs.length g.ts[j].fc)/\W.cell? ⟨w.heap.size,1,none⟩=some (.slice g.fa g.fs.length g.fc)/\W.cell? ⟨w.heap.size,2,none⟩=some (.slice g.ma g.ms.length g.mc)/\W.cell? ⟨w.heap.size,3,none⟩=some (.int .i64 g.en)):=λW hW=>⟨by have:=(HC4.out W hW).1;rw[hta]at this;exact this,(hty W hW).1,(HC4.out W hW).2⟩
     have HTh2:Hid (∀ W (t:Int),Below w1.heap.size w1 W->Calls Tryz.prog 49 #[.agg #[.slice (some ⟨tb,off,none⟩) g.ts.length g.tc,.slice g.fa g.fs.length g.fc,.slice g.ma g.ms.length g.mc,.int .i64 g.en],.int .i64 t] W λe w'=>e=.returned (.bool (zam t g.ts.length))/\Below W.heap.size W w'):=by show ∀ W (t:Int),_->_;rw[<- hta];exact HTh.out
     have HFI:Hid (∀ W,Below w1.heap.size w1 W->Is W (.slice g.ts[j].fa g.ts[j].fs.length g.ts[j].fc) g.ts[j].fs):=λW hW=>(hty W hW).2
     have hf4:=(zbD HI.out hjl).2.1;have hji:(j:Int)<(g.ts.length:Int):=by omega
     unfold maxLen at h9;subst hlv0;clear p5_ hty hjj hta;generalize g.ts[j]=x at *;go_wp2_with fail
     go_loopw [5,11,12] (λlv z _ wr=>∃ k:Nat,k<=x.fs.length/\z=.int .i64 k/\Hid (OwnI wr w1.heap.size lv (zaq g.ts.length M0 (x.fs.take k))/\Nd g.ts.length 0 (zaq g.ts.length M0 (x.fs.take k)))/\Hid (Below w1.heap.size w1 wr)) (λ_ z _ _=>x.fs.length - (intOf z).toNat)
     case atStart=>exact⟨0,Nat.zero_le _,rfl,HO.out,HB.out⟩
     case round =>
      clear HO HB;obtain⟨k,hk,rfl,HO,HB⟩:=hrel;have hMl:=HO.out.2.len;have hlen:=HO.out.1.lenV;obtain⟨d0,d2,d4,d5,d6⟩:=HCell.out wr HB.out;have hpl:=HPre.out.comeL_len (x.fs.take k);obtain⟨gl,capl,hlv,p1,p2,p3,p4,p5⟩:=HO.out.1.parts (by intro e;rw[e]at hpl;simp at hpl)
      have d1:wr.cell? ⟨gl,q,none⟩=some (.int .i64 j):=by rw[p5 q hpl,HPre.out.comeL_at (x.fs.take k) hpl]
      unfold maxLen at p2;have hqi:(q:Int)<((zaq g.ts.length M0 (x.fs.take k)).length:Int):=by omega
      subst hlv;clear p5;by_cases hkl:k<x.fs.length
      ·have hki:(k:Int)<(x.fs.length:Int):=by omega
       obtain⟨fb,foff,hfa,hfb,_,h6,h7,hc⟩:=(HFI.out wr HB.out).at hkl;have d3:=hc k hkl;have HST:Hid (zaq g.ts.length M0 (x.fs.take (k+1))=zbJ g.ts.length (zaq g.ts.length M0 (x.fs.take k)) x.fs[k]):=zcB hkl;obtain⟨M,hM⟩:∃ X,X=zaq g.ts.length M0 (x.fs.take k):=⟨_,rfl⟩;rw[<- hM]at HO HST hMl hlen hpl hqi p1;rw[<- hM];rw[hfa]at d2;unfold maxLen at h7;clear hc hM hfa;generalize x.fs[k]=f at *;go_wp2_with fail
       go_quiet (fail)
       go_wp2_with fail
       go_quiet (fail)
       go_wp2_with fail
       refine Calls.mono (HTh2.out _ f (Below.drewN HB.out _)) ?_;rintro e w2 ⟨rfl,hb2⟩;have HB2:Hid (Below w1.heap.size w1 w2):=zaa (Below.drewN HB.out _) hb2;have HO2:Hid (OwnI w2 w1.heap.size (.slice (some ⟨gl,0,none⟩) M.length capl) M):=OwnI.later (OwnI.later HO.out.1 (Below.drewN (Below.refl _ _) _)) hb2;clear hb2 d0 d1 d2 d3 d4 d5 d6
       cases hn:zam f g.ts.length with
       | false =>
        have HS2:Hid (zaq g.ts.length M0 (x.fs.take (k+1))=M):=by show _=_;rw[HST.out,zcr hn]
        clear hn;go_wp2_with fail
        go_roundw
        case rel=>exact⟨k+1,by omega,by go_num,by rw[HS2.out];exact⟨HO2.out,HO.out.2⟩,HB2.out⟩
        case measure=>simp[intOf];omega
       | true =>
        go_wp2_with fail
        refine (zaM HO2.out.is f).mono ?_;rintro e wz ⟨rfl,hz⟩;subst wz
        cases hh:M.contains f with
        | true =>
         have HS2:Hid (zaq g.ts.length M0 (x.fs.take (k+1))=M):=by show _=_;rw[HST.out,zb2 hh]
         clear hn hh;go_wp2_with fail
         go_roundw
         case rel=>exact⟨k+1,by omega,by go_num,by rw[HS2.out];exact⟨HO2.out,HO.out.2⟩,HB2.out⟩
         case measure=>simp[intOf];omega
        | false =>
         have HS2:Hid (zaq g.ts.length M0 (x.fs.take (k+1))=M ++ [f]):=by show _=_;rw[HST.out,zaR hn hh]
         have HN2:Hid (Nd g.ts.length 0 (M ++ [f])):=by have:=HO.out.2.step f;rw[zaR hn hh]at this;exact this
         clear hn hh;go_wp2_with (at_builtin;go_must (refine zas (v:=(.slice (some ⟨gl,0,none⟩) M.length capl)) rfl (.tmp 104) (.tmp 106) rfl w1.heap.size rfl rfl (HO2.out.later (zac _ _ _)) (zbf w2 f _ rfl) (by omega) (Nat.le_trans HB2.out.size (zac _ _ _).size) ?_;intro v5 w5 ho5 hg5;have hB5:=(zbN HB2.out _).trans (zar (HO2.out.later (zac _ _ _)) hg5 (Nat.le_refl _) (Nat.le_trans HB2.out.size (zac _ _ _).size))))
         go_roundw
         case rel=>exact⟨k+1,by omega,by go_num,by rw[HS2.out];exact⟨ho5,HN2.out⟩,hB5⟩
         case measure=>simp[intOf];omega
      ·have hki:¬ (k:Int)<(x.fs.length:Int):=by omega
       have HE:Hid (zaq g.ts.length M0 (x.fs.take k)=zaq g.ts.length M0 x.fs):=zcG hkl;go_wp2_with fail
       go_quiet (fail)
       go_wp2_with fail
       go_roundw
       case rel=>exact⟨q+1,_,by omega,by go_num,⟨OwnI.later HO.out.1 (Below.drewN (Below.refl _ _) _),HO.out.2⟩,by rw[HE.out];exact HNX.out,Below.drewN HB.out _⟩
       case measure=>simp[intOf];omega
    ·have HE:Hid (M0=zbj g t):=by show _=_;rw[<- HGo.out,zd0 hql]
     obtain⟨la5,lc5,hlv5,_,_⟩:=(show Is wr u5 M0 from HO.out.1.is).shape
     subst hlv5;have hqn:¬ (q:Int)<(M0.length:Int):=by omega
     obtain⟨wo,hwo⟩:∃ W,W=wr:=⟨_,rfl⟩;have HOo:Hid (OwnI wo w1.heap.size (.slice la5 M0.length lc5) M0):=by show OwnI _ _ _ _;rw[hwo];exact HO.out.1
     have HBo:Hid (Below w1.heap.size w1 wo):=by show Below _ _ _;rw[hwo];exact HB.out
     rw[<- hwo];clear HO HB hwo;obtain⟨e0,e1,e2,e3⟩:=HC4.out wo HBo.out;go_wp2_with fail
     clear e0 e1 e2 e3;go_loopw [13,14] (λov z wr=>∃ q:Nat,q<=g.ts.length/\z=.int .i64 q/\Hid (OwnI wr wo.heap.size ov (zeq M0 q))/\Hid (Below wo.heap.size wo wr)) (λ_ z _=>g.ts.length - (intOf z).toNat)
     case atStart=>exact⟨0,Nat.zero_le _,rfl,OwnI.nil _ _,Below.refl _ _⟩
     case round =>
      obtain⟨q,hq2,rfl,HOv,HBv⟩:=hrel;have HB1v:Hid (Below w1.heap.size w1 wr):=zaa HBo.out HBv.out;obtain⟨e0,e1,e2,e3⟩:=HC4.out wr HB1v.out;have hol:=zqM M0 q;by_cases hq3:q<g.ts.length
      ·have hqi:(q:Int)<(g.ts.length:Int):=by omega
       go_wp2_with fail
       refine (zaM (OwnI.later HOo.out HBv.out).is q).mono ?_;rintro e wz ⟨rfl,hz⟩;subst wz;have HS:=zpx M0 q
       cases hh:M0.contains (q:Int) with
       | true =>
        have HS2:Hid (zeq M0 (q+1)=zeq M0 q ++ [(q:Int)]):=by show _=_;rw[HS,if_pos hh]
        clear HS hh e0 e1 e2 e3;go_wp2_with (at_builtin;go_must (refine zas (v:=u13) rfl (.tmp 118) (.tmp 120) rfl wo.heap.size rfl rfl (HOv.out.later (zac _ _ _)) (zbf wr q _ rfl) (by omega) (Nat.le_trans HBv.out.size (zac _ _ _).size) ?_;intro v5 w5 ho5 hg5;have hB5:=(zbN HBv.out _).trans (zar (HOv.out.later (zac _ _ _)) hg5 (Nat.le_refl _) (Nat.le_trans HBv.out.size (zac _ _ _).size))))
        go_roundw
        case rel=>exact⟨q+1,by omega,by go_num,by rw[HS2.out];exact ho5,hB5⟩
        case measure=>simp[intOf];omega
       | false =>
        have HS2:Hid (zeq M0 (q+1)=zeq M0 q):=by show _=_;rw[HS,if_neg (by rw[hh];decide),List.append_nil]
        clear HS hh e0 e1 e2 e3;go_wp2_with fail
        go_roundw
        case rel=>exact⟨q+1,by omega,by go_num,by rw[HS2.out];exact HOv.out,HBv.out⟩
        case measure=>simp[intOf];omega
      ·have hqi:¬ (q:Int)<(g.ts.length:Int):=by omega
       have hqn:q=g.ts.length:=by omega
       have HF:Hid (zeq M0 q=zeq (zbj g t) g.ts.length):=by show _=_;rw[HE.out,hqn]
       have HB01:Hid (Below w.heap.size w wr):=zaa HB0.out (zaa HB1.out HB1v.out);have hsz:w.heap.size<=wo.heap.size:=Nat.le_trans HB0.out.size (Nat.le_trans HB1.out.size HBo.out.size);clear hqn;go_wp2_with fail
       go_ret;exact⟨_,rfl,by rw[<- HF.out];exact HOv.out.mono hsz,HB01.out⟩
theorem zoX (W:World) (x y:Ty):(binOp .neq 47 (.agg #[.int .i64 x.1,.int .i64 x.2.1,.int .i64 x.2.2.1,.bool x.2.2.2]) (.agg #[.int .i64 y.1,.int .i64 y.2.1,.int .i64 y.2.2.1,.bool y.2.2.2])).run Tryz.prog W=.ok (.bool (!decide (x=y))) W:=by
 obtain⟨k,i,d,r⟩:=x;obtain⟨k',i',d',r'⟩:=y;simp[go_sem]
 cases h1:(k==k') <;> cases h2:(i==i') <;> cases h3:(d==d') <;> cases h4:(r==r') <;> simp_all[go_sem]
theorem zf1 (W:World) (x y:Ty):(binOp .eql 47 (.agg #[.int .i64 x.1,.int .i64 x.2.1,.int .i64 x.2.2.1,.bool x.2.2.2]) (.agg #[.int .i64 y.1,.int .i64 y.2.1,.int .i64 y.2.2.1,.bool y.2.2.2])).run Tryz.prog W=.ok (.bool (decide (x=y))) W:=by
 rw[zoi]
 congr 2
 obtain⟨k,i,d,r⟩:=x;obtain⟨k',i',d',r'⟩:=y;rw[Bool.eq_iff_iff];simp[and_assoc]
theorem zmZ {w:World} {ba oa ca bb ob cb:Nat} {xs ys:List Ty} (hle:xs.length=ys.length) (hl:xs.length<=maxLen) (ha:∀ i (h:i<xs.length),El tyE w ba (oa+i * 4) xs[i]) (hb:∀ i (h:i<ys.length),El tyE w bb (ob+i * 4) ys[i]) :
 Calls Tryz.prog 55 #[.slice (some ⟨ba,oa,none⟩) xs.length ca,.slice (some ⟨bb,ob,none⟩) xs.length cb] w λe w'=>e=.returned (.bool (decide (xs=ys)))/\∃ n,w'=w.drewN n:=by
 unfold maxLen at hl;have HA:Hid (∀ i (h:i<xs.length),El tyE w ba (oa+i * 4) xs[i]):=ha;have HB:Hid (∀ i (h:i<ys.length),El tyE w bb (ob+i * 4) ys[i]):=hb;have h1:((xs.length:Int) != (xs.length:Int))=false:=by simp
 clear ha hb;go_enter Tryz.func55,Tryz.ntmps55;go_wp2_with fail
 go_loopw [5] (λz wr=>∃ q n:Nat,q<=xs.length/\z=.int .i64 (q:Int)/\wr=w.drewN n/\Hid (xs.take q=ys.take q)) (λz _=>xs.length - (intOf z).toNat)
 case atStart=>exact⟨0,0,Nat.zero_le _,rfl,rfl,by show _=_;simp⟩
 case round =>
  obtain⟨q,n,hq,rfl,rfl,HT⟩:=hrel;by_cases hql:q<xs.length
  ·have hqi:(q:Int)<(xs.length:Int):=by omega
   obtain⟨c0,c1,c2,c3⟩:=(HA.out q hql).cells_Y;obtain⟨d0,d1,d2,d3⟩:=(HB.out q (by omega)).cells_Y
   have HN:Hid (xs[q]≠ys[q]->decide (xs=ys)=false):=λh=>by rw[decide_eq_false_iff_not];intro e;subst e;exact h rfl
   have HY:Hid (xs[q]=ys[q]->xs.take (q+1)=ys.take (q+1)):=λh=>by rw[List.take_succ_eq_append_getElem hql,List.take_succ_eq_append_getElem (by omega),HT.out,h]
   have hnq:∀ W:World,(binOp .neq 47 (.agg #[.int .i64 xs[q].1,.int .i64 xs[q].2.1,.int .i64 xs[q].2.2.1,.bool xs[q].2.2.2]) (.agg #[.int .i64 ys[q].1,.int .i64 ys[q].2.1,.int .i64 ys[q].2.2.1,.bool ys[q].2.2.2])).run Tryz.prog W=.ok (.bool (!decide (xs[q]=ys[q]))) W:=λW=>zoX W _ _
   by_cases he:xs[q]=ys[q]
   ·rw[decide_eq_true he]at hnq;have HY2:Hid _:=HY.out he;clear he HY HN;generalize xs[q]=x at *;generalize ys[q]=y at *;obtain⟨x1,x2,x3,x4⟩:=x;obtain⟨y1,y2,y3,y4⟩:=y;simp only at c0 c1 c2 c3 d0 d1 d2 d3 hnq;go_wp2_with fail
    go_quiet (fail)
    go_wp2_with fail
    go_roundw
    case rel=>exact⟨q+1,n+nq,by omega,by go_num,rfl,HY2.out⟩
    case measure=>simp[intOf];omega
   ·rw[decide_eq_false he]at hnq;have HBad:Hid _:=HN.out he;clear he HY HN;generalize xs[q]=x at *;generalize ys[q]=y at *;obtain⟨x1,x2,x3,x4⟩:=x;obtain⟨y1,y2,y3,y4⟩:=y;simp only at c0 c1 c2 c3 d0 d1 d2 d3 hnq;go_wp2_with fail
    go_quiet (fail)
    go_wp2_with fail
    go_ret;exact⟨zab HBad.out.symm,n+nq,by rw[World.drewN_drewN]⟩
  ·have hqi:¬ (q:Int)<(xs.length:Int):=by omega
   have HE:Hid (decide (xs=ys)=true):=by
    show _=_;rw[decide_eq_true_iff];have:=HT.out
    rwa [List.take_of_length_le (by omega),List.take_of_length_le (by omega)]at this
   go_wp2_with fail
   go_ret;exact⟨zab HE.out.symm,n,rfl⟩
theorem zlf (va vb:Option Addr) (la lb ca cb:Nat) (w:World) (hne:la≠lb) (ha:la<=maxLen) (hb:lb<=maxLen) :
 Calls Tryz.prog 55 #[.slice va la ca,.slice vb lb cb] w λe w'=>e=.returned (.bool false)/\w'=w:=by
 have h1:((la:Int) != (lb:Int))=true:=by rw[bne_iff_ne];omega
 go_enter Tryz.func55,Tryz.ntmps55;go_wp2;go_ret;exact⟨rfl,rfl⟩
theorem zgp (va vb:Option Addr) (ca cb:Nat) (w:World) :
 Calls Tryz.prog 55 #[.slice va 0 ca,.slice vb 0 cb] w λe w'=>e=.returned (.bool true)/\w'=w:=by
 go_enter Tryz.func55,Tryz.ntmps55;go_wp2;refine wp_loop_rounds 1 ?_;rw[rounds_succ];go_wp2;go_ret;exact⟨rfl,rfl⟩
theorem zj6 {w:World} {va vb:Value} {xs ys:List Ty} (ha:Es tyE w va xs) (hb:Es tyE w vb ys) :
 Calls Tryz.prog 55 #[va,vb] w λe w'=>e=.returned (.bool (decide (xs=ys)))/\∃ n,w'=w.drewN n:=by
 by_cases hl:xs.length=ys.length
 ·by_cases hx:xs=[]
  ·subst hx;have hy:ys=[]:=List.eq_nil_of_length_eq_zero hl.symm;subst hy;obtain⟨a,ca,rfl,_,_⟩:=ha.shape;obtain⟨b,cb,rfl,_,_⟩:=hb.shape;refine (zgp a b ca cb w).mono ?_;rintro e w' ⟨rfl,rfl⟩;exact⟨zab (by simp),0,rfl⟩
  ·have hll:=ha.len;obtain⟨b1,o1,c1,rfl,_,_,_,h1⟩:=ha.parts hx;obtain⟨b2,o2,c2,rfl,_,_,_,h2⟩:=hb.parts (by intro e;subst e;exact hx (List.eq_nil_of_length_eq_zero hl))
   have:=zmZ (ca:=c1) (cb:=c2) hl hll h1 h2;rw[<- hl];exact this
 ·have h1:=ha.len;have h2:=hb.len;obtain⟨a,ca,rfl,_,_⟩:=ha.shape;obtain⟨b,cb,rfl,_,_⟩:=hb.shape;refine (zlf a b _ _ ca cb w hl h1 h2).mono ?_;rintro e w' ⟨rfl,rfl⟩;exact⟨zab (by symm;rw[decide_eq_false_iff_not];intro e;subst e;exact hl rfl),0,rfl⟩
def sgM (x y:MD):Bool:=decide (x.rt=y.rt/\x.fl % 2=y.fl % 2/\x.ps=y.ps)
theorem zsk (x y:MD):smM x y=(decide (x.nm=y.nm)&&sgM x y):=by
 unfold smM sgM;rw[Bool.eq_iff_iff];simp only[decide_eq_true_iff,Bool.and_eq_true];constructor
 ·rintro⟨a,b,c,d⟩;exact⟨a,c,d,b⟩
 ·rintro⟨a,c,d,b⟩;exact⟨a,b,c,d⟩
theorem zt6 {f:Int} (h:0<=f):f.tmod 2=f % 2:=Int.tmod_eq_emod_of_nonneg h
theorem zcU {x y:MD} {w:World} (hx:x.ok w) (hy:y.ok w) (h1:0<=x.fl) (h2:0<=y.fl) :
 Calls Tryz.prog 98 #[mdV x,mdV y] w λe w'=>e=.returned (.bool (sgM x y))/\Below w.heap.size w w':=by
 obtain⟨w0,hw0⟩:∃ W,W=(w.alloc (.cells (mdA x) 51)).alloc (.cells (mdA y) 51):=⟨_,rfl⟩;have HW0:Hid (w0=_):=hw0;obtain⟨hb0,hat⟩:=zan hw0;have HB0:Hid (Below w.heap.size w w0):=hb0;obtain⟨hA1,hA2⟩:=hat w0 (Below.refl _ _);have c1:=hA1.cell;have c2:=hA2.cell;have HST:Hid (Calls Tryz.prog 55 #[.slice x.pa x.ps.length x.pc,.slice y.pa y.ps.length y.pc] w0 λe w'=>e=.returned (.bool (decide (x.ps=y.ps)))/\∃ n,w'=w0.drewN n):=zj6 (hx.ps.later hb0) (hy.ps.later hb0)
 have hq:∀ W:World,(binOp .eql 47 (.agg #[.int .i64 x.rt.1,.int .i64 x.rt.2.1,.int .i64 x.rt.2.2.1,.bool x.rt.2.2.2]) (.agg #[.int .i64 y.rt.1,.int .i64 y.rt.2.1,.int .i64 y.rt.2.2.1,.bool y.rt.2.2.2])).run Tryz.prog W=.ok (.bool (decide (x.rt=y.rt))) W:=λW=>zf1 W _ _
 have m1:=zt6 h1;have m2:=zt6 h2;have HR:Hid (sgM x y=(decide (x.rt=y.rt)&&(x.fl % 2==y.fl % 2)&&decide (x.ps=y.ps))):=by
  show _=_;unfold sgM;rw[Bool.eq_iff_iff];simp[and_assoc]
 unfold mdA at c1 c2 HW0;clear hw0 hb0 hat hA1 hA2 hx hy;generalize decide (x.rt=y.rt)=r1 at *;generalize decide (x.ps=y.ps)=r3 at *;unfold mdV;go_enter Tryz.func98,Tryz.ntmps98
 cases r1 with
 | false =>
  go_wp2_with (rw[<- HW0.out])
  go_ret;exact⟨zab (by rw[HR.out];rfl),HB0.out⟩
 | true =>
  cases r2:(x.fl % 2==y.fl % 2) with
  | false =>
   go_wp2_with (rw[<- HW0.out])
   go_ret;exact⟨zab (by rw[HR.out,r2];rfl),HB0.out⟩
  | true =>
   go_wp2_with (rw[<- HW0.out])
   refine Calls.mono HST.out ?_;rintro e w1 ⟨rfl,n,rfl⟩;go_wp2_with fail
   go_ret;exact⟨zab (by rw[HR.out,r2];rfl),Below.drewN HB0.out _⟩
structure LiF (w:World) (a:Option Addr) (n c:Nat) (L:List Int):Prop where
 is:Is w (.slice a n c) L
 at0:∀ {i:Nat},i<L.length->∃ b,a=some ⟨b,0,none⟩
theorem LiF.of {w:World} {base:Nat} {a:Option Addr} {c:Nat} {L:List Int} (h:OwnI w base (.slice a L.length c) L):Hid (LiF w a L.length c L):=⟨h.is,λ {i} hi=>by
 obtain⟨g,cap,hv,_⟩:=h.parts (by intro e;rw[e]at hi;simp at hi)
 simp only[Value.slice.injEq]at hv;exact⟨g,hv.1⟩⟩
end Go.Proofs.YtkedhjdipnhgdaaGreat
