import Derived.Test.YtkedhjdipnhgdaaGreatR11
namespace Go.Proofs.YtkedhjdipnhgdaaGreat
set_option maxHeartbeats 16000000
set_option linter.all false
open RowKit
def zbJ (n:Nat) (l:List Int) (t:Int):List Int:=if zam t n=true/\l.contains t=false then l ++ [t] else l
def zaq (n:Nat) (l ts:List Int):List Int:=ts.foldl (zbJ n) l
def goL (n:Nat) (st:Int->List Int):Nat->Nat->List Int->List Int
 | 0,_,l=>l
 | k+1,i,l=>if h:i<l.length then goL n st k (i+1) (zaq n l (st l[i])) else l
def Rch (n:Nat) (st:Int->List Int) (from_:List Int) (x:Int):Prop:=
 ∀ S:Int->Prop,(∀ y∈from_,zam y n=true->S y)->(∀ y,S y->∀ z∈st y,zam z n=true->S z)->S x
def Nd (n m:Nat) (l:List Int):Prop:=(∀ x∈l,zam x n=true)/\(l.drop m).Nodup
theorem zai {i:Int} {n:Nat}:zam i n=true↔0<=i/\i<n:=by simp[zam]
theorem zd3 (n:Nat) (l:List Int) (t:Int) (r:List Int):zaq n l (t :: r)=zaq n (zbJ n l t) r:=rfl
theorem zee (n:Nat) (l a b:List Int):zaq n l (a ++ b)=zaq n (zaq n l a) b:=by simp[zaq,List.foldl_append]
theorem zcB {n:Nat} {l ts:List Int} {q:Nat} (hq:q<ts.length):zaq n l (ts.take (q+1))=zbJ n (zaq n l (ts.take q)) ts[q]:=by
 rw[List.take_succ_eq_append_getElem hq,zee];rfl
theorem zcG {n:Nat} {l ts:List Int} {q:Nat} (hq:¬ q<ts.length):zaq n l (ts.take q)=zaq n l ts:=by
 rw[List.take_of_length_le (by omega)]
theorem zaR {n:Nat} {l:List Int} {t:Int} (h1:zam t n=true) (h2:l.contains t=false):zbJ n l t=l ++ [t]:=by unfold zbJ;rw[if_pos ⟨h1,h2⟩]
theorem zcr {n:Nat} {l:List Int} {t:Int} (h1:zam t n=false):zbJ n l t=l:=by unfold zbJ;rw[if_neg (by rw[h1];simp)]
theorem zb2 {n:Nat} {l:List Int} {t:Int} (h2:l.contains t=true):zbJ n l t=l:=by unfold zbJ;rw[if_neg (by rw[h2];simp)]
theorem zd0 {n:Nat} {st:Int->List Int} {k i:Nat} {l:List Int} (h:¬ i<l.length):goL n st k i l=l:=by
 cases k with
 | zero=>rfl
 | succ k=>rw[goL,dif_neg h]
theorem zdt {n:Nat} {st:Int->List Int} {k i:Nat} {l:List Int} (h:i<l.length):goL n st (k+1) i l=goL n st k (i+1) (zaq n l (st l[i])):=by rw[goL,dif_pos h]
theorem zpf (n:Nat) (l:List Int) (t:Int):l <+: zbJ n l t:=by
 unfold zbJ;split
 ·exact List.prefix_append _ _
 ·exact List.prefix_rfl
theorem zbt (n:Nat):∀ (ts l:List Int),l <+: zaq n l ts
 | [],l=>List.prefix_rfl
 | t :: r,l=>(zpf n l t).trans (zbt n r _)
theorem zpy (n:Nat) (st:Int->List Int):∀ (k i:Nat) (l:List Int),l <+: goL n st k i l
 | 0,_,l=>List.prefix_rfl
 | k+1,i,l=>by
  rw[goL];split
  ·exact (zbt n _ l).trans (zpy n st k _ _)
  ·exact List.prefix_rfl
theorem zpt {n:Nat} {l:List Int} {t:Int} (h:zam t n=true):t∈zbJ n l t:=by
 cases hc:l.contains t with
 | true=>rw[zb2 hc];simpa using hc
 | false=>rw[zaR h hc];simp
theorem zfe {n:Nat}:∀ {ts l:List Int} {t:Int},t∈ts->zam t n=true->t∈zaq n l ts
 | a :: r,l,t,ht,hn=>by
  rw[zd3]
  rcases List.mem_cons.1 ht with rfl | ht
  ·exact (zbt n r _).subset (zpt hn)
  ·exact zfe ht hn
theorem zfi {n:Nat}:∀ {ts l:List Int} {x:Int},x∈zaq n l ts->x∈l∨(x∈ts/\zam x n=true)
 | [],l,x,h=>Or.inl h
 | a :: r,l,x,h=>by
  rw[zd3]at h
  rcases zfi h with h | ⟨h1,h2⟩
  ·unfold zbJ at h
   split at h
   ·rename_i hc
    rcases List.mem_append.1 h with h | h
    ·exact Or.inl h
    ·simp at h;subst h;exact Or.inr ⟨by simp,hc.1⟩
   ·exact Or.inl h
  ·exact Or.inr ⟨List.mem_cons_of_mem _ h1,h2⟩
theorem Nd.step {n m:Nat} {l:List Int} (h:Nd n m l) (t:Int):Nd n m (zbJ n l t):=by
 cases hc:l.contains t with
 | true=>rw[zb2 hc];exact h
 | false =>
  cases hn:zam t n with
  | false=>rw[zcr hn];exact h
  | true =>
   rw[zaR hn hc];refine⟨λx hx=>?_, ?_⟩
   ·rcases List.mem_append.1 hx with hx | hx
    ·exact h.1 x hx
    ·simp at hx;subst hx;exact hn
   ·rw[List.drop_append];have ht:t∉l:=by intro e;have:=List.contains_iff_mem.2 e;rw[hc]at this;cases this
    refine List.nodup_append.2 ⟨h.2, ?_, ?_⟩
    ·exact (List.drop_sublist _ _).nodup (by simp)
    ·intro a ha b hb e;subst e;have h1:=List.mem_of_mem_drop hb;simp at h1;subst h1;exact ht (List.mem_of_mem_drop ha)
theorem Nd.come {n m:Nat}:∀ {ts l:List Int},Nd n m l->Nd n m (zaq n l ts)
 | [],l,h=>h
 | t :: r,l,h=>by rw[zd3];exact Nd.come (h.step t)
theorem Nd.nil (n:Nat):Nd n 0 []:=⟨λx hx=>absurd hx (by simp),by simp⟩
theorem zeX:∀ (n:Nat) (l:List Int),l.Nodup->(∀ x∈l,0<=x/\x<(n:Int))->l.length<=n
 | 0,l,_,h=>by
  cases l with
  | nil=>simp
  | cons a r=>have:=h a (by simp);omega
 | n+1,l,hd,h=>by
  have ih:=zeX n (l.erase (n:Int)) (hd.erase _) (λx hx=>by
   have h1:=h x (List.mem_of_mem_erase hx);have h2:=(hd.mem_erase_iff.1 hx).1;omega)
  rw[List.length_erase]at ih
  split at ih <;> omega
theorem Nd.len {n m:Nat} {l:List Int} (h:Nd n m l):l.length<=m+n:=by
 have:=zeX n (l.drop m) h.2 (λx hx=>zai.1 (h.1 x (List.mem_of_mem_drop hx)))
 rw[List.length_drop]at this;omega
theorem zjk {n m:Nat} {st:Int->List Int}:∀ (k i:Nat) (l:List Int),Nd n m l->i<=l.length->m+n<k+i->(∀ x∈l.take i,∀ z∈st x,zam z n=true->z∈l) ->
 Nd n m (goL n st k i l)/\(∀ x∈goL n st k i l,∀ z∈st x,zam z n=true->z∈goL n st k i l) /\
 (∀ S:Int->Prop,(∀ y,S y->∀ z∈st y,zam z n=true->S z)->(∀ x∈l,S x)->∀ x∈goL n st k i l,S x)
 | 0,i,l,h,hi,hk,hc=>absurd h.len (by omega)
 | k+1,i,l,h,hi,hk,hc=>by
  by_cases hl:i<l.length
  ·rw[zdt hl];have hp:=zbt n (st l[i]) l;have hlen:=hp.length_le;have htk:(zaq n l (st l[i])).take (i+1)=l.take (i+1):=by
    obtain⟨r,hr⟩:=hp;rw[<- hr,List.take_append_of_le_length (by omega)]
   obtain⟨h1,h2,h3⟩:=zjk k (i+1) (zaq n l (st l[i])) h.come (by omega) (by omega) (λx hx z hz hn=>by
    rw[htk,List.take_succ_eq_append_getElem hl]at hx
    rcases List.mem_append.1 hx with hx | hx
    ·exact hp.subset (hc x hx z hz hn)
    ·simp at hx;subst hx;exact zfe hz hn)
   refine⟨h1,h2,λS hS hl'=>h3 S hS (λx hx=>?_)⟩
   rcases zfi hx with hx | ⟨hx,hn⟩
   ·exact hl' x hx
   ·exact hS _ (hl' _ (List.getElem_mem hl)) x hx hn
  ·rw[zd0 hl];rw[List.take_of_length_le (by omega)]at hc
   exact⟨h,hc,λS _ hl'=>hl'⟩
theorem zoP {n m:Nat} {st:Int->List Int} {l:List Int} {k:Nat} (h:Nd n m l) (hk:m+n<k) (x:Int):x∈goL n st k 0 l↔Rch n st l x:=by
 obtain⟨h1,h2,h3⟩:=zjk k 0 l h (Nat.zero_le _) (by omega) (λx hx=>by simp at hx)
 constructor
 ·intro hx S hS hT;exact h3 S hT (λy hy=>hS y hy (h.1 y hy)) x hx
 ·intro hx;exact hx _ (λy hy _=>(zpy n st k 0 l).subset hy) h2
theorem Rch.come {n:Nat} {st:Int->List Int} {from_:List Int} {x:Int}:Rch n st (zaq n [] from_) x↔Rch n st from_ x:=by
 constructor
 ·intro h S hS hT;refine h S (λy hy hn=>?_) hT
  rcases zfi hy with hy | ⟨hy,_⟩
  ·exact absurd hy (by simp)
  ·exact hS y hy hn
 ·intro h S hS hT;exact h S (λy hy hn=>hS y (zfe hy hn) hn) hT
def zau (n:Nat) (st:Int->List Int) (from_:List Int):List Int:=goL n st (n+1) 0 (zaq n [] from_)
theorem zcx (n:Nat) (st:Int->List Int) (from_:List Int):Nd n 0 (zau n st from_):=(zjk _ _ _ (Nd.nil n).come (Nat.zero_le _) (by omega) (λx hx=>by simp at hx)).1
theorem zcL {n:Nat} {st:Int->List Int} {from_:List Int} {x:Int}:x∈zau n st from_↔Rch n st from_ x:=by
 unfold zau;rw[zoP (Nd.nil n).come (by omega),Rch.come]
theorem zm7 (n:Nat) (st:Int->List Int) (from_:List Int):(zau n st from_).length<=n:=by simpa using (zcx n st from_).len
theorem Rch.trans {n:Nat} {st:Int->List Int} {from_:List Int} {y z:Int} (h:Rch n st from_ y) (h2:Rch n st (st y) z):Rch n st from_ z:=
 λS hS hT=>h2 S (λu hu hn=>hT y (h S hS hT) u hu hn) hT
theorem Rch.mono {n:Nat} {st:Int->List Int} {a b:List Int} {x:Int} (h:Rch n st a x) (hab:∀ y∈a,y∈b):Rch n st b x:=
 λS hS hT=>h S (λy hy=>hS y (hab y hy)) hT
def exI (g:Img) (t:Int):Int:=match g.ts[t.toNat]? with | some x=>x.ex | none=>-1
def fsI (g:Img) (t:Int):List Int:=match g.ts[t.toNat]? with | some x=>x.fs | none=>[]
def flI (g:Img) (t:Int):Int:=match g.ts[t.toNat]? with | some x=>x.fl | none=>0
theorem zbi {g:Img} {q:Nat} (h:q<g.ts.length):exI g (q:Int)=g.ts[q].ex:=by unfold exI;rw[Int.toNat_natCast,List.getElem?_eq_getElem h]
theorem zef {g:Img} {q:Nat} (h:q<g.ts.length):fsI g (q:Int)=g.ts[q].fs:=by unfold fsI;rw[Int.toNat_natCast,List.getElem?_eq_getElem h]
theorem zek {g:Img} {q:Nat} (h:q<g.ts.length):flI g (q:Int)=g.ts[q].fl:=by unfold flI;rw[Int.toNat_natCast,List.getElem?_eq_getElem h]
def upG (g:Img):Nat->List Int->Int->List Int
 | 0,l,_=>l
 | k+1,l,t=>if zam t g.ts.length=true/\l.contains t=false then upG g k (l ++ [t]) (exI g t) else l
def upL (g:Img) (t:Int):List Int:=upG g (g.ts.length+2) [] t
def upS (g:Img) (t:Int):List Int:=[exI g t]
def zbj (g:Img) (t:Int):List Int:=zau g.ts.length (fsI g) ((upL g t).flatMap (fsI g))
def zmn (g:Img) (a b:Int):Bool:=(upL g a).contains b||(zbj g a).contains b
theorem zsp (g:Img):∀ (k i:Nat) (l:List Int) (h:i+1=l.length),goL g.ts.length (upS g) k i l=upG g k l (exI g l[i])
 | 0,i,l,h=>rfl
 | k+1,i,l,h=>by
  rw[zdt (by omega)]
  show goL _ _ k (i+1) (zbJ _ l (exI g l[i]))=_;rw[upG];by_cases hc:zam (exI g l[i]) g.ts.length=true/\l.contains (exI g l[i])=false
  ·rw[if_pos hc,zaR hc.1 hc.2,zsp g k (i+1) _ (by simp;omega)]
   congr 1
   simp[h]
  ·rw[if_neg hc];have:zbJ g.ts.length l (exI g l[i])=l:=by unfold zbJ;rw[if_neg hc]
   rw[this,zd0 (by omega)]
theorem zpp (g:Img) (t:Int):zau g.ts.length (upS g) [t]=upL g t:=by
 unfold zau upL;show goL _ _ _ 0 (zbJ _ [] t)=_;rw[upG]
 cases hn:zam t g.ts.length with
 | true=>rw[zaR hn (by simp),if_pos ⟨rfl,by simp⟩,List.nil_append,zsp g _ 0 [t] rfl];rfl
 | false=>rw[zcr hn,if_neg (by simp),zd0 (by simp)]
def zaf (f:Int) (k:Nat):Bool:=f.toNat / k % 2==1
def zaN (f:Int):Int:=if zaf f 2=true then 2 else if zaf f 1=true then 1 else if zaf f 16=true then 3 else 0
def zag (g:Img) (t:Int):Int:=if zam t g.ts.length=true then zaN (flI g t) else -1
def zct (f e:Int):Bool:=
 if zaN f=2 then decide (e = -1)&&(zaf f 4&&!zaf f 1&&!zaf f 8&&!zaf f 16)
 else if zaN f=1 then decide (e = -1)&&(zaf f 8&&!zaf f 4&&!zaf f 16)
 else if zaN f=3 then decide (e = -1)&&(zaf f 8&&!zaf f 4)
 else true
def zcE {α:Type} (ap:α->α->Bool) (l:List α):Bool:=(List.range l.length).all λi=>match l[i]? with | some x=>(l.take i).all (ap x) | none=>true
theorem zdu {α:Type} {ap:α->α->Bool} {l:List α}:zcE ap l=true↔∀ i (h:i<l.length),(l.take i).all (ap l[i])=true:=by
 unfold zcE;rw[List.all_eq_true];constructor
 ·intro h i hi;have:=h i (List.mem_range.2 hi)
  rwa [List.getElem?_eq_getElem hi]at this
 ·intro h i hi;have hi':=List.mem_range.1 hi;rw[List.getElem?_eq_getElem hi'];exact h i hi'
def zb5 (g:Img) (t:Int):Bool:=(decide (exI g t = -1)||(decide (zag g (exI g t)=0)&&!zaf (flI g (exI g t)) 8))&&(match (upL g t).getLast? with | some u=>decide (exI g u = -1) | none=>true)
def zcd (g:Img) (t:Int):Bool:=(fsI g t).all (λf=>decide (zag g f=2))&&zcE (λa b=>a != b) (fsI g t)&&(decide (zag g t≠2)||!(zau g.ts.length (fsI g) (fsI g t)).contains t)
def pkN {α:Type} (p:α->Bool):Int->List α->List Int
 | _,[]=>[]
 | i,c :: r=>(if p c=true then [i] else []) ++ pkN p (i+1) r
def zbg (g:Img) (t:Int):List Int:=if zam t g.ts.length=true then pkN (λx=>decide (x.ow=t)) 0 g.fs else []
def zat (g:Img) (t:Int):List Int:=if zam t g.ts.length=true then pkN (λx=>decide (x.ow=t)) 0 g.ms else []
def fnI (g:Img) (i:Int):ByteArray:=match g.fs[i.toNat]? with | some x=>x.nm | none=>ByteArray.empty
def zc0 (g:Img) (i:Int):Bool:=match g.fs[i.toNat]? with | some x=>x.st | none=>false
def za7 (g:Img) (i:Int):Ty:=match g.fs[i.toNat]? with | some x=>x.t | none=>(0,0,0,false)
def smM (x y:MD):Bool:=decide (x.nm=y.nm/\x.ps=y.ps/\x.rt=y.rt/\x.fl % 2=y.fl % 2)
def smI (g:Img) (i k:Int):Bool:=match g.ms[i.toNat]?,g.ms[k.toNat]? with | some x,some y=>smM x y | _,_=>false
def zjF (g:Img) (t:Int):Bool:=match g.ts[t.toNat]? with | some x=>(List.range g.ts.length).all (λi=>decide ((i:Int)=t)||(match g.ts[i]? with | some y=>decide (y.nm≠x.nm) | none=>true)) | none=>true
def zfc (g:Img) (t:Int):Bool:=zjF g t&&zcE (λa b=>decide (fnI g a≠fnI g b)) (zbg g t)&&zcE (λa b=>!smI g a b) (zat g t)
def zbA (g:Img) (i:Int):Bool:=!zc0 g i&&(decide ((za7 g i).1=6)&&decide ((za7 g i).2.2.1=0)&&decide (zag g (za7 g i).2.1=1))
def za6 (g:Img) (t:Int):List Int:=((zbg g t).filter (zbA g)).map (λi=>(za7 g i).2.1)
def zes (g:Img) (t:Int):Bool:=
 if zag g t=2 then (zbg g t).all (zc0 g)
 else if zag g t=3 then decide (zbg g t=[])
 else if zag g t=1 then !(zau g.ts.length (za6 g) (za6 g t)).contains t
 else true
def zdw (g:Img) (t:Int):Int:=if (zct (flI g t) (exI g t)&&zb5 g t&&zcd g t)=false then 7 else if zfc g t=false then 18 else if zes g t=false then 20 else 0
def zfk (g:Img):Nat->Nat->Int × Int
 | 0,_=>(0,0)
 | k+1,i=>if zdw g i=0 then zfk g k (i+1) else ((i:Int),zdw g i)
def zcg (g:Img):Int × Int:=if imB g=true then zfk g g.ts.length 0 else (0,17)
def zaY (g:Img):Bool:=decide ((zcg g).2=0)
end Go.Proofs.YtkedhjdipnhgdaaGreat
