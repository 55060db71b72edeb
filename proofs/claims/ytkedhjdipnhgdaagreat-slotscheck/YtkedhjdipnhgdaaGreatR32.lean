import Derived.Test.YtkedhjdipnhgdaaGreatR27
import Derived.Test.YtkedhjdipnhgdaaGreatR28
namespace Go.Proofs.YtkedhjdipnhgdaaGreat
set_option maxHeartbeats 16000000
set_option linter.all false
open RowKit
def zcR (g:Img) (i:Int):Int:=match g.ms[i.toNat]? with | some x=>x.fl | none=>0
def zfq (g:Img) (i:Int):Int:=match g.ms[i.toNat]? with | some x=>x.ow | none=>-1
theorem za4 {g:Img} {q:Nat} (h:q<g.ms.length):zcR g (q:Int)=g.ms[q].fl:=by unfold zcR;rw[Int.toNat_natCast,List.getElem?_eq_getElem h]
theorem za2 {g:Img} {q:Nat} (h:q<g.ms.length):zfq g (q:Int)=g.ms[q].ow:=by unfold zfq;rw[Int.toNat_natCast,List.getElem?_eq_getElem h]
def zaI (g:Img) (i:Int):Bool:=zaf (zcR g i) 2
def zaX (g:Img) (t:Int):List Int:=(zat g t).filter (zaI g)
def znt (g:Img) (l:List Int) (m:Int):Option Nat:=if zaf (zcR g m) 8=true then none else l.findIdx? (λk=>smI g k m)
def zbq (g:Img) (l:List Int) (m:Int):List Int:=match znt g l m with | some k=>l.set k m | none=>l ++ [m]
def zaH (g:Img) (t:Int):List Int:=((upL g t).reverse.flatMap (zaX g)).foldl (zbq g) []
def zdg (p:Int->Bool) (l:List Int):Int:=match l.findIdx? p with | some k=>(k:Int) | none=>-1
theorem zho {p:Int->Bool} {l:List Int} {q:Nat} (hq:q<l.length) (h:(l.take q).any p=false) (hx:p l[q]=true):zdg p l=(q:Int):=by
 unfold zdg;have:l.findIdx? p=some q:=by
  rw[List.findIdx?_eq_some_iff_getElem];refine⟨hq,hx,λj hj=>?_⟩
  rw[List.any_eq_false]at h;exact h _ (List.mem_take_iff_getElem.2 ⟨j,by omega,rfl⟩)
 rw[this]
theorem ziG {p:Int->Bool} {l:List Int} (h:l.any p=false):zdg p l = -1:=by
 unfold zdg;have:l.findIdx? p=none:=by
  rw[List.findIdx?_eq_none_iff];intro x hx;rw[List.any_eq_false]at h;simpa using h x hx
 rw[this]
theorem zfm (p:Int->Bool) (l:List Int):zdg p l = -1/\l.any p=false∨∃ (q:Nat) (hq:q<l.length),zdg p l=(q:Int)/\p l[q]=true/\(l.take q).any p=false:=by
 cases hf:l.findIdx? p with
 | none =>
  refine Or.inl ⟨by unfold zdg;rw[hf], ?_⟩
  rw[List.findIdx?_eq_none_iff]at hf;rw[List.any_eq_false];intro x hx;simp[hf x hx]
 | some k =>
  refine Or.inr ?_;have hf2:=hf;rw[List.findIdx?_eq_some_iff_getElem]at hf;obtain⟨hk,h1,h2⟩:=hf;refine⟨k,hk,by unfold zdg;rw[hf2],h1, ?_⟩
  rw[List.any_eq_false];intro x hx;obtain⟨j,hj,rfl⟩:=List.mem_take_iff_getElem.1 hx;exact h2 j (by omega)
def ixI (l:List Int) (m:Int):Int:=zdg (λk=>k==m) l
def zmD (g:Img) (m:Int):Int:=ixI (zaH g (zfq g m)) m
def zdG (g:Img) (t m:Int):Int:=match (zaH g t)[(zmD g m).toNat]? with | some k=>k | none=>-1
def zmb (g:Img) (t m:Int):Option Int:=((upL g t).flatMap (zaX g)).find? (λk=>smI g k m)
def zaL (g:Img) (t m:Int):Int:=
 if zaI g m=false then m else if zag g (zfq g m)=0 then zdG g t m else match zmb g t m with | some k=>zdG g t k | none=>-1
def zbT (g:Img) (m:Int):Prop:=zam m g.ms.length=true
theorem zoJ {α:Type} (p:α->Bool):∀ (l:List α) (s:Nat) (i:Int),i∈pkN p (s:Int) l->∃ (q:Nat) (h:q<l.length),i=((s+q:Nat):Int)/\p l[q]=true
 | [],s,i,h=>by simp[pkN]at h
 | c :: r,s,i,h=>by
  unfold pkN at h
  rcases List.mem_append.1 h with h | h
  ·split at h
   ·rename_i hc
    simp at h;exact⟨0,by simp,by simpa using h,hc⟩
   ·simp at h
  ·obtain⟨q,hq,e,hp⟩:=zoJ p r (s+1) i (by simpa using h)
   exact⟨q+1,by simpa using hq,by rw[e];omega,hp⟩
theorem zdL {g:Img} {t i:Int} (h:i∈zat g t):∃ (q:Nat) (hq:q<g.ms.length),i=(q:Int)/\g.ms[q].ow=t:=by
 unfold zat at h
 split at h
 ·obtain⟨q,hq,e,hp⟩:=zoJ _ g.ms 0 i (by simpa using h)
  exact⟨q,hq,by simpa using e,by simpa using hp⟩
 ·simp at h
theorem ztb {g:Img} {q:Nat} (hq:q<g.ms.length) (hn:zam g.ms[q].ow g.ts.length=true):(q:Int)∈zat g g.ms[q].ow:=by
 unfold zat;rw[if_pos hn];have:=zka (λx:MD=>decide (x.ow=g.ms[q].ow)) g.ms 0 q hq (by simp)
 simpa using this
theorem zeQ {g:Img} {t i:Int} (h:i∈zaX g t):∃ (q:Nat) (hq:q<g.ms.length),i=(q:Int)/\g.ms[q].ow=t/\zaI g i=true:=by
 unfold zaX at h;rw[List.mem_filter]at h;obtain⟨q,hq,e,ho⟩:=zdL h.1;exact⟨q,hq,e,ho,h.2⟩
theorem zjq (g:Img) (t:Int):(zaX g t).length<=g.ms.length:=by
 unfold zaX zat;refine Nat.le_trans (List.length_filter_le _ _) ?_
 split
 ·have:∀ (l:List MD) (i:Int),(pkN (λx=>decide (x.ow=t)) i l).length<=l.length:=by
   intro l
   induction l with
   | nil=>intro i;simp[pkN]
   | cons a r ih =>
    intro i;unfold pkN;rw[List.length_append,List.length_cons];have:=ih (i+1)
    split <;> simp <;> omega
  exact this _ _
 ·simp
theorem zdz {g:Img} (W:Wel g) {t:Int} (h:zam t g.ts.length=true):zaH g t=(zaX g t).foldl (zbq g) (zaH g (exI g t)):=by
 unfold zaH;rw[zbz W h,List.reverse_cons,List.flatMap_append,List.foldl_append];simp
theorem zlK {g:Img} {t:Int} (h:zam t g.ts.length=false):zaH g t=[]:=by
 unfold zaH;rw[zhj h];rfl
theorem zpT (x:MD):smM x x=true:=by simp[smM]
theorem zp4 {x y:MD} (h:smM x y=true):smM y x=true:=by
 unfold smM at h ⊢;rw[decide_eq_true_iff]at h ⊢;exact⟨h.1.symm,h.2.1.symm,h.2.2.1.symm,h.2.2.2.symm⟩
theorem znS {x y z:MD} (h:smM x y=true) (h2:smM y z=true):smM x z=true:=by
 unfold smM at h h2 ⊢;rw[decide_eq_true_iff]at h h2 ⊢;exact⟨h.1.trans h2.1,h.2.1.trans h2.2.1,h.2.2.1.trans h2.2.2.1,h.2.2.2.trans h2.2.2.2⟩
theorem zgB {g:Img} {i:Int} (h:zbT g i):smI g i i=true:=by
 have:=zai.1 h;unfold smI;rw[List.getElem?_eq_getElem (show i.toNat<g.ms.length by omega)]
 exact zpT _
theorem zlT {g:Img} {i k:Int} (h:smI g i k=true):smI g k i=true:=by
 unfold smI at h ⊢
 cases h1:g.ms[i.toNat]? with
 | none=>rw[h1]at h;simp at h
 | some x =>
  cases h2:g.ms[k.toNat]? with
  | none=>rw[h1,h2]at h;simp at h
  | some y=>rw[h1,h2]at h;exact zp4 h
theorem znM {g:Img} {i k j:Int} (h:smI g i k=true) (h0:smI g k j=true):smI g i j=true:=by
 unfold smI at h h0 ⊢
 cases h1:g.ms[i.toNat]? with
 | none=>rw[h1]at h;simp at h
 | some x =>
  cases h2:g.ms[k.toNat]? with
  | none=>rw[h1,h2]at h;simp at h
  | some y =>
   cases h3:g.ms[j.toNat]? with
   | none=>rw[h2,h3]at h0;simp at h0
   | some z=>rw[h1,h2]at h;rw[h2,h3]at h0;exact znS h h0
theorem zgR {g:Img} {l:List Int} {m:Int} {k:Nat} (h:znt g l m=some k):∃ hk:k<l.length,smI g l[k] m=true/\zaf (zcR g m) 8=false:=by
 unfold znt at h
 split at h
 ·simp at h
 ·rename_i hn
  rw[List.findIdx?_eq_some_iff_getElem]at h;obtain⟨hk,h1,_⟩:=h;exact⟨hk,h1,by simpa using hn⟩
theorem zdo {g:Img} {l:List Int} {m:Int} {k:Nat} (h:znt g l m=some k):zbq g l m=l.set k m:=by unfold zbq;rw[h]
theorem zdm {g:Img} {l:List Int} {m:Int} (h:znt g l m=none):zbq g l m=l ++ [m]:=by unfold zbq;rw[h]
def Keep13 (g:Img) (l l2:List Int):Prop:=l.length<=l2.length/\∀ i (h:i<l.length) (h2:i<l2.length),smI g l2[i] l[i]=true
theorem Keep13.refl {g:Img} {l:List Int} (h:∀ x∈l,zbT g x):Keep13 g l l:=⟨Nat.le_refl _,λi h1 _=>zgB (h _ (List.getElem_mem h1))⟩
theorem Keep13.trans {g:Img} {a b c:List Int} (h1:Keep13 g a b) (h2:Keep13 g b c):Keep13 g a c:=
 ⟨Nat.le_trans h1.1 h2.1,λi ha hc=>znM (h2.2 i (by have:=h1.1;omega) hc) (h1.2 i ha (by have:=h1.1;omega))⟩
theorem Keep13.put {g:Img} {l:List Int} {m:Int} (h:∀ x∈l,zbT g x):Keep13 g l (zbq g l m):=by
 cases hp:znt g l m with
 | none =>
  rw[zdm hp];refine⟨by simp,λi h1 h2=>?_⟩
  rw[List.getElem_append_left h1];exact zgB (h _ (List.getElem_mem h1))
 | some k =>
  rw[zdo hp];obtain⟨hk,h1,_⟩:=zgR hp;refine⟨by simp,λi h3 h2=>?_⟩
  rw[List.getElem_set]
  split
  ·rename_i e;subst e;exact zlT h1
  ·exact zgB (h _ (List.getElem_mem h3))
theorem zoM {g:Img} {l:List Int} {m x:Int} (h:x∈zbq g l m):x∈l∨x=m:=by
 cases hp:znt g l m with
 | none=>rw[zdm hp]at h;simpa using h
 | some k=>rw[zdo hp]at h;exact List.mem_or_eq_of_mem_set h
theorem zeB {g:Img}:∀ {v l:List Int} {x:Int},x∈v.foldl (zbq g) l->x∈l∨x∈v
 | [],l,x,h=>Or.inl h
 | a :: r,l,x,h=>by
  rcases zeB (v:=r) (l:=zbq g l a) h with h | h
  ·rcases zoM h with h | h
   ·exact Or.inl h
   ·exact Or.inr (by simp[h])
  ·exact Or.inr (List.mem_cons_of_mem _ h)
theorem zi1 {g:Img}:∀ {v l:List Int},(∀ x∈l,zbT g x)->(∀ x∈v,zbT g x)->Keep13 g l (v.foldl (zbq g) l)
 | [],l,h,_=>Keep13.refl h
 | a :: r,l,h,hv=>(Keep13.put h).trans (zi1 (v:=r) (λx hx=>by
  rcases zoM hx with hx | hx
  ·exact h x hx
  ·rw[hx];exact hv a (by simp)) (λx hx=>hv x (List.mem_cons_of_mem _ hx)))
theorem zhh {g:Img} {t x:Int} (h:x∈zaX g t):zbT g x:=by
 obtain⟨q,hq,e,_⟩:=zeQ h;rw[e];exact zai.2 (by omega)
theorem zeA {g:Img}:∀ (v l:List Int),(v.foldl (zbq g) l).length<=l.length+v.length
 | [],l=>by simp
 | a :: r,l=>by
  have:=zeA (g:=g) r (zbq g l a);have h2:(zbq g l a).length<=l.length+1:=by
   cases hp:znt g l a with
   | none=>rw[zdm hp];simp
   | some k=>rw[zdo hp];simp
  rw[List.foldl_cons,List.length_cons];omega
theorem zoQ {g:Img} {t x:Int} (h:x∈zaH g t):∃ u∈upL g t,x∈zaX g u:=by
 unfold zaH at h
 rcases zeB h with h | h
 ·simp at h
 ·obtain⟨u,hu,hx⟩:=List.mem_flatMap.1 h;exact⟨u,by simpa using hu,hx⟩
theorem zbM {g:Img} {t x:Int} (h:x∈zaH g t):zbT g x:=by
 obtain⟨u,_,hx⟩:=zoQ h;exact zhh hx
theorem ztl {g:Img} {t x:Int} (h:x∈zaH g t):zaI g x=true:=by
 obtain⟨u,_,hx⟩:=zoQ h;obtain⟨_,_,_,_,h⟩:=zeQ hx;exact h
theorem zpd (g:Img) (t:Int):(upL g t).length<=g.ts.length:=by simpa using (zcw g t).len
theorem zk5 {g:Img} (t:Int):(zaH g t).length<=g.ts.length * g.ms.length:=by
 unfold zaH;have h1:=zeA (g:=g) ((upL g t).reverse.flatMap (zaX g)) [];have h2:∀ l:List Int,(l.flatMap (zaX g)).length<=l.length * g.ms.length:=by
  intro l
  induction l with
  | nil=>simp
  | cons a r ih =>
   rw[List.flatMap_cons,List.length_append,List.length_cons,Nat.succ_mul];have:=zjq g a;omega
 have h3:=h2 (upL g t).reverse;rw[List.length_reverse]at h3;have h4:=Nat.mul_le_mul_right g.ms.length (zpd g t);simp only[List.length_nil,Nat.zero_add]at h1;omega
theorem zqJ {g:Img} (W:Wel g) {t:Int} (h:zam t g.ts.length=true):Keep13 g (zaH g (exI g t)) (zaH g t):=by
 rw[zdz W h];exact zi1 (λx hx=>zbM hx) (λx hx=>zhh hx)
theorem zpO {g:Img} {l:List Int} {m:Int}:m∈zbq g l m:=by
 cases hp:znt g l m with
 | none=>rw[zdm hp];simp
 | some k =>
  rw[zdo hp];obtain⟨hk,_⟩:=zgR hp;exact List.mem_set hk _
theorem zqH {g:Img} {l:List Int} {m x:Int} (h:x∈l) (hs:smI g x m=false):x∈zbq g l m:=by
 cases hp:znt g l m with
 | none=>rw[zdm hp];simp[h]
 | some k =>
  rw[zdo hp];obtain⟨hk,h1,_⟩:=zgR hp;obtain⟨i,hi,rfl⟩:=List.mem_iff_getElem.1 h;have hne:k≠i:=by rintro rfl;rw[h1]at hs;cases hs
  refine List.mem_iff_getElem.2 ⟨i,by simpa using hi, ?_⟩
  rw[List.getElem_set_ne hne]
theorem zi0 {g:Img} {x:Int}:∀ {v l:List Int},x∈l->(∀ y∈v,smI g x y=false)->x∈v.foldl (zbq g) l
 | [],l,h,_=>h
 | a :: r,l,h,hs=>zi0 (v:=r) (zqH h (hs a (by simp))) (λy hy=>hs y (List.mem_cons_of_mem _ hy))
theorem zmj {g:Img} {x:Int}:∀ {v l:List Int},x∈v->v.Pairwise (λa b=>smI g a b=false)->x∈v.foldl (zbq g) l
 | a :: r,l,h,hp=>by
  rw[List.foldl_cons];rw[List.pairwise_cons]at hp
  rcases List.mem_cons.1 h with rfl | h
  ·exact zi0 zpO hp.1
  ·exact zmj h hp.2
theorem zpX {g:Img} {i k:Int} (h:smI g i k=false):smI g k i=false:=by
 cases h2:smI g k i with
 | false=>rfl
 | true=>rw[zlT h2]at h;cases h
theorem zpB {g:Img} (h:zaY g=true) {t:Int} (ht:zam t g.ts.length=true):(zat g t).Pairwise (λa b=>smI g a b=false):=by
 obtain⟨_,ha⟩:=zla h;obtain⟨_,_,_,hn,_⟩:=ha t ht;unfold zfc at hn;rw[Bool.and_eq_true]at hn;have hd:=zdu.1 hn.2;rw[List.pairwise_iff_getElem];intro i j hi hj hij;have:=hd j hj;rw[List.all_eq_true]at this;have h2:=this (zat g t)[i] (List.mem_take_iff_getElem.2 ⟨i,by omega,rfl⟩)
 exact zpX (by simpa using h2)
theorem zo5 {g:Img} (h:zaY g=true) {t:Int} (ht:zam t g.ts.length=true):(zaX g t).Pairwise (λa b=>smI g a b=false):=(zpB h ht).filter _
theorem zgH {g:Img} (hi:imB g=true) {m:Int} (hm:zbT g m):zam (zfq g m) g.ts.length=true:=by
 have h0:=zai.1 hm;have hq:m.toNat<g.ms.length:=by omega
 unfold imB at hi;simp only[Bool.and_eq_true,List.all_eq_true]at hi;have:=hi.1.2.1 g.ms[m.toNat] (List.getElem_mem hq);unfold mdB at this;simp only[Bool.and_eq_true]at this;unfold zfq;rw[List.getElem?_eq_getElem hq];exact this.1.1.1.1.1.1.2
theorem zav {g:Img} (hi:imB g=true) {q:Nat} (hq:q<g.ms.length):0<=g.ms[q].fl/\g.ms[q].fl<=31:=by
 unfold imB at hi;simp only[Bool.and_eq_true,List.all_eq_true]at hi;have:=hi.1.2.1 g.ms[q] (List.getElem_mem hq);unfold mdB at this;simp only[Bool.and_eq_true]at this;have:=this.1.1.1.1.1.2;unfold zb7 at this;simpa using this
theorem zsF {g:Img} (hi:imB g=true) {m:Int} (hm:zbT g m) (hv:zaI g m=true):m∈zaX g (zfq g m):=by
 have h0:=zai.1 hm;have hq:m.toNat<g.ms.length:=by omega
 have hw:=zgH hi hm;have e:m=((m.toNat:Nat):Int):=by omega
 have hw2:zfq g m=g.ms[m.toNat].ow:=by unfold zfq;rw[List.getElem?_eq_getElem hq]
 rw[hw2]at hw ⊢;unfold zaX;rw[List.mem_filter];refine⟨?_,hv⟩;have:=ztb hq hw;rw[<- e]at this;exact this
theorem zss {g:Img} (hw:zaY g=true) {m:Int} (hm:zbT g m) (hv:zaI g m=true):m∈zaH g (zfq g m):=by
 have W:=Wel.of hw;have hn:=zgH W.im hm;rw[zdz W hn];exact zmj (zsF W.im hm hv) (zo5 hw hn)
theorem zuz {l:List Int} {m:Int} (h:m∈l):∃ (k:Nat) (hk:k<l.length),ixI l m=(k:Int)/\l[k]=m:=by
 rcases zfm (λk=>k==m) l with ⟨_,h2⟩ | ⟨k,hk,h1,h2,_⟩
 ·rw[List.any_eq_false]at h2;exact absurd (beq_self_eq_true m) (h2 m h)
 ·exact⟨k,hk,h1,by simpa using h2⟩
theorem zsY {l:List Int} {m:Int} (h:m∉l):ixI l m = -1:=ziG (by
 rw[List.any_eq_false];intro x hx e;have:x=m:=by simpa using e
 exact h (this ▸ hx))
theorem ztW {g:Img} (hw:zaY g=true) {m:Int} (hm:zbT g m) (hv:zaI g m=true):∃ (k:Nat) (hk:k<(zaH g (zfq g m)).length),zmD g m=(k:Int)/\(zaH g (zfq g m))[k]=m:=by
 obtain⟨k,hk,h1,h2⟩:=zuz (zss hw hm hv);exact⟨k,hk,h1,h2⟩
theorem zpk {g:Img} {m:Int} (hv:zaI g m=false):zmD g m = -1:=zsY (λh=>by rw[ztl h]at hv;cases hv)
theorem zrL {g:Img} (W:Wel g):∀ (n:Nat) (t u:Int),zam t g.ts.length=true->(upL g t).length<=n->u∈upL g t->Keep13 g (zaH g u) (zaH g t)
 | 0,t,u,ht,hn,hu=>by rw[zbz W ht]at hn;simp at hn
 | n+1,t,u,ht,hn,hu=>by
  have hc:=zbz W ht;rw[hc]at hu
  rcases List.mem_cons.1 hu with rfl | hu
  ·exact Keep13.refl (λx hx=>zbM hx)
  ·have he:zam (exI g t) g.ts.length=true:=by
    cases he:zam (exI g t) g.ts.length with
    | true=>rfl
    | false=>rw[zhj he]at hu;simp at hu
   exact (zrL W n (exI g t) u he (by rw[hc]at hn;simpa using hn) hu).trans (zqJ W ht)
theorem zos {g:Img} (hw:zaY g=true) {t m:Int} (ht:zam t g.ts.length=true) (hm:zbT g m) (hv:zaI g m=true) (hu:zfq g m∈upL g t) :
 ∃ (k:Nat) (hk:k<(zaH g t).length),zmD g m=(k:Int)/\zdG g t m=(zaH g t)[k]/\0<=zdG g t m:=by
 obtain⟨k,hk,h1,h2⟩:=ztW hw hm hv;have K:=zrL (Wel.of hw) _ t _ ht (Nat.le_refl _) hu;have hk2:k<(zaH g t).length:=Nat.lt_of_lt_of_le hk K.1;have h3:zdG g t m=(zaH g t)[k]:=by
  unfold zdG;rw[h1,Int.toNat_natCast,List.getElem?_eq_getElem hk2]
 exact⟨k,hk2,h1,h3,by rw[h3];exact (zai.1 (zbM (List.getElem_mem hk2))).1⟩
theorem zeW {g:Img} (W:Wel g) {t u:Int} (h:zmn g t u=true) (hk:zag g u≠2):u∈upL g t:=by
 rcases zgl.1 h with h | h
 ·exact h
 ·exact absurd (zgZ W h) hk
theorem zhw {g:Img} (W:Wel g) {t u:Int} (ht:zag g t=0) (h:u∈upL g t):zag g u=0:=by
 have hn:=zbk (show zag g t≠-1 by rw[ht];decide)
 by_cases e:u=t
 ·rw[e];exact ht
 ·exact zn5 W _ t hn (Nat.le_refl _) u (zjO W hn h e)
theorem ztI {g:Img} {t m k:Int} (h:zmb g t m=some k):∃ u∈upL g t,k∈zaX g u/\smI g k m=true:=by
 unfold zmb at h;have h1:=List.mem_of_find?_eq_some h;have h2:=List.find?_some h;obtain⟨u,hu,hk⟩:=List.mem_flatMap.1 h1;exact⟨u,hu,hk,h2⟩
def zdZ (g:Img) (x:MD):Bool:=
 (!zaf x.fl 16||(decide (zag g x.ow=0)&&decide (x.rt.1=1)&&decide (x.fl=16)))&&(!zaf x.fl 2||(!zaf x.fl 1&&decide (zag g x.ow≠1)))&&(zaf x.fl 2||(!zaf x.fl 4&&!zaf x.fl 8)) &&
   (!zaf x.fl 4||(decide (x.co=[])&&decide (x.ls=[])&&decide (x.cl=[])&&decide (x.mx<=0)))&&(zaf x.fl 4||(decide (x.co≠[])&&decide (zag g x.ow<2))) &&
   (decide (zag g x.ow≠3)||decide ((zat g x.ow).length=1))&&(!zaf x.fl 4||decide (2<=zag g x.ow)||zaf (flI g x.ow) 4)
def zrM (k:Int) (x:MD):Bool:=if zaf x.fl 16=true then decide (k=0)&&(decide (x.rt.1=1)&&decide (x.fl=16)) else if zaf x.fl 2=true then !zaf x.fl 1&&decide (k≠1) else !(zaf x.fl 4||zaf x.fl 8)
def zsf (x:MD):Bool:=if zaf x.fl 4=true then decide (x.co=[])&&(decide (x.ls=[])&&(decide (x.cl=[])&&decide (x.mx=0))) else decide (x.co≠[])
def zrl (g:Img) (x:MD):Bool:=
 if zag g x.ow=2 then zaf x.fl 4 else if zag g x.ow=3 then zaf x.fl 4&&decide ((zat g x.ow).length=1) else if zag g x.ow=0 then !zaf x.fl 4||zaf (flI g x.ow) 4 else true
theorem zqZ (g:Img) (t:Int):zag g t=0∨zag g t=1∨zag g t=2∨zag g t=3∨zag g t = -1:=by
 unfold zag
 split
 ·rcases zbp (flI g t) with h | h | h | h <;> simp[h]
 ·simp
theorem zpu {f:Int} (h:f=16):zaf f 1=false/\zaf f 2=false/\zaf f 4=false/\zaf f 8=false/\zaf f 16=true:=by subst h;decide
theorem zuN {g:Img} {x:MD} (hn:zam x.ow g.ts.length=true) (hm:0<=x.mx):(zrM (zag g x.ow) x&&zsf x&&zrl g x)=zdZ g x:=by
 have hk:zag g x.ow=0∨zag g x.ow=1∨zag g x.ow=2∨zag g x.ow=3:=by
  rcases zqZ g x.ow with h | h | h | h | h
  ·exact Or.inl h
  ·exact Or.inr (Or.inl h)
  ·exact Or.inr (Or.inr (Or.inl h))
  ·exact Or.inr (Or.inr (Or.inr h))
  ·unfold zag at h;rw[if_pos hn]at h
   rcases zbp (flI g x.ow) with h2 | h2 | h2 | h2 <;> rw[h2]at h <;> omega
 have hmx:decide (x.mx<=0)=decide (x.mx=0):=by rw[Bool.eq_iff_iff];simp;omega
 have h16:decide (x.fl=16)=true->zaf x.fl 1=false/\zaf x.fl 2=false/\zaf x.fl 4=false/\zaf x.fl 8=false/\zaf x.fl 16=true:=λh=>zpu (of_decide_eq_true h)
 unfold zdZ zrM zsf zrl;rw[hmx];generalize decide (x.fl=16)=e16 at *;generalize zaf x.fl 1=b1 at *;generalize zaf x.fl 2=b2 at *;generalize zaf x.fl 4=b4 at *;generalize zaf x.fl 8=b8 at *;generalize zaf x.fl 16=b16 at *;have hco:decide (x.co≠[])=!decide (x.co=[]):=by simp
 rw[hco];generalize decide (x.co=[])=ec at *;generalize decide (x.ls=[])=el at *;generalize decide (x.cl=[])=ek at *;generalize decide (x.mx=0)=em at *;generalize decide (x.rt.1=1)=er at *;generalize decide ((zat g x.ow).length=1)=eo at *;generalize zaf (flI g x.ow) 4=ea at *;clear hmx hco hn hm
 rcases hk with hk | hk | hk | hk
 all_goals rw[hk]
 all_goals clear hk
 all_goals cases e16
 all_goals first | (obtain⟨rfl,rfl,rfl,rfl,rfl⟩:=h16 rfl;simp[Bool.and_assoc];done) | (clear h16;cases b1 <;> cases b2 <;> cases b4 <;> cases b8 <;> cases b16 <;> simp[Bool.and_assoc])
def zdC (l:List Ins):List Ty:=(l.filter (λx=>decide (opP x.1=8))).map (λx=>x.2.2)
def zez (l:List Cl):List Ty:=(l.filter (λc=>decide (c.k=1))).map (λc=>(c.t0,c.t1,c.t2,c.t3))
def zfN (x:MD):List Ty:=[x.rt] ++ x.ps ++ x.ls ++ zdC x.co ++ zez x.cl
def ziM (g:Img) (x:MD):Bool:=(zfN x).all (zaw g)
def za8 (g:Img) (x:MD):Int:=if zdZ g x=false then 8 else if ziM g x=false then 10 else 0
def zev (g:Img) (t:Int):Bool:=(zaH g t).all (λm=>!zaf (zcR g m) 4)&&(zbj g t).all (λf=>(zat g f).all (λm=>decide (zaL g t m≠-1)))
def zcz (g:Img) (t:Int):Bool:=decide (zag g t=0)&&(!zaf (flI g t) 4&&!zev g t)
def zep (g:Img) (t:Int):Bool:=decide (zag g t=3)&&decide (zat g t=[])
def ziB (x:MD):Bool:=zaf x.fl 1&&(decide (x.ps=[])&&(!zaf x.fl 4&&(decide (x.rt.2.2.1=0)&&decide (1<=x.rt.1/\x.rt.1<=3))))
def zhE (g:Img):Bool:=decide (g.en = -1)||(match g.ms[g.en.toNat]? with | some x=>ziB x | none=>true)
def zb3 (g:Img):Int × Int × Int:=
 if zbc g=false then (0,0,17) else
 match g.ms.findIdx? (λx=>decide (za8 g x≠0)) with
 | some i=>(1,(i:Int),match g.ms[i]? with | some x=>za8 g x | none=>0)
 | none=>match (List.range g.ts.length).findIdx? (λt:Nat=>zcz g (t:Int)) with
   | some t=>(0,(t:Int),18)
   | none=>match (List.range g.ts.length).findIdx? (λt:Nat=>zep g (t:Int)) with
     | some t=>(0,(t:Int),8)
     | none=>if zhE g=false then (1,g.en,11) else (0,0,0)
theorem zob {g:Img} (h:zbc g=false):zb3 g=(0,0,17):=by unfold zb3;rw[h];rfl
theorem zo8 {g:Img} (h:zbc g=true) {i:Nat} (hi:i<g.ms.length) (ha:∀ j (hj:j<i),za8 g g.ms[j]=0) (hu:za8 g g.ms[i]≠0):zb3 g=(1,(i:Int),za8 g g.ms[i]):=by
 unfold zb3;have:g.ms.findIdx? (λx=>decide (za8 g x≠0))=some i:=by
  rw[List.findIdx?_eq_some_iff_getElem];exact⟨hi,by simpa using hu,λj hj=>by simpa using ha j hj⟩
 rw[h,if_neg (by decide),this]
 simp only[List.getElem?_eq_getElem hi]
theorem zgi {g:Img} (ha:∀ j (hj:j<g.ms.length),za8 g g.ms[j]=0):g.ms.findIdx? (λx=>decide (za8 g x≠0))=none:=by
 rw[List.findIdx?_eq_none_iff];intro x hx;obtain⟨j,hj,rfl⟩:=List.mem_iff_getElem.1 hx;simpa using ha j hj
theorem zl8 {n i:Nat} {p:Int->Bool} (hi:i<n) (ha:∀ j<i,p (j:Int)=false) (hp:p (i:Int)=true):(List.range n).findIdx? (λt:Nat=>p (t:Int))=some i:=by
 rw[List.findIdx?_eq_some_iff_getElem];refine⟨by simpa using hi,by simpa using hp,λj hj=>?_⟩
 simpa using ha j hj
theorem zgX {n:Nat} {p:Int->Bool} (ha:∀ j<n,p (j:Int)=false):(List.range n).findIdx? (λt:Nat=>p (t:Int))=none:=by
 rw[List.findIdx?_eq_none_iff];intro x hx;exact ha x (List.mem_range.1 hx)
theorem zpI {g:Img} (h:zbc g=true) (ha:∀ j (hj:j<g.ms.length),za8 g g.ms[j]=0) {i:Nat} (hi:i<g.ts.length) (hb:∀ j<i,zcz g (j:Int)=false) (hu:zcz g (i:Int)=true):zb3 g=(0,(i:Int),18):=by
 unfold zb3;rw[h,if_neg (by decide),zgi ha,zl8 hi hb hu]
theorem zo0 {g:Img} (h:zbc g=true) (ha:∀ j (hj:j<g.ms.length),za8 g g.ms[j]=0) (hb:∀ j<g.ts.length,zcz g (j:Int)=false) {i:Nat} (hi:i<g.ts.length) (hc:∀ j<i,zep g (j:Int)=false) (hu:zep g (i:Int)=true):zb3 g=(0,(i:Int),8):=by
 unfold zb3;rw[h,if_neg (by decide),zgi ha,zgX hb]
 simp only;rw[zl8 hi hc hu]
theorem zpH {g:Img} (h:zbc g=true) (ha:∀ j (hj:j<g.ms.length),za8 g g.ms[j]=0) (hb:∀ j<g.ts.length,zcz g (j:Int)=false) (hc:∀ j<g.ts.length,zep g (j:Int)=false):zb3 g=if zhE g=false then (1,g.en,11) else (0,0,0):=by
 unfold zb3;rw[h,if_neg (by decide),zgi ha,zgX hb]
 simp only;rw[zgX hc]
theorem zlH {α β:Type} {p:α->Bool} {q:β->Bool}:∀ {l:List α} {m:List β},l.length=m.length->(∀ i (h1:i<l.length) (h2:i<m.length),p l[i]=q m[i])->l.all p=m.all q
 | [],[],_,_=>rfl
 | [],b :: m,h,_=>by simp at h
 | a :: l,[],h,_=>by simp at h
 | a :: l,b :: m,h,hp=>by
  rw[List.all_cons,List.all_cons];have h0:p a=q b:=hp 0 (by simp) (by simp)
  rw[h0,zlH (by simpa using h) (λi h1 h2=>by
   have:=hp (i+1) (by simpa using h1) (by simpa using h2)
   simpa using this)]
theorem zuf {α β:Type} {f:α->β} {l m:List α} (h:l.length=m.length) (hp:∀ i (h1:i<l.length) (h2:i<m.length),f l[i]=f m[i]):l.map f=m.map f:=by
 apply List.ext_getElem
 ·simpa using h
 ·intro i h1 h2;simp only[List.getElem_map];exact hp i (by simpa using h1) (by simpa using h2)
theorem zsX {g h:Img} (hl:g.like h):exI g=exI h:=funext λt=>by
 have hlen:=hl.1;unfold exI;by_cases hq:t.toNat<g.ts.length
 ·rw[List.getElem?_eq_getElem hq,List.getElem?_eq_getElem (l:=h.ts) (by omega)]
  exact (hl.2.1 _ hq (by omega)).2.2.1
 ·rw[List.getElem?_eq_none (by omega),List.getElem?_eq_none (l:=h.ts) (by omega)]
theorem zvx {g h:Img} (hl:g.like h):fsI g=fsI h:=funext λt=>by
 have hlen:=hl.1;unfold fsI;by_cases hq:t.toNat<g.ts.length
 ·rw[List.getElem?_eq_getElem hq,List.getElem?_eq_getElem (l:=h.ts) (by omega)]
  exact (hl.2.1 _ hq (by omega)).2.2.2
 ·rw[List.getElem?_eq_none (by omega),List.getElem?_eq_none (l:=h.ts) (by omega)]
theorem znJ {g h:Img} (hl:g.like h):flI g=flI h:=funext λt=>by
 have hlen:=hl.1;unfold flI;by_cases hq:t.toNat<g.ts.length
 ·rw[List.getElem?_eq_getElem hq,List.getElem?_eq_getElem (l:=h.ts) (by omega)]
  exact (hl.2.1 _ hq (by omega)).2.1
 ·rw[List.getElem?_eq_none (by omega),List.getElem?_eq_none (l:=h.ts) (by omega)]
theorem zco {g h:Img} (hl:g.like h):zag g=zag h:=funext λt=>by unfold zag;rw[hl.1,znJ hl]
theorem zrD {g h:Img} (hl:g.like h):∀ (k:Nat) (l:List Int) (t:Int),upG g k l t=upG h k l t
 | 0,_,_=>rfl
 | k+1,l,t=>by
  show (if _ then _ else _)=(if _ then _ else _)
  rw[hl.1,zsX hl,zrD hl k]
theorem zpa {g h:Img} (hl:g.like h):upL g=upL h:=funext λt=>by unfold upL;rw[hl.1,zrD hl]
theorem zpr {g h:Img} (hl:g.like h):zbg g=zbg h:=funext λt=>by unfold zbg;rw[hl.1,hl.2.2.1]
theorem ze1 {α:Type} (t:Int) (f:α->Int):∀ (l:List α) (i:Int),pkN (λx=>decide (x=t)) i (l.map f)=pkN (λx=>decide (f x=t)) i l
 | [],_=>rfl
 | c :: r,i=>by
  simp only[List.map_cons,pkN];rw[ze1 t f r]
theorem zun {g h:Img} (hl:g.like h):g.ms.map (·.ow)=h.ms.map (·.ow):=zuf hl.2.2.2.1 (λi h1 h2=>(hl.2.2.2.2.1 i h1 h2).2.1)
theorem ziC {g h:Img} (hl:g.like h):zat g=zat h:=funext λt=>by
 unfold zat;rw[hl.1,<- ze1 t (λx:MD=>x.ow) g.ms,<- ze1 t (λx:MD=>x.ow) h.ms,zun hl]
theorem zxk {g h:Img} (hl:g.like h):fnI g=fnI h:=funext λt=>by unfold fnI;rw[hl.2.2.1]
theorem zsl {g h:Img} (hl:g.like h):zc0 g=zc0 h:=funext λt=>by unfold zc0;rw[hl.2.2.1]
theorem zsh {g h:Img} (hl:g.like h):za7 g=za7 h:=funext λt=>by unfold za7;rw[hl.2.2.1]
theorem zti {g h:Img} (hl:g.like h):smI g=smI h:=funext λi=>funext λk=>by
 unfold smI;have hlen:=hl.2.2.2.1;by_cases h1:i.toNat<g.ms.length
 ·by_cases h2:k.toNat<g.ms.length
  ·rw[List.getElem?_eq_getElem h1,List.getElem?_eq_getElem h2,List.getElem?_eq_getElem (l:=h.ms) (by omega),List.getElem?_eq_getElem (l:=h.ms) (by omega)]
   obtain⟨a1,_,a3,a4,a5,_⟩:=hl.2.2.2.2.1 i.toNat h1 (by omega)
   obtain⟨b1,_,b3,b4,b5,_⟩:=hl.2.2.2.2.1 k.toNat h2 (by omega)
   show smM _ _=smM _ _;unfold smM;rw[a1,a3,a4,a5,b1,b3,b4,b5]
  ·rw[List.getElem?_eq_none (l:=g.ms) (i:=k.toNat) (by omega),List.getElem?_eq_none (l:=h.ms) (i:=k.toNat) (by omega)]
   cases g.ms[i.toNat]? <;> cases h.ms[i.toNat]? <;> rfl
 ·rw[List.getElem?_eq_none (l:=g.ms) (i:=i.toNat) (by omega),List.getElem?_eq_none (l:=h.ms) (i:=i.toNat) (by omega)]
theorem zvb {g h:Img} (hl:g.like h):zjF g=zjF h:=funext λt=>by
 unfold zjF;have hlen:=hl.1;by_cases h1:t.toNat<g.ts.length
 ·rw[List.getElem?_eq_getElem h1,List.getElem?_eq_getElem (l:=h.ts) (by omega)]
  show (List.range g.ts.length).all _=(List.range h.ts.length).all _;have e:=(hl.2.1 t.toNat h1 (by omega)).1
  refine zlH (by simp[hlen]) λi hi _=>?_
  have hi2:i<g.ts.length:=by simpa using hi
  simp only[List.getElem_range];rw[List.getElem?_eq_getElem hi2,List.getElem?_eq_getElem (l:=h.ts) (by omega),e]
  show (_||decide _)=(_||decide _)
  rw[(hl.2.1 i hi2 (by omega)).1]
 ·rw[List.getElem?_eq_none (by omega),List.getElem?_eq_none (l:=h.ts) (by omega)]
theorem zt1 {g h:Img} (hl:g.like h):za6 g=za6 h:=funext λt=>by
 have hp:zbA g=zbA h:=funext λi=>by unfold zbA;rw[zsl hl,zsh hl,zco hl]
 unfold za6;rw[zpr hl,hp,zsh hl]
theorem zuW {g h:Img} (hl:g.like h):zdw g=zdw h:=funext λt=>by
 have e1:zb5 g t=zb5 h t:=by unfold zb5;rw[zsX hl,zco hl,znJ hl,zpa hl]
 have e2:zcd g t=zcd h t:=by unfold zcd;rw[zvx hl,zco hl,hl.1]
 have e3:zfc g t=zfc h t:=by unfold zfc;rw[zvb hl,zxk hl,zpr hl,zti hl,ziC hl]
 have e4:zes g t=zes h t:=by unfold zes;rw[zco hl,zpr hl,zsl hl,zt1 hl,hl.1]
 unfold zdw;rw[znJ hl,zsX hl,e1,e2,e3,e4]
theorem zsn {g h:Img} (hl:g.like h):∀ (k i:Nat),zfk g k i=zfk h k i
 | 0,_=>rfl
 | k+1,i=>by
  unfold zfk;rw[zuW hl,zsn hl k]
theorem zxJ {g h:Img} (hl:g.like h):imB g=imB h:=by
 have hT:g.ts.all (tdB g.ts.length)=h.ts.all (tdB h.ts.length):=by
  rw[<- hl.1];refine zlH hl.1 λi h1 h2=>?_
  obtain⟨a1,a2,a3,a4⟩:=hl.2.1 i h1 h2;unfold tdB;rw[a1,a2,a3,a4]
 have hM:g.ms.all (mdB g.ts.length g.fs.length g.ms.length)=h.ms.all (mdB h.ts.length h.fs.length h.ms.length):=by
  rw[<- hl.1,<- hl.2.2.1,<- hl.2.2.2.1];refine zlH hl.2.2.2.1 λi h1 h2=>?_
  obtain⟨a1,a2,a3,a4,a5,a6,a7,a8,a9⟩:=hl.2.2.2.2.1 i h1 h2;unfold mdB;rw[a1,a2,a3,a4,a5,a6,a7,a8,a9]
 unfold imB;rw[hT,hM,zun hl,hl.1,hl.2.2.1,hl.2.2.2.1,hl.2.2.2.2.2]
theorem zud {g h:Img} (hl:g.like h):zaY g=zaY h:=by
 unfold zaY zcg;rw[zxJ hl,zsn hl,hl.1]
theorem zrF {g h:Img} (hl:g.like h):zbl g=zbl h:=by
 have hh:zbP g=zbP h:=funext λt=>by unfold zbP;rw[hl.2.2.1]
 have hk:∀ (k:Nat) (t:Ty),zcQ g k t=zcQ h k t:=by
  intro k
  induction k with
  | zero=>intro t;rfl
  | succ k ih =>
   intro t;show (if _ then _ else _)=(if _ then _ else _)
   rw[hh,show zcQ g k=zcQ h k from funext ih]
 exact funext λt=>by unfold zbl;rw[hl.1,hk]
theorem zu9 {g h:Img} (hl:g.like h):znm g=znm h:=funext λt=>by
 have hh:zbP g=zbP h:=funext λt=>by unfold zbP;rw[hl.2.2.1]
 have ho:zde g=zde h:=funext λu=>by unfold zde;rw[hh,zrF hl]
 unfold znm;rw[ho,zpa hl]
theorem zqP {g h:Img} (hl:g.like h):zb8 g=zb8 h:=by
 have hu:zaw g=zaw h:=funext λt=>by unfold zaw;rw[zco hl]
 have ht:zbZ g=zbZ h:=funext λt=>by unfold zbZ;rw[zco hl,zrF hl,zu9 hl]
 unfold zb8;rw[zud hl,hl.2.2.1,hu,ht,hl.1]
theorem zoV {g h:Img} (hl:g.like h):h.like g:=
 ⟨hl.1.symm,λi h1 h2=>by obtain⟨a1,a2,a3,a4⟩:=hl.2.1 i h2 h1;exact⟨a1.symm,a2.symm,a3.symm,a4.symm⟩,hl.2.2.1.symm,hl.2.2.2.1.symm,λi h1 h2=>by
   obtain⟨a1,a2,a3,a4,a5,a6,a7,a8,a9⟩:=hl.2.2.2.2.1 i h2 h1;exact⟨a1.symm,a2.symm,a3.symm,a4.symm,a5.symm,a6.symm,a7.symm,a8.symm,a9.symm⟩,hl.2.2.2.2.2.symm⟩
end Go.Proofs.YtkedhjdipnhgdaaGreat

namespace Go.Proofs.YtkedhjdipnhgdaaGreat
set_option maxHeartbeats 16000000
set_option linter.all false
open RowKit
attribute [local go_sem ↓] wp_at_zero wp_at_succ
theorem zgS {b off cap:Nat} {l:List Int} {w:World} {f:FuncId} {bs cs:Array Value} {p:Int->Bool} (hb:b<w.heap.size) (hc:∀ i (hi:i<l.length),El zch w b (off+i * 1) l[i]) (hl:l.length<=maxLen) (hf:Tells Tryz.prog zew w f bs cs p l) :
 Calls Tryz.prog 99 #[.slice (some ⟨b,off,none⟩) l.length cap,.func (.func f) bs cs] w λe w'=>e=.returned (.int .i64 (zdg p l))/\Below w.heap.size w w':=by
 unfold maxLen at hl;have HC:Hid (∀ i (hi:i<l.length),El zch w b (off+i * 1) l[i]):=hc;have HF:Hid (Tells Tryz.prog zew w f bs cs p l):=hf;have HY0:Hid (∀ (q:Nat) (hq:q<l.length),(l.take q).any p=false->p l[q]=true->zdg p l=(q:Int)):=λq hq h1 h2=>zho hq h1 h2
 have HN0:Hid (l.any p=false->zdg p l = -1):=ziG;have hen:=hf.enter;clear hc hf;generalize zdg p l=R at *;go_enter Tryz.func99,Tryz.ntmps99;go_wp2_with fail
 go_loopw [5,8] (λ_ z wr=>∃ q:Nat,q<=l.length/\z=.int .i64 q/\Below w.heap.size w wr/\(l.take q).any p=false) (λ_ z _=>l.length - (intOf z).toNat)
 case atStart=>exact⟨0,Nat.zero_le _,rfl,Below.refl _ _,by simp⟩
 case round =>
  obtain⟨q,hq,rfl,hB,hany⟩:=hrel;have HAn:Hid ((l.take q).any p=false):=hany;have hsz:=hB.size;clear hany;by_cases hql:q<l.length
  ·have c0:=((HC.out q hql).below hB hb).cells_N;have HN:Hid (p l[q]=false->(l.take (q+1)).any p=false):=zaS hql HAn.out;have HY:Hid (p l[q]=true->R=(q:Int)):=λh=>HY0.out q hql HAn.out h
   have HL:Hid (Calls Tryz.prog f (bs.push (zew l[q]) ++ cs) wr λe w'=>e=.returned (.bool (p l[q]))/\Below wr.heap.size wr w'):=HF.out.tells wr hB _ (List.getElem_mem hql)
   generalize l[q]=x at *;have HBL:Hid (Below w.heap.size w wr):=hB;clear hB
   cases hx:p x with
   | false =>
    have H1:Hid ((l.take (q+1)).any p=false):=HN.out hx;rw[hx]at HL;go_wp2_with fail
    refine Calls.mono HL.out ?_;rintro e w1 ⟨rfl,hb1⟩;have hB1:=zaa HBL.out hb1;clear hb1;go_wp2_with fail
    go_roundw
    case rel=>exact⟨q+1,by omega,by go_num,hB1,H1.out⟩
    case measure=>simp[intOf];omega
   | true =>
    have H1:Hid (R=(q:Int)):=HY.out hx;rw[hx]at HL;go_wp2_with fail
    refine Calls.mono HL.out ?_;rintro e w1 ⟨rfl,hb1⟩;have hB1:=zaa HBL.out hb1;clear hb1;go_wp2_with fail
    go_ret;exact⟨zak H1.out.symm,hB1⟩
  ·have HF':Hid (R = -1):=by
    show _=_;have:=HAn.out;rw[List.take_of_length_le (by omega)]at this
    exact HN0.out this
   go_wp2;go_ret;exact⟨zak HF'.out.symm,hB⟩
theorem zea {v:Value} {l:List Int} {w:World} (hX:Is w v l) {f:FuncId} {bs cs:Array Value} {p:Int->Bool} (hf:Tells Tryz.prog zew w f bs cs p l) :
 Calls Tryz.prog 99 #[v,.func (.func f) bs cs] w λe w'=>e=.returned (.int .i64 (zdg p l))/\Below w.heap.size w w':=by
 have hX:=hX.toEs;by_cases hne:l=[]
 ·subst hne;obtain⟨a,c,rfl,_,_⟩:=hX.shape;refine (zdi a c _ w).mono ?_;rintro e w' ⟨rfl,rfl⟩;exact⟨rfl,Below.refl _ _⟩
 ·have hl:=hX.len;obtain⟨b,off,cap,rfl,h1,h2,hb,hc⟩:=hX.parts hne;exact zgS hb hc hl hf
theorem zio {b off cap:Nat} {l:List Int} {n:Int} {w:World} (hl:l.length<=maxLen) (hc:∀ i (hi:i<l.length),w.cell? ⟨b,off+i,none⟩=some (.int .i64 l[i])) :
 Calls Tryz.prog 82 #[.slice (some ⟨b,off,none⟩) l.length cap,.int .i64 n] w λe w'=>e=.returned (.int .i64 (ixI l n))/\w'=w:=by
 unfold maxLen at hl;have HC:Hid (∀ i (hi:i<l.length),w.cell? ⟨b,off+i,none⟩=some (.int .i64 l[i])):=hc;have HY0:Hid (∀ (q:Nat) (hq:q<l.length),(l.take q).any (λk=>k==n)=false->l[q]=n->ixI l n=(q:Int)):=λq hq h1 h2=>zho hq h1 (by simpa using h2)
 have HN0:Hid (l.any (λk=>k==n)=false->ixI l n = -1):=ziG
 clear hc;generalize ixI l n=R at *;go_enter Tryz.func82,Tryz.ntmps82;go_wp2_with fail
 go_loopw [5,8] (λ_ z wr=>∃ q:Nat,q<=l.length/\z=.int .i64 q/\wr=w/\Hid ((l.take q).any (λk=>k==n)=false)) (λ_ z _=>l.length - (intOf z).toNat)
 case atStart=>exact⟨0,Nat.zero_le _,rfl,rfl,by show _=_;simp⟩
 case round =>
  obtain⟨q,hq,rfl,rfl,HA⟩:=hrel;by_cases hql:q<l.length
  ·have cq:=HC.out q hql;have HY:Hid (l[q]≠n->(l.take (q+1)).any (λk=>k==n)=false):=λh=>zaS hql HA.out (by simpa using h)
   have HN:Hid (l[q]=n->R=(q:Int)):=λh=>HY0.out q hql HA.out h
   generalize l[q]=y at *;by_cases hyn:y=n
   ·have hb:(n==y)=true:=by simpa using hyn.symm
    have HRh:Hid (R=(q:Int)):=HN.out hyn;clear HY HN hyn;go_wp2_with fail
    go_ret;exact⟨zak HRh.out.symm,rfl⟩
   ·have hb:(n==y)=false:=by simpa using λh=>hyn (Eq.symm h)
    have HY2:Hid ((l.take (q+1)).any (λk=>k==n)=false):=HY.out hyn
    clear HY HN hyn;go_wp2_with fail
    go_roundw
    case rel=>exact⟨q+1,by omega,by go_num,by simp,HY2.out⟩
    case measure=>simp[intOf];omega
  ·have HD:Hid (R = -1):=by
    show _=_;have:=HA.out;rw[List.take_of_length_le (by omega)]at this
    exact HN0.out this
   go_wp2_with fail
   go_ret;exact⟨zak HD.out.symm,rfl⟩
theorem zjf {v:Value} {l:List Int} {w:World} (h:Is w v l) (n:Int) :
 Calls Tryz.prog 82 #[v,.int .i64 n] w λe w'=>e=.returned (.int .i64 (ixI l n))/\w'=w:=by
 by_cases hne:l=[]
 ·subst hne;obtain⟨a,c,rfl,_,_⟩:=h.shape;refine (zd8 a c n w).mono ?_;rintro e w' ⟨rfl,rfl⟩;exact⟨rfl,rfl⟩
 ·obtain⟨b,off,cap,rfl,h1,h2,hb,hc⟩:=h.parts hne;exact zio (by omega) hc
end Go.Proofs.YtkedhjdipnhgdaaGreat
