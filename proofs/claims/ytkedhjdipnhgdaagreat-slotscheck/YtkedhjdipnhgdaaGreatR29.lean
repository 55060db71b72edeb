import Derived.Test.YtkedhjdipnhgdaaGreatR27
namespace Go.Proofs.YtkedhjdipnhgdaaGreat
set_option maxHeartbeats 16000000
set_option linter.all false
open RowKit
attribute [local go_sem ↓] wp_at_zero wp_at_succ
abbrev zwe:Oper:=⟨some 19,.move (.tmp 5),3,"ref.go:162",#[],none⟩
abbrev zxj:Oper:=⟨some 20,.move (.tmp 1),3,"ref.go:162",#[],none⟩
abbrev zw3:Oper:=⟨some 21,.binOp .neq 3 (.tmp 19) (.tmp 20) 3,4,"ref.go:162",#[⟨0,.data⟩,⟨1,.data⟩],none⟩
abbrev zvY:Oper:=⟨some 22,.move (.tmp 21),4,"ref.go:162",#[⟨2,.data⟩],none⟩
abbrev zwR:Oper:=⟨some 23,.fieldAddr 26 (.tmp 2) 0,0,"ref.go:162",#[⟨3,.guard⟩],some (3,true)⟩
abbrev zv2:Oper:=⟨some 24,.load 22 (.tmp 23),22,"ref.go:162",#[⟨4,.data⟩,⟨3,.guard⟩],some (3,true)⟩
abbrev zw4:Oper:=⟨some 25,.move (.tmp 5),3,"ref.go:162",#[⟨3,.guard⟩],some (3,true)⟩
abbrev zwm:Oper:=⟨some 26,.indexAddr 22 (.tmp 24) (.tmp 25),0,"ref.go:162",#[⟨5,.data⟩,⟨6,.data⟩,⟨3,.guard⟩],some (3,true)⟩
abbrev zwC:Oper:=⟨some 27,.fieldAddr 44 (.tmp 26) 0,0,"ref.go:162",#[⟨7,.data⟩,⟨3,.guard⟩],some (3,true)⟩
abbrev zv1:Oper:=⟨some 28,.load 9 (.tmp 27),9,"ref.go:162",#[⟨8,.data⟩,⟨3,.guard⟩],some (3,true)⟩
abbrev zuC:Oper:=⟨some 29,.fieldAddr 26 (.tmp 2) 0,0,"ref.go:162",#[⟨3,.guard⟩],some (3,true)⟩
abbrev ztZ:Oper:=⟨some 30,.load 22 (.tmp 29),22,"ref.go:162",#[⟨10,.data⟩,⟨3,.guard⟩],some (3,true)⟩
abbrev zuk:Oper:=⟨some 31,.move (.tmp 1),3,"ref.go:162",#[⟨3,.guard⟩],some (3,true)⟩
abbrev ztz:Oper:=⟨some 32,.indexAddr 22 (.tmp 30) (.tmp 31),0,"ref.go:162",#[⟨11,.data⟩,⟨12,.data⟩,⟨3,.guard⟩],some (3,true)⟩
abbrev zuD:Oper:=⟨some 33,.fieldAddr 44 (.tmp 32) 0,0,"ref.go:162",#[⟨13,.data⟩,⟨3,.guard⟩],some (3,true)⟩
abbrev zuH:Oper:=⟨some 34,.load 9 (.tmp 33),9,"ref.go:162",#[⟨14,.data⟩,⟨3,.guard⟩],some (3,true)⟩
abbrev zt5:Oper:=⟨some 35,.binOp .eql 9 (.tmp 28) (.tmp 34) 9,4,"ref.go:162",#[⟨9,.data⟩,⟨15,.data⟩,⟨3,.guard⟩],some (3,true)⟩
abbrev zuF:Oper:=⟨some 36,.pick (.tmp 22) (.tmp 35) (.const (.bool false)),4,"ref.go:162",#[⟨3,.data⟩,⟨16,.data⟩],none⟩
abbrev znv:Oper:=⟨some 84,.fieldAddr 26 (.tmp 2) 2,0,"ref.go:177",#[],none⟩
abbrev znU:Oper:=⟨some 85,.load 24 (.tmp 84),24,"ref.go:177",#[⟨0,.data⟩],none⟩
abbrev zod:Oper:=⟨some 86,.move (.tmp 9),40,"ref.go:177",#[],none⟩
abbrev zoz:Oper:=⟨some 87,.move (.tmp 10),3,"ref.go:177",#[],none⟩
abbrev zom:Oper:=⟨some 88,.indexAddr 40 (.tmp 86) (.tmp 87),0,"ref.go:177",#[⟨2,.data⟩,⟨3,.data⟩],none⟩
abbrev zpJ:Oper:=⟨some 89,.load 3 (.tmp 88),3,"ref.go:177",#[⟨4,.data⟩],none⟩
abbrev zok:Oper:=⟨some 90,.indexAddr 24 (.tmp 85) (.tmp 89),0,"ref.go:177",#[⟨1,.data⟩,⟨5,.data⟩],none⟩
abbrev zon:Oper:=⟨some 91,.fieldAddr 51 (.tmp 90) 0,0,"ref.go:177",#[⟨6,.data⟩],none⟩
abbrev znF:Oper:=⟨some 92,.load 9 (.tmp 91),9,"ref.go:177",#[⟨7,.data⟩],none⟩
abbrev zoA:Oper:=⟨some 93,.fieldAddr 26 (.tmp 2) 2,0,"ref.go:177",#[],none⟩
abbrev zkR:Oper:=⟨some 94,.load 24 (.tmp 93),24,"ref.go:177",#[⟨9,.data⟩],none⟩
abbrev zjv:Oper:=⟨some 95,.move (.tmp 9),40,"ref.go:177",#[],none⟩
abbrev zjc:Oper:=⟨some 96,.move (.tmp 11),3,"ref.go:177",#[],none⟩
abbrev zji:Oper:=⟨some 97,.indexAddr 40 (.tmp 95) (.tmp 96),0,"ref.go:177",#[⟨11,.data⟩,⟨12,.data⟩],none⟩
abbrev zjU:Oper:=⟨some 98,.load 3 (.tmp 97),3,"ref.go:177",#[⟨13,.data⟩],none⟩
abbrev zle:Oper:=⟨some 99,.indexAddr 24 (.tmp 94) (.tmp 98),0,"ref.go:177",#[⟨10,.data⟩,⟨14,.data⟩],none⟩
abbrev zld:Oper:=⟨some 100,.fieldAddr 51 (.tmp 99) 0,0,"ref.go:177",#[⟨15,.data⟩],none⟩
abbrev zk0:Oper:=⟨some 101,.load 9 (.tmp 100),9,"ref.go:177",#[⟨16,.data⟩],none⟩
abbrev zkp:Oper:=⟨some 102,.binOp .eql 9 (.tmp 92) (.tmp 101) 9,4,"ref.go:177",#[⟨8,.data⟩,⟨17,.data⟩],none⟩
abbrev zk4:Oper:=⟨some 103,.move (.tmp 102),4,"ref.go:177",#[⟨18,.data⟩],none⟩
abbrev zjT:Oper:=⟨some 104,.fieldAddr 26 (.tmp 2) 2,0,"ref.go:177",#[⟨19,.guard⟩],some (19,true)⟩
abbrev zjB:Oper:=⟨some 105,.load 24 (.tmp 104),24,"ref.go:177",#[⟨20,.data⟩,⟨19,.guard⟩],some (19,true)⟩
abbrev zkO:Oper:=⟨some 106,.move (.tmp 9),40,"ref.go:177",#[⟨19,.guard⟩],some (19,true)⟩
abbrev zjh:Oper:=⟨some 107,.move (.tmp 10),3,"ref.go:177",#[⟨19,.guard⟩],some (19,true)⟩
abbrev zjx:Oper:=⟨some 108,.indexAddr 40 (.tmp 106) (.tmp 107),0,"ref.go:177",#[⟨22,.data⟩,⟨23,.data⟩,⟨19,.guard⟩],some (19,true)⟩
abbrev zjs:Oper:=⟨some 109,.load 3 (.tmp 108),3,"ref.go:177",#[⟨24,.data⟩,⟨19,.guard⟩],some (19,true)⟩
abbrev zki:Oper:=⟨some 110,.indexAddr 24 (.tmp 105) (.tmp 109),0,"ref.go:177",#[⟨21,.data⟩,⟨25,.data⟩,⟨19,.guard⟩],some (19,true)⟩
abbrev zjb:Oper:=⟨some 111,.load 51 (.tmp 110),51,"ref.go:177",#[⟨26,.data⟩,⟨19,.guard⟩],some (19,true)⟩
abbrev zkh:Oper:=⟨some 112,.fieldAddr 26 (.tmp 2) 2,0,"ref.go:177",#[⟨19,.guard⟩],some (19,true)⟩
abbrev zk3:Oper:=⟨some 113,.load 24 (.tmp 112),24,"ref.go:177",#[⟨28,.data⟩,⟨19,.guard⟩],some (19,true)⟩
abbrev zkl:Oper:=⟨some 114,.move (.tmp 9),40,"ref.go:177",#[⟨19,.guard⟩],some (19,true)⟩
abbrev zjy:Oper:=⟨some 115,.move (.tmp 11),3,"ref.go:177",#[⟨19,.guard⟩],some (19,true)⟩
abbrev zkg:Oper:=⟨some 116,.indexAddr 40 (.tmp 114) (.tmp 115),0,"ref.go:177",#[⟨30,.data⟩,⟨31,.data⟩,⟨19,.guard⟩],some (19,true)⟩
abbrev zk9:Oper:=⟨some 117,.load 3 (.tmp 116),3,"ref.go:177",#[⟨32,.data⟩,⟨19,.guard⟩],some (19,true)⟩
abbrev zkL:Oper:=⟨some 118,.indexAddr 24 (.tmp 113) (.tmp 117),0,"ref.go:177",#[⟨29,.data⟩,⟨33,.data⟩,⟨19,.guard⟩],some (19,true)⟩
abbrev zkV:Oper:=⟨some 119,.load 51 (.tmp 118),51,"ref.go:177",#[⟨34,.data⟩,⟨19,.guard⟩],some (19,true)⟩
abbrev zkI:Oper:=⟨some 120,.call ⟨.value (.func 98),#[.tmp 111,.tmp 119],#[51,51]⟩,4,"ref.go:177",#[⟨27,.data⟩,⟨35,.data⟩,⟨19,.chain⟩,⟨19,.guard⟩],some (19,true)⟩
abbrev zkK:Oper:=⟨some 121,.pick (.tmp 103) (.tmp 120) (.const (.bool false)),4,"ref.go:177",#[⟨19,.data⟩,⟨36,.data⟩],none⟩
theorem zcu (s t:ByteArray):(s.toList==t.toList)=decide (s=t):=by
 rw[zuo,Bool.eq_iff_iff,decide_eq_true_iff,decide_eq_true_iff];constructor
 ·intro h;cases s;cases t;simp only[ByteArray.mk.injEq];exact Array.toList_inj.1 h
 ·rintro rfl;rfl
def PrOk (ap:Int->Int->Bool) (l:List Int) (i:Nat):Prop:=∀ k (h:k<l.length),k<i->(l.take k).all (ap l[k])=true
theorem PrOk.zero (ap:Int->Int->Bool) (l:List Int):PrOk ap l 0:=λk h hk=>absurd hk (by omega)
theorem PrOk.step {ap:Int->Int->Bool} {l:List Int} {i:Nat} (h:PrOk ap l i) (hi:i<l.length) (h1:(l.take i).all (ap l[i])=true):PrOk ap l (i+1):=λk hk hlt=>by
 by_cases e:k=i
 ·subst e;exact h1
 ·exact h k hk (by omega)
theorem PrOk.all {ap:Int->Int->Bool} {l:List Int} {i:Nat} (h:PrOk ap l i) (hi:¬ i<l.length):zcE ap l=true:=zdu.2 λk hk=>h k hk (by omega)
theorem PrOk.no {ap:Int->Int->Bool} {l:List Int} {i k:Nat} (hi:i<l.length) (hk:k<i) (h:ap l[i] l[k]=false):zcE ap l=false:=by
 cases hc:zcE ap l with
 | false=>rfl
 | true =>
  have:=zdu.1 hc i hi;have h2:=List.all_eq_true.1 this l[k] (by rw[List.mem_take_iff_getElem];exact⟨k,by omega,rfl⟩)
  rw[h]at h2;cases h2
theorem zdl {ap:Int->Bool} {l:List Int} {k:Nat} (hk:k<l.length) (h:(l.take k).all ap=true) (hx:ap l[k]=true):(l.take (k+1)).all ap=true:=by
 rw[List.take_succ_eq_append_getElem hk,List.all_append,h];simpa using hx
def zs9 (g:Img) (q i:Nat) (nm:ByteArray):Prop:=∀ k (h:k<g.ts.length),k<i->k=q∨g.ts[k].nm≠nm
theorem zkF {g:Img} {q:Nat} (hq:q<g.ts.length):zjF g (q:Int)=true↔zs9 g q g.ts.length g.ts[q].nm:=by
 unfold zjF;rw[Int.toNat_natCast,List.getElem?_eq_getElem hq];simp only[List.all_eq_true,List.mem_range,Bool.or_eq_true,decide_eq_true_iff];constructor
 ·intro h k hk _
  rcases h k hk with h | h
  ·exact Or.inl (by omega)
  ·rw[List.getElem?_eq_getElem hk]at h;exact Or.inr (by simpa using h)
 ·intro h k hk
  rcases h k hk hk with h | h
  ·exact Or.inl (by omega)
  ·right;rw[List.getElem?_eq_getElem hk];simpa using h
theorem zsi {g:Img} {q k:Nat} (hq:q<g.ts.length) (hk:k<g.ts.length) (hne:k≠q) (h:g.ts[k].nm=g.ts[q].nm):zjF g (q:Int)=false:=by
 cases hc:zjF g (q:Int) with
 | false=>rfl
 | true =>
  rcases (zkF hq).1 hc k hk hk with e | e
  ·exact absurd e hne
  ·exact absurd h e
theorem zmm {g:Img} {k:Nat} (h:k<g.fs.length):fnI g (k:Int)=g.fs[k].nm:=by unfold fnI;rw[Int.toNat_natCast,List.getElem?_eq_getElem h]
theorem zgh {g:Img} {a b:Nat} (ha:a<g.ms.length) (hb:b<g.ms.length):smI g (a:Int) (b:Int)=smM g.ms[a] g.ms[b]:=by unfold smI;rw[Int.toNat_natCast,Int.toNat_natCast,List.getElem?_eq_getElem ha,List.getElem?_eq_getElem hb]
set_option maxRecDepth 100000 in
theorem zfB {g:Img} {q:Nat} {w:World} (hg:Im w g) (hi:imB g=true) (hq:q<g.ts.length) :
 Calls Tryz.prog 139 #[imV g,.int .i64 q] w λe w'=>e=.returned (.bool (zfc g (q:Int)))/\Below w.heap.size w w':=by
 obtain⟨w0,hw0⟩:∃ W,W=w.alloc (.cells (imC g) 26):=⟨_,rfl⟩;have HW0:Hid (w0=_):=hw0;obtain⟨hb0,hgb⟩:=GB.made hg hw0;have HB0:Hid (Below w.heap.size w w0):=hb0;have HG:Hid (GB w0 w.heap.size g):=hgb;have HI:Hid (imB g=true):=hi;have HFlM:Hid (∀ x∈g.ms,0<=x.fl):=λx hx=>by
  unfold imB at hi;simp only[Bool.and_eq_true]at hi;have:=List.all_eq_true.1 hi.1.2.1 x hx;unfold mdB zb7 at this;simp only[Bool.and_eq_true,decide_eq_true_iff]at this;omega
 have hln:=zax hi;have HC4:Hid (∀ W,Below w0.heap.size w0 W->W.cell? ⟨w.heap.size,0,none⟩=some (.slice g.ta g.ts.length g.tc)/\W.cell? ⟨w.heap.size,1,none⟩=some (.slice g.fa g.fs.length g.fc)/\W.cell? ⟨w.heap.size,2,none⟩=some (.slice g.ma g.ms.length g.mc)/\W.cell? ⟨w.heap.size,3,none⟩=some (.int .i64 g.en)):=λW hW=>(hgb.later hW).cells
 have HFl:Hid (∀ W,Below w0.heap.size w0 W->Calls Tryz.prog 181 #[.agg (imC g),.int .i64 q] W λe w'=>∃ v,e=.returned v/\OwnI w' W.heap.size v (zbg g (q:Int))/\Below W.heap.size W w'):=λW hW=>zcc (HG.out.im.later hW) HI.out
 have HMt:Hid (∀ W,Below w0.heap.size w0 W->Calls Tryz.prog 25 #[.agg (imC g),.int .i64 q] W λe w'=>∃ v,e=.returned v/\OwnI w' W.heap.size v (zat g (q:Int))/\Below W.heap.size W w'):=λW hW=>zaU (HG.out.im.later hW) HI.out
 have HR:Hid (zfc g (q:Int)=(zjF g (q:Int)&&zcE (λa b=>decide (fnI g a≠fnI g b)) (zbg g (q:Int))&&zcE (λa b=>!smI g a b) (zat g (q:Int)))):=rfl
 unfold imC at HW0 HFl HMt;clear hw0 hb0 hgb hg hi;unfold imV;go_enter Tryz.func139,Tryz.ntmps139;go_wp2_with (rw[<- HW0.out])
 go_loopw [5] (λz wr=>∃ i:Nat,i<=g.ts.length/\z=.int .i64 i/\Hid (Below w0.heap.size w0 wr)/\Hid (zs9 g q i g.ts[q].nm)) (λz _=>g.ts.length - (intOf z).toNat)
 case atStart=>exact⟨0,Nat.zero_le _,rfl,Below.refl _ _,λk _ h=>absurd h (by omega)⟩
 case round =>
  obtain⟨i,hi2,rfl,HB,HT⟩:=hrel;by_cases hil:i<g.ts.length
  ·have hii:(i:Int)<(g.ts.length:Int):=by omega
   have hqi:(q:Int)<(g.ts.length:Int):=by omega
   obtain⟨tb,off,hta,h8,h9,hty⟩:=HG.out.ty (by intro e;rw[e]at hq;simp at hq)
   obtain⟨c0,hd⟩:=hty wr HB.out;obtain⟨k0,_,_,_⟩:=hd i hil;obtain⟨j0,_,_,_⟩:=hd q hq;unfold maxLen at h9;clear hd hty hta;by_cases hiq:i=q
   ·have hne:((i:Int) != (q:Int))=false:=by simp;omega
    have HT2:Hid (zs9 g q (i+1) g.ts[q].nm):=λk hk hlt=>by
     by_cases e:k=i
     ·exact Or.inl (by omega)
     ·exact HT.out k hk (by omega)
    clear hiq j0;go_wp2_with fail
    refine wp_region_held_drew (S:=(λW=>True)) (by kernel_rfl) (trivial) (λyb=>?_)
    refine tY 0 zwe (.int .i64 i) yb ?_;refine tY 1 zxj (.int .i64 q) yb ?_;refine tY 2 zw3 (.bool false) yb ?_;refine tY 3 zvY (.bool false) yb ?_;refine tN 4 zwR yb ?_;refine tN 5 zv2 yb ?_;refine tN 6 zw4 yb ?_;refine tN 7 zwm yb ?_;refine tN 8 zwC yb ?_;refine tN 9 zv1 yb ?_;refine tN 10 zuC yb ?_;refine tN 11 ztZ yb ?_;refine tN 12 zuk yb ?_;refine tN 13 ztz yb ?_;refine tN 14 zuD yb ?_;refine tN 15 zuH yb ?_;refine tN 16 zt5 yb ?_;refine tY 17 zuF (.bool false) yb ?_;refine wpAnyH_done (by kernel_rfl) ?_ _
    go_wp2_with fail
    go_roundw
    case rel=>exact⟨i+1,by omega,by go_num,Below.drewN HB.out 1,HT2.out⟩
    case measure=>simp[intOf];omega
   ·have hne:((i:Int) != (q:Int))=true:=by simp;omega
    have HNo:Hid (g.ts[i].nm=g.ts[q].nm->zjF g (q:Int)=false):=λh=>zsi hq hil hiq h
    have HYs:Hid (g.ts[i].nm≠g.ts[q].nm->zs9 g q (i+1) g.ts[q].nm):=λh k hk hlt=>by
     by_cases e:k=i
     ·subst e;exact Or.inr h
     ·exact HT.out k hk (by omega)
    have hstr:=zcu g.ts[i].nm g.ts[q].nm;by_cases hnm:g.ts[i].nm=g.ts[q].nm
    ·have HBad:Hid (zjF g (q:Int)=false):=HNo.out hnm;rw[decide_eq_true hnm]at hstr;clear hnm HNo HYs;generalize g.ts[i].nm=n1 at *;generalize g.ts[q].nm=n2 at *;go_wp2_with fail
     go_quiet (fail)
     go_wp2_with fail
     go_ret;exact⟨zab (by rw[HR.out,HBad.out];rfl),zaa HB0.out (Below.drewN HB.out _)⟩
    ·have HT2:Hid _:=HYs.out hnm;rw[decide_eq_false hnm]at hstr;clear HNo HYs hnm;generalize g.ts[i].nm=n1 at *;generalize g.ts[q].nm=n2 at *;go_wp2_with fail
     go_quiet (fail)
     go_wp2_with fail
     go_roundw
     case rel=>exact⟨i+1,by omega,by go_num,Below.drewN HB.out _,HT2.out⟩
     case measure=>simp[intOf];omega
  ·have hii:¬ (i:Int)<(g.ts.length:Int):=by omega
   have HTn:Hid (zjF g (q:Int)=true):=(zkF hq).2 (λk hk _=>HT.out k hk (by omega))
   have HR1:Hid (zfc g (q:Int)=(zcE (λa b=>decide (fnI g a≠fnI g b)) (zbg g (q:Int))&&zcE (λa b=>!smI g a b) (zat g (q:Int)))):=by show _=_;rw[HR.out,HTn.out];rfl
   obtain⟨c0,c1,c2,c3⟩:=HC4.out wr HB.out;clear HT;go_wp2_with fail
   refine Calls.mono (HFl.out wr HB.out) ?_;rintro e w1 ⟨fv,rfl,hf,hb1⟩;have HB1:Hid (Below w0.heap.size w0 w1):=zaa HB.out hb1;obtain⟨L,hL⟩:∃ X,X=zbg g (q:Int):=⟨_,rfl⟩;have HLE:Hid (L=zbg g (q:Int)):=hL;rw[<- hL]at hf;have hll:=zcA g (q:Int);rw[<- hL]at hll;obtain⟨la,lc,hfv,_,hlc⟩:=(show Is w1 fv L from hf.is).shape
   subst hfv;have HOL:=LiF.of hf;obtain⟨len9,h99⟩:∃ n,n=L.length:=⟨_,rfl⟩;rw[<- h99]at HOL;have HGl:Hid (∀ {i:Nat},i<L.length->∃ b,la=some ⟨b,0,none⟩):=HOL.out.at0;have HOL:Hid (LiF w1 la len9 lc L):=HOL;rw[<- h99];clear hf hb1 c0 c1 c2 c3 hL;go_wp2_with fail
   go_loopw [7,8] (λz _ wr=>∃ i:Nat,i<=L.length/\z=.int .i64 i/\Hid (Below w1.heap.size w1 wr)/\Hid (PrOk (λa b=>decide (fnI g a≠fnI g b)) L i)) (λz _ _=>L.length - (intOf z).toNat)
   case atStart=>exact⟨0,Nat.zero_le _,rfl,Below.refl _ _,PrOk.zero _ _⟩
   case round =>
    obtain⟨i,hi2,rfl,HBo,HP⟩:=hrel;have HBof:Hid (Below w1.heap.size w1 wr):=HBo;by_cases hil:i<L.length
    ·have hii:(i:Int)<(len9:Int):=by omega
     go_wp2_with fail
     go_loopw [8] (λz wr=>∃ k:Nat,k<=i/\z=.int .i64 k/\Hid (Below w1.heap.size w1 wr)/\Hid ((L.take k).all ((λa b=>decide (fnI g a≠fnI g b)) L[i])=true)) (λz _=>i - (intOf z).toNat)
     case atStart=>exact⟨0,Nat.zero_le _,rfl,HBo.out,by show _=_;simp⟩
     case round =>
      clear HBo HBof;obtain⟨k,hk2,rfl,HBi,HA⟩:=hrel;by_cases hki:k<i
      ·have hkl:k<L.length:=by omega
       have hkii:(k:Int)<(i:Int):=by omega
       have hkii2:(k:Int)<(len9:Int):=by omega
       obtain⟨A,hA,hAl⟩:=zby (show L[i]∈zbg g (q:Int) by rw[<- HLE.out];exact List.getElem_mem hil)
       obtain⟨B,hB,hBl⟩:=zby (show L[k]∈zbg g (q:Int) by rw[<- HLE.out];exact List.getElem_mem hkl)
       have hAi:(A:Int)<(g.fs.length:Int):=by omega
       have hBi:(B:Int)<(g.fs.length:Int):=by omega
       have HAp:Hid ((λa b=>decide (fnI g a≠fnI g b)) L[i] L[k]=decide (g.fs[A].nm≠g.fs[B].nm)):=by show _=_;simp only[hA,hB,zmm hAl,zmm hBl]
       have HNo:Hid ((λa b=>decide (fnI g a≠fnI g b)) L[i] L[k]=false->zcE (λa b=>decide (fnI g a≠fnI g b)) L=false):=λh=>PrOk.no hil hki h
       have HYs:Hid ((λa b=>decide (fnI g a≠fnI g b)) L[i] L[k]=true->(L.take (k+1)).all ((λa b=>decide (fnI g a≠fnI g b)) L[i])=true):=λh=>zdl hkl HA.out h
       rw[HAp.out]at HNo HYs;obtain⟨gl,goff,hgl,hgb,_,h6,h7,hc⟩:=(show Is wr (.slice la len9 lc) L from Sl.later HOL.out.is HBi.out).at hil
       obtain⟨gl',hg0⟩:=HGl.out hil;have hgo:gl'=gl/\0=goff:=by rw[hgl]at hg0;simpa[eq_comm]using hg0
       obtain⟨rfl,rfl⟩:=hgo;have cA:=hc i hil;have cB:=hc k hkl;rw[hA]at cA;rw[hB]at cB;rw[Nat.zero_add]at cA cB;obtain⟨tb,off,hta,h8,h9,hty⟩:=HG.out.fd (by intro e;rw[e]at hAl;simp at hAl)
       obtain⟨c1,hd⟩:=hty wr (zaa HB1.out HBi.out);have eA:=(hd A hAl).cells_F;have eB:=(hd B hBl).cells_F;have hstr:=zcu g.fs[A].nm g.fs[B].nm;have nA:=eA.1;have nB:=eB.1;unfold maxLen at h7 h9;subst hgl;clear hc hA hB HAp hty hd eA eB hg0 hta;by_cases hnm:g.fs[A].nm=g.fs[B].nm
       ·have HBad:Hid (zcE (λa b=>decide (fnI g a≠fnI g b)) L=false):=HNo.out (by simpa using hnm)
        rw[decide_eq_true hnm]at hstr;clear hnm HNo HYs;generalize g.fs[A].nm=n1 at *;generalize g.fs[B].nm=n2 at *;go_wp2_with fail
        go_quiet (fail)
        go_wp2_with fail
        go_ret;exact⟨zab (by rw[HR1.out,<- HLE.out,HBad.out];simp),zaa HB0.out (Below.drewN (zaa HB1.out HBi.out) _)⟩
       ·have HA2:Hid _:=HYs.out (by simpa using hnm)
        rw[decide_eq_false hnm]at hstr;clear hnm HNo HYs;generalize g.fs[A].nm=n1 at *;generalize g.fs[B].nm=n2 at *;go_wp2_with fail
        go_quiet (fail)
        go_wp2_with fail
        go_roundw
        case rel=>exact⟨k+1,by omega,by go_num,Below.drewN HBi.out _,HA2.out⟩
        case measure=>simp[intOf];omega
      ·have hkii:¬ (k:Int)<(i:Int):=by omega
       have HPn:Hid (PrOk (λa b=>decide (fnI g a≠fnI g b)) L (i+1)):=HP.out.step hil (by have:=HA.out;rwa [show k=i by omega]at this)
       go_wp2_with fail
       go_roundw
       case rel=>exact⟨i+1,by omega,by go_num,HBi.out,HPn.out⟩
       case measure=>simp[intOf];omega
    ·have hii:¬ (i:Int)<(len9:Int):=by omega
     have HDf:Hid (zcE (λa b=>decide (fnI g a≠fnI g b)) (zbg g (q:Int))=true):=by show _=_;rw[<- HLE.out];exact HP.out.all hil
     have HBe:Hid (Below w0.heap.size w0 wr):=zaa HB1.out HBo.out;clear HBo HP HBof;have HR2:Hid (zfc g (q:Int)=zcE (λa b=>!smI g a b) (zat g (q:Int))):=by show _=_;rw[HR1.out,HDf.out];rfl
     obtain⟨c0,c1,c2,c3⟩:=HC4.out wr HBe.out;clear HDf HGl HOL HLE;go_wp2_with fail
     refine Calls.mono (HMt.out wr HBe.out) ?_;rintro e w2 ⟨mv,rfl,hm,hb2⟩;have HB2:Hid (Below w0.heap.size w0 w2):=zaa HBe.out hb2;obtain⟨L,hL⟩:∃ X,X=zat g (q:Int):=⟨_,rfl⟩;have HLE:Hid (L=zat g (q:Int)):=hL;rw[<- hL]at hm;have hll:=zq9 g (q:Int);rw[<- hL]at hll;obtain⟨la,lc,hmv,_,hlc⟩:=(show Is w2 mv L from hm.is).shape
     subst hmv;have HOL:=LiF.of hm;obtain⟨len9,h99⟩:∃ n,n=L.length:=⟨_,rfl⟩;rw[<- h99]at HOL;have HGl:Hid (∀ {i:Nat},i<L.length->∃ b,la=some ⟨b,0,none⟩):=HOL.out.at0;have HOL:Hid (LiF w2 la len9 lc L):=HOL;rw[<- h99];clear hm hb2 c0 c1 c2 c3 hL;go_wp2_with fail
     go_loopw [10,11] (λz _ wr=>∃ i:Nat,i<=L.length/\z=.int .i64 i/\Hid (Below w2.heap.size w2 wr)/\Hid (PrOk (λa b=>!smI g a b) L i)) (λz _ _=>L.length - (intOf z).toNat)
     case atStart=>exact⟨0,Nat.zero_le _,rfl,Below.refl _ _,PrOk.zero _ _⟩
     case round =>
      obtain⟨i,hi2,rfl,HBo,HP⟩:=hrel;have HBof:Hid (Below w2.heap.size w2 wr):=HBo;by_cases hil:i<L.length
      ·have hii:(i:Int)<(len9:Int):=by omega
       go_wp2_with fail
       go_loopw [11] (λz wr=>∃ k:Nat,k<=i/\z=.int .i64 k/\Hid (Below w2.heap.size w2 wr)/\Hid ((L.take k).all ((λa b=>!smI g a b) L[i])=true)) (λz _=>i - (intOf z).toNat)
       case atStart=>exact⟨0,Nat.zero_le _,rfl,HBo.out,by show _=_;simp⟩
       case round =>
        clear HBo HBof;obtain⟨k,hk2,rfl,HBi,HA⟩:=hrel;by_cases hki:k<i
        ·have hkl:k<L.length:=by omega
         have hkii:(k:Int)<(i:Int):=by omega
         have hkii2:(k:Int)<(len9:Int):=by omega
         obtain⟨A,hA,hAl⟩:=zey (show L[i]∈zat g (q:Int) by rw[<- HLE.out];exact List.getElem_mem hil)
         obtain⟨B,hB,hBl⟩:=zey (show L[k]∈zat g (q:Int) by rw[<- HLE.out];exact List.getElem_mem hkl)
         have hAi:(A:Int)<(g.ms.length:Int):=by omega
         have hBi:(B:Int)<(g.ms.length:Int):=by omega
         have HAp:Hid ((λa b=>!smI g a b) L[i] L[k]=!smM g.ms[A] g.ms[B]):=by show _=_;simp only[hA,hB,zgh hAl hBl]
         have HNo:Hid ((λa b=>!smI g a b) L[i] L[k]=false->zcE (λa b=>!smI g a b) L=false):=λh=>PrOk.no hil hki h
         have HYs:Hid ((λa b=>!smI g a b) L[i] L[k]=true->(L.take (k+1)).all ((λa b=>!smI g a b) L[i])=true):=λh=>zdl hkl HA.out h
         rw[HAp.out]at HNo HYs;obtain⟨gl,goff,hgl,hgb,_,h6,h7,hc⟩:=(show Is wr (.slice la len9 lc) L from Sl.later HOL.out.is HBi.out).at hil
         obtain⟨gl',hg0⟩:=HGl.out hil;have hgo:gl'=gl/\0=goff:=by rw[hgl]at hg0;simpa[eq_comm]using hg0
         obtain⟨rfl,rfl⟩:=hgo;have cA:=hc i hil;have cB:=hc k hkl;rw[hA]at cA;rw[hB]at cB;rw[Nat.zero_add]at cA cB;obtain⟨tb,off,hta,h8,h9,hty⟩:=HG.out.md (by intro e;rw[e]at hAl;simp at hAl)
         obtain⟨c1,hd⟩:=hty wr (zaa HB2.out HBi.out);have eA:=(hd A hAl).cells_M;have eB:=(hd B hBl).cells_M;have hAm:=List.getElem_mem hAl;have hBm:=List.getElem_mem hBl;have hstr:=zcu g.ms[A].nm g.ms[B].nm;have hgw:∀ x∈g.ms,x.ok wr:=λx hx=>(HG.out.im.mok x hx).later (zaa HB2.out HBi.out)
         have HSS:Hid (∀ W,Below wr.heap.size wr W->Calls Tryz.prog 98 #[mdV g.ms[A],mdV g.ms[B]] W λe w'=>e=.returned (.bool (sgM g.ms[A] g.ms[B]))/\Below W.heap.size W w'):=λW hW=>zcU ((hgw _ hAm).later hW) ((hgw _ hBm).later hW) (HFlM.out _ hAm) (HFlM.out _ hBm)
         have HKM:Hid (∀ W,Below wr.heap.size wr W->W.cell? ⟨w.heap.size,2,none⟩=some (.slice (some ⟨tb,off,none⟩) g.ms.length g.mc)/\W.cell? ⟨gl',i,none⟩=some (.int .i64 A)/\W.cell? ⟨gl',k,none⟩=some (.int .i64 B)/\W.cell? ⟨tb,off+A * 12,none⟩=some (.string g.ms[A].nm)/\W.cell? ⟨tb,off+A * 12+1,none⟩=some (.int .i64 g.ms[A].ow)/\W.cell? ⟨tb,off+A * 12+2,none⟩=some (.int .i64 g.ms[A].fl)/\W.cell? ⟨tb,off+A * 12+3,none⟩=some (.slice g.ms[A].pa g.ms[A].ps.length g.ms[A].pc)/\W.cell? ⟨tb,off+A * 12+4,none⟩=some (.int .i64 g.ms[A].rt.1)/\W.cell? ⟨tb,off+A * 12+5,none⟩=some (.int .i64 g.ms[A].rt.2.1)/\W.cell? ⟨tb,off+A * 12+6,none⟩=some (.int .i64 g.ms[A].rt.2.2.1)/\W.cell? ⟨tb,off+A * 12+7,none⟩=some (.bool g.ms[A].rt.2.2.2)/\W.cell? ⟨tb,off+A * 12+8,none⟩=some (.slice g.ms[A].la g.ms[A].ls.length g.ms[A].lc)/\W.cell? ⟨tb,off+A * 12+9,none⟩=some (.int .i64 g.ms[A].mx)/\W.cell? ⟨tb,off+A * 12+10,none⟩=some (.slice g.ms[A].ca g.ms[A].co.length g.ms[A].cc)/\W.cell? ⟨tb,off+A * 12+11,none⟩=some (.slice g.ms[A].ka g.ms[A].cl.length g.ms[A].kc)/\W.cell? ⟨tb,off+B * 12,none⟩=some (.string g.ms[B].nm)/\W.cell? ⟨tb,off+B * 12+1,none⟩=some (.int .i64 g.ms[B].ow)/\W.cell? ⟨tb,off+B * 12+2,none⟩=some (.int .i64 g.ms[B].fl)/\W.cell? ⟨tb,off+B * 12+3,none⟩=some (.slice g.ms[B].pa g.ms[B].ps.length g.ms[B].pc)/\W.cell? ⟨tb,off+B * 12+4,none⟩=some (.int .i64 g.ms[B].rt.1)/\W.cell? ⟨tb,off+B * 12+5,none⟩=some (.int .i64 g.ms[B].rt.2.1)/\W.cell? ⟨tb,off+B * 12+6,none⟩=some (.int .i64 g.ms[B].rt.2.2.1)/\W.cell? ⟨tb,off+B * 12+7,none⟩=some (.bool g.ms[B].rt.2.2.2)/\W.cell? ⟨tb,off+B * 12+8,none⟩=some (.slice g.ms[B].la g.ms[B].ls.length g.ms[B].lc)/\W.cell? ⟨tb,off+B * 12+9,none⟩=some (.int .i64 g.ms[B].mx)/\W.cell? ⟨tb,off+B * 12+10,none⟩=some (.slice g.ms[B].ca g.ms[B].co.length g.ms[B].cc)/\W.cell? ⟨tb,off+B * 12+11,none⟩=some (.slice g.ms[B].ka g.ms[B].cl.length g.ms[B].kc)):=λW hW=>by
          have hz:=hty W (zaa HB2.out (zaa HBi.out hW));have h1:W.cell? ⟨gl',i,none⟩=some (.int .i64 A):=by rw[<- cA];exact hW.cell (p:=⟨gl',i,none⟩) hgb
          have h2:W.cell? ⟨gl',k,none⟩=some (.int .i64 B):=by rw[<- cB];exact hW.cell (p:=⟨gl',k,none⟩) hgb
          have zA:=(hz.2 A hAl).cells_M;obtain⟨a0,a1,a2,a3,a4,a5,a6,a7,a8,a9,a10,a11⟩:=zA;exact⟨hz.1,h1,h2,a0,a1,a2,a3,a4,a5,a6,a7,a8,a9,a10,a11,(hz.2 B hBl).cells_M⟩
         have HSm:=zsk g.ms[A] g.ms[B];have HSe:Hid (smM g.ms[A] g.ms[B]=_):=HSm;unfold maxLen at h7 h9;subst hgl;clear hc hA hB HAp hty hd hg0 hta hAm hBm hgw HSm eA eB c1 cA cB;generalize g.ms[A]=x at *;generalize g.ms[B]=y at *;unfold mdV at HSS;obtain⟨sv,hsv⟩:∃ b,b=sgM x y:=⟨_,rfl⟩;rw[<- hsv]at HSe HSS;clear hsv;by_cases hnm:x.nm=y.nm
         ·rw[decide_eq_true hnm]at hstr;have HSe2:Hid (smM x y=sv):=by show _=_;rw[HSe.out,decide_eq_true hnm];rfl
          clear hnm HSe
          cases sv with
          | true =>
           have HBad:Hid (zcE (λa b=>!smI g a b) L=false):=HNo.out (by rw[HSe2.out];rfl)
           clear HNo HYs;go_wp2_with fail
           refine wp_region_held_drew (S:=(λW=>W.cell? ⟨w.heap.size,2,none⟩=some (.slice (some ⟨tb,off,none⟩) g.ms.length g.mc)/\W.cell? ⟨gl',i,none⟩=some (.int .i64 A)/\W.cell? ⟨gl',k,none⟩=some (.int .i64 B)/\W.cell? ⟨tb,off+A * 12,none⟩=some (.string x.nm)/\W.cell? ⟨tb,off+A * 12+1,none⟩=some (.int .i64 x.ow)/\W.cell? ⟨tb,off+A * 12+2,none⟩=some (.int .i64 x.fl)/\W.cell? ⟨tb,off+A * 12+3,none⟩=some (.slice x.pa x.ps.length x.pc)/\W.cell? ⟨tb,off+A * 12+4,none⟩=some (.int .i64 x.rt.1)/\W.cell? ⟨tb,off+A * 12+5,none⟩=some (.int .i64 x.rt.2.1)/\W.cell? ⟨tb,off+A * 12+6,none⟩=some (.int .i64 x.rt.2.2.1)/\W.cell? ⟨tb,off+A * 12+7,none⟩=some (.bool x.rt.2.2.2)/\W.cell? ⟨tb,off+A * 12+8,none⟩=some (.slice x.la x.ls.length x.lc)/\W.cell? ⟨tb,off+A * 12+9,none⟩=some (.int .i64 x.mx)/\W.cell? ⟨tb,off+A * 12+10,none⟩=some (.slice x.ca x.co.length x.cc)/\W.cell? ⟨tb,off+A * 12+11,none⟩=some (.slice x.ka x.cl.length x.kc)/\W.cell? ⟨tb,off+B * 12,none⟩=some (.string y.nm)/\W.cell? ⟨tb,off+B * 12+1,none⟩=some (.int .i64 y.ow)/\W.cell? ⟨tb,off+B * 12+2,none⟩=some (.int .i64 y.fl)/\W.cell? ⟨tb,off+B * 12+3,none⟩=some (.slice y.pa y.ps.length y.pc)/\W.cell? ⟨tb,off+B * 12+4,none⟩=some (.int .i64 y.rt.1)/\W.cell? ⟨tb,off+B * 12+5,none⟩=some (.int .i64 y.rt.2.1)/\W.cell? ⟨tb,off+B * 12+6,none⟩=some (.int .i64 y.rt.2.2.1)/\W.cell? ⟨tb,off+B * 12+7,none⟩=some (.bool y.rt.2.2.2)/\W.cell? ⟨tb,off+B * 12+8,none⟩=some (.slice y.la y.ls.length y.lc)/\W.cell? ⟨tb,off+B * 12+9,none⟩=some (.int .i64 y.mx)/\W.cell? ⟨tb,off+B * 12+10,none⟩=some (.slice y.ca y.co.length y.cc)/\W.cell? ⟨tb,off+B * 12+11,none⟩=some (.slice y.ka y.cl.length y.kc))) (by kernel_rfl) (HKM.out _ (zad _)) (λyb=>?_)
           refine tY 0 znv (.pointer (some ⟨w.heap.size,2,none⟩)) yb ?_;refine tY 1 znU (.slice (some ⟨tb,off,none⟩) g.ms.length g.mc) yb ?_;refine tY 2 zod (.slice (some ⟨gl',0,none⟩) len9 lc) yb ?_;refine tY 3 zoz (.int .i64 i) yb ?_;refine tY 4 zom (.pointer (some ⟨gl',i,none⟩)) yb ?_;refine tY 5 zpJ (.int .i64 A) yb ?_;refine tY 6 zok (.pointer (some ⟨tb,off+A * 12,none⟩)) yb ?_;refine tY 7 zon (.pointer (some ⟨tb,off+A * 12,none⟩)) yb ?_;refine tY 8 znF (.string x.nm) yb ?_;refine tY 9 zoA (.pointer (some ⟨w.heap.size,2,none⟩)) yb ?_;refine tY 10 zkR (.slice (some ⟨tb,off,none⟩) g.ms.length g.mc) yb ?_;refine tY 11 zjv (.slice (some ⟨gl',0,none⟩) len9 lc) yb ?_;refine tY 12 zjc (.int .i64 k) yb ?_;refine tY 13 zji (.pointer (some ⟨gl',k,none⟩)) yb ?_;refine tY 14 zjU (.int .i64 B) yb ?_;refine tY 15 zle (.pointer (some ⟨tb,off+B * 12,none⟩)) yb ?_;refine tY 16 zld (.pointer (some ⟨tb,off+B * 12,none⟩)) yb ?_;refine tY 17 zk0 (.string y.nm) yb ?_;refine tY 18 zkp (.bool true) yb ?_;refine tY 19 zk4 (.bool true) yb ?_;refine tY 20 zjT (.pointer (some ⟨w.heap.size,2,none⟩)) yb ?_;refine tY 21 zjB (.slice (some ⟨tb,off,none⟩) g.ms.length g.mc) yb ?_;refine tY 22 zkO (.slice (some ⟨gl',0,none⟩) len9 lc) yb ?_;refine tY 23 zjh (.int .i64 i) yb ?_;refine tY 24 zjx (.pointer (some ⟨gl',i,none⟩)) yb ?_;refine tY 25 zjs (.int .i64 A) yb ?_;refine tY 26 zki (.pointer (some ⟨tb,off+A * 12,none⟩)) yb ?_;refine tY 27 zjb (.agg #[.string x.nm,.int .i64 x.ow,.int .i64 x.fl,.slice x.pa x.ps.length x.pc,.int .i64 x.rt.1,.int .i64 x.rt.2.1,.int .i64 x.rt.2.2.1,.bool x.rt.2.2.2,.slice x.la x.ls.length x.lc,.int .i64 x.mx,.slice x.ca x.co.length x.cc,.slice x.ka x.cl.length x.kc]) yb ?_;refine tY 28 zkh (.pointer (some ⟨w.heap.size,2,none⟩)) yb ?_;refine tY 29 zk3 (.slice (some ⟨tb,off,none⟩) g.ms.length g.mc) yb ?_;refine tY 30 zkl (.slice (some ⟨gl',0,none⟩) len9 lc) yb ?_;refine tY 31 zjy (.int .i64 k) yb ?_;refine tY 32 zkg (.pointer (some ⟨gl',k,none⟩)) yb ?_;refine tY 33 zk9 (.int .i64 B) yb ?_;refine tY 34 zkL (.pointer (some ⟨tb,off+B * 12,none⟩)) yb ?_;refine tY 35 zkV (.agg #[.string y.nm,.int .i64 y.ow,.int .i64 y.fl,.slice y.pa y.ps.length y.pc,.int .i64 y.rt.1,.int .i64 y.rt.2.1,.int .i64 y.rt.2.2.1,.bool y.rt.2.2.2,.slice y.la y.ls.length y.lc,.int .i64 y.mx,.slice y.ca y.co.length y.cc,.slice y.ka y.cl.length y.kc]) yb ?_;refine wpAnyH_ready (rs:=[36]) (by kernel_rfl) (by simp) ?_
           refine AllReadyH.cons (o:=zkI) rfl (λK hK=>?_) AllReadyH.nil
           go_simp
           refine (HSS.out _ (zad _)).mono ?_;rintro e w3 ⟨rfl,hb3⟩;have hBc:Below wr.heap.size wr w3:=zaa (zad _) hb3
           try go_wp2_with fail
           refine hK.out _ _ (HKM.out _ hBc) (λyb=>?_)
           clear hK K
           try simp only[Act.put,sA,s0,sS]
           refine tY 37 zkK (.bool true) yb ?_;refine wpAnyH_done (by kernel_rfl) ?_ _
           have HBe:Hid (Below w0.heap.size w0 w3):=zaa (zaa HB2.out HBi.out) hBc;clear hBc hb3;go_wp2_with fail
           go_ret;exact⟨zab (by rw[HR2.out,<- HLE.out,HBad.out]),zaa HB0.out HBe.out⟩
          | false =>
           have HA2:Hid _:=HYs.out (by rw[HSe2.out];rfl)
           clear HNo HYs;go_wp2_with fail
           refine wp_region_held_drew (S:=(λW=>W.cell? ⟨w.heap.size,2,none⟩=some (.slice (some ⟨tb,off,none⟩) g.ms.length g.mc)/\W.cell? ⟨gl',i,none⟩=some (.int .i64 A)/\W.cell? ⟨gl',k,none⟩=some (.int .i64 B)/\W.cell? ⟨tb,off+A * 12,none⟩=some (.string x.nm)/\W.cell? ⟨tb,off+A * 12+1,none⟩=some (.int .i64 x.ow)/\W.cell? ⟨tb,off+A * 12+2,none⟩=some (.int .i64 x.fl)/\W.cell? ⟨tb,off+A * 12+3,none⟩=some (.slice x.pa x.ps.length x.pc)/\W.cell? ⟨tb,off+A * 12+4,none⟩=some (.int .i64 x.rt.1)/\W.cell? ⟨tb,off+A * 12+5,none⟩=some (.int .i64 x.rt.2.1)/\W.cell? ⟨tb,off+A * 12+6,none⟩=some (.int .i64 x.rt.2.2.1)/\W.cell? ⟨tb,off+A * 12+7,none⟩=some (.bool x.rt.2.2.2)/\W.cell? ⟨tb,off+A * 12+8,none⟩=some (.slice x.la x.ls.length x.lc)/\W.cell? ⟨tb,off+A * 12+9,none⟩=some (.int .i64 x.mx)/\W.cell? ⟨tb,off+A * 12+10,none⟩=some (.slice x.ca x.co.length x.cc)/\W.cell? ⟨tb,off+A * 12+11,none⟩=some (.slice x.ka x.cl.length x.kc)/\W.cell? ⟨tb,off+B * 12,none⟩=some (.string y.nm)/\W.cell? ⟨tb,off+B * 12+1,none⟩=some (.int .i64 y.ow)/\W.cell? ⟨tb,off+B * 12+2,none⟩=some (.int .i64 y.fl)/\W.cell? ⟨tb,off+B * 12+3,none⟩=some (.slice y.pa y.ps.length y.pc)/\W.cell? ⟨tb,off+B * 12+4,none⟩=some (.int .i64 y.rt.1)/\W.cell? ⟨tb,off+B * 12+5,none⟩=some (.int .i64 y.rt.2.1)/\W.cell? ⟨tb,off+B * 12+6,none⟩=some (.int .i64 y.rt.2.2.1)/\W.cell? ⟨tb,off+B * 12+7,none⟩=some (.bool y.rt.2.2.2)/\W.cell? ⟨tb,off+B * 12+8,none⟩=some (.slice y.la y.ls.length y.lc)/\W.cell? ⟨tb,off+B * 12+9,none⟩=some (.int .i64 y.mx)/\W.cell? ⟨tb,off+B * 12+10,none⟩=some (.slice y.ca y.co.length y.cc)/\W.cell? ⟨tb,off+B * 12+11,none⟩=some (.slice y.ka y.cl.length y.kc))) (by kernel_rfl) (HKM.out _ (zad _)) (λyb=>?_)
           refine tY 0 znv (.pointer (some ⟨w.heap.size,2,none⟩)) yb ?_;refine tY 1 znU (.slice (some ⟨tb,off,none⟩) g.ms.length g.mc) yb ?_;refine tY 2 zod (.slice (some ⟨gl',0,none⟩) len9 lc) yb ?_;refine tY 3 zoz (.int .i64 i) yb ?_;refine tY 4 zom (.pointer (some ⟨gl',i,none⟩)) yb ?_;refine tY 5 zpJ (.int .i64 A) yb ?_;refine tY 6 zok (.pointer (some ⟨tb,off+A * 12,none⟩)) yb ?_;refine tY 7 zon (.pointer (some ⟨tb,off+A * 12,none⟩)) yb ?_;refine tY 8 znF (.string x.nm) yb ?_;refine tY 9 zoA (.pointer (some ⟨w.heap.size,2,none⟩)) yb ?_;refine tY 10 zkR (.slice (some ⟨tb,off,none⟩) g.ms.length g.mc) yb ?_;refine tY 11 zjv (.slice (some ⟨gl',0,none⟩) len9 lc) yb ?_;refine tY 12 zjc (.int .i64 k) yb ?_;refine tY 13 zji (.pointer (some ⟨gl',k,none⟩)) yb ?_;refine tY 14 zjU (.int .i64 B) yb ?_;refine tY 15 zle (.pointer (some ⟨tb,off+B * 12,none⟩)) yb ?_;refine tY 16 zld (.pointer (some ⟨tb,off+B * 12,none⟩)) yb ?_;refine tY 17 zk0 (.string y.nm) yb ?_;refine tY 18 zkp (.bool true) yb ?_;refine tY 19 zk4 (.bool true) yb ?_;refine tY 20 zjT (.pointer (some ⟨w.heap.size,2,none⟩)) yb ?_;refine tY 21 zjB (.slice (some ⟨tb,off,none⟩) g.ms.length g.mc) yb ?_;refine tY 22 zkO (.slice (some ⟨gl',0,none⟩) len9 lc) yb ?_;refine tY 23 zjh (.int .i64 i) yb ?_;refine tY 24 zjx (.pointer (some ⟨gl',i,none⟩)) yb ?_;refine tY 25 zjs (.int .i64 A) yb ?_;refine tY 26 zki (.pointer (some ⟨tb,off+A * 12,none⟩)) yb ?_;refine tY 27 zjb (.agg #[.string x.nm,.int .i64 x.ow,.int .i64 x.fl,.slice x.pa x.ps.length x.pc,.int .i64 x.rt.1,.int .i64 x.rt.2.1,.int .i64 x.rt.2.2.1,.bool x.rt.2.2.2,.slice x.la x.ls.length x.lc,.int .i64 x.mx,.slice x.ca x.co.length x.cc,.slice x.ka x.cl.length x.kc]) yb ?_;refine tY 28 zkh (.pointer (some ⟨w.heap.size,2,none⟩)) yb ?_;refine tY 29 zk3 (.slice (some ⟨tb,off,none⟩) g.ms.length g.mc) yb ?_;refine tY 30 zkl (.slice (some ⟨gl',0,none⟩) len9 lc) yb ?_;refine tY 31 zjy (.int .i64 k) yb ?_;refine tY 32 zkg (.pointer (some ⟨gl',k,none⟩)) yb ?_;refine tY 33 zk9 (.int .i64 B) yb ?_;refine tY 34 zkL (.pointer (some ⟨tb,off+B * 12,none⟩)) yb ?_;refine tY 35 zkV (.agg #[.string y.nm,.int .i64 y.ow,.int .i64 y.fl,.slice y.pa y.ps.length y.pc,.int .i64 y.rt.1,.int .i64 y.rt.2.1,.int .i64 y.rt.2.2.1,.bool y.rt.2.2.2,.slice y.la y.ls.length y.lc,.int .i64 y.mx,.slice y.ca y.co.length y.cc,.slice y.ka y.cl.length y.kc]) yb ?_;refine wpAnyH_ready (rs:=[36]) (by kernel_rfl) (by simp) ?_
           refine AllReadyH.cons (o:=zkI) rfl (λK hK=>?_) AllReadyH.nil
           go_simp
           refine (HSS.out _ (zad _)).mono ?_;rintro e w3 ⟨rfl,hb3⟩;have hBc:Below wr.heap.size wr w3:=zaa (zad _) hb3
           try go_wp2_with fail
           refine hK.out _ _ (HKM.out _ hBc) (λyb=>?_)
           clear hK K
           try simp only[Act.put,sA,s0,sS]
           refine tY 37 zkK (.bool false) yb ?_;refine wpAnyH_done (by kernel_rfl) ?_ _
           have HBe:Hid (Below w2.heap.size w2 w3):=zaa HBi.out hBc;clear hBc hb3;go_wp2_with fail
           go_roundw
           case rel=>exact⟨k+1,by omega,by go_num,HBe.out,HA2.out⟩
           case measure=>simp[intOf];omega
         ·rw[decide_eq_false hnm]at hstr;have HA2:Hid _:=HYs.out (by rw[HSe.out,decide_eq_false hnm];rfl)
          clear hnm HSe HNo HYs;go_wp2_with fail
          refine wp_region_held_drew (S:=(λW=>W.cell? ⟨w.heap.size,2,none⟩=some (.slice (some ⟨tb,off,none⟩) g.ms.length g.mc)/\W.cell? ⟨gl',i,none⟩=some (.int .i64 A)/\W.cell? ⟨gl',k,none⟩=some (.int .i64 B)/\W.cell? ⟨tb,off+A * 12,none⟩=some (.string x.nm)/\W.cell? ⟨tb,off+A * 12+1,none⟩=some (.int .i64 x.ow)/\W.cell? ⟨tb,off+A * 12+2,none⟩=some (.int .i64 x.fl)/\W.cell? ⟨tb,off+A * 12+3,none⟩=some (.slice x.pa x.ps.length x.pc)/\W.cell? ⟨tb,off+A * 12+4,none⟩=some (.int .i64 x.rt.1)/\W.cell? ⟨tb,off+A * 12+5,none⟩=some (.int .i64 x.rt.2.1)/\W.cell? ⟨tb,off+A * 12+6,none⟩=some (.int .i64 x.rt.2.2.1)/\W.cell? ⟨tb,off+A * 12+7,none⟩=some (.bool x.rt.2.2.2)/\W.cell? ⟨tb,off+A * 12+8,none⟩=some (.slice x.la x.ls.length x.lc)/\W.cell? ⟨tb,off+A * 12+9,none⟩=some (.int .i64 x.mx)/\W.cell? ⟨tb,off+A * 12+10,none⟩=some (.slice x.ca x.co.length x.cc)/\W.cell? ⟨tb,off+A * 12+11,none⟩=some (.slice x.ka x.cl.length x.kc)/\W.cell? ⟨tb,off+B * 12,none⟩=some (.string y.nm)/\W.cell? ⟨tb,off+B * 12+1,none⟩=some (.int .i64 y.ow)/\W.cell? ⟨tb,off+B * 12+2,none⟩=some (.int .i64 y.fl)/\W.cell? ⟨tb,off+B * 12+3,none⟩=some (.slice y.pa y.ps.length y.pc)/\W.cell? ⟨tb,off+B * 12+4,none⟩=some (.int .i64 y.rt.1)/\W.cell? ⟨tb,off+B * 12+5,none⟩=some (.int .i64 y.rt.2.1)/\W.cell? ⟨tb,off+B * 12+6,none⟩=some (.int .i64 y.rt.2.2.1)/\W.cell? ⟨tb,off+B * 12+7,none⟩=some (.bool y.rt.2.2.2)/\W.cell? ⟨tb,off+B * 12+8,none⟩=some (.slice y.la y.ls.length y.lc)/\W.cell? ⟨tb,off+B * 12+9,none⟩=some (.int .i64 y.mx)/\W.cell? ⟨tb,off+B * 12+10,none⟩=some (.slice y.ca y.co.length y.cc)/\W.cell? ⟨tb,off+B * 12+11,none⟩=some (.slice y.ka y.cl.length y.kc))) (by kernel_rfl) (HKM.out _ (zad _)) (λyb=>?_)
          refine tY 0 znv (.pointer (some ⟨w.heap.size,2,none⟩)) yb ?_;refine tY 1 znU (.slice (some ⟨tb,off,none⟩) g.ms.length g.mc) yb ?_;refine tY 2 zod (.slice (some ⟨gl',0,none⟩) len9 lc) yb ?_;refine tY 3 zoz (.int .i64 i) yb ?_;refine tY 4 zom (.pointer (some ⟨gl',i,none⟩)) yb ?_;refine tY 5 zpJ (.int .i64 A) yb ?_;refine tY 6 zok (.pointer (some ⟨tb,off+A * 12,none⟩)) yb ?_;refine tY 7 zon (.pointer (some ⟨tb,off+A * 12,none⟩)) yb ?_;refine tY 8 znF (.string x.nm) yb ?_;refine tY 9 zoA (.pointer (some ⟨w.heap.size,2,none⟩)) yb ?_;refine tY 10 zkR (.slice (some ⟨tb,off,none⟩) g.ms.length g.mc) yb ?_;refine tY 11 zjv (.slice (some ⟨gl',0,none⟩) len9 lc) yb ?_;refine tY 12 zjc (.int .i64 k) yb ?_;refine tY 13 zji (.pointer (some ⟨gl',k,none⟩)) yb ?_;refine tY 14 zjU (.int .i64 B) yb ?_;refine tY 15 zle (.pointer (some ⟨tb,off+B * 12,none⟩)) yb ?_;refine tY 16 zld (.pointer (some ⟨tb,off+B * 12,none⟩)) yb ?_;refine tY 17 zk0 (.string y.nm) yb ?_;refine tY 18 zkp (.bool false) yb ?_;refine tY 19 zk4 (.bool false) yb ?_;refine tN 20 zjT yb ?_;refine tN 21 zjB yb ?_;refine tN 22 zkO yb ?_;refine tN 23 zjh yb ?_;refine tN 24 zjx yb ?_;refine tN 25 zjs yb ?_;refine tN 26 zki yb ?_;refine tN 27 zjb yb ?_;refine tN 28 zkh yb ?_;refine tN 29 zk3 yb ?_;refine tN 30 zkl yb ?_;refine tN 31 zjy yb ?_;refine tN 32 zkg yb ?_;refine tN 33 zk9 yb ?_;refine tN 34 zkL yb ?_;refine tN 35 zkV yb ?_;refine tN 36 zkI yb ?_;refine tY 37 zkK (.bool false) yb ?_;refine wpAnyH_done (by kernel_rfl) ?_ _
          go_wp2_with fail
          go_roundw
          case rel=>exact⟨k+1,by omega,by go_num,Below.drewN HBi.out 1,HA2.out⟩
          case measure=>simp[intOf];omega
        ·have hkii:¬ (k:Int)<(i:Int):=by omega
         have HPn:Hid (PrOk (λa b=>!smI g a b) L (i+1)):=HP.out.step hil (by have:=HA.out;rwa [show k=i by omega]at this)
         go_wp2_with fail
         go_roundw
         case rel=>exact⟨i+1,by omega,by go_num,HBi.out,HPn.out⟩
         case measure=>simp[intOf];omega
      ·have hii:¬ (i:Int)<(len9:Int):=by omega
       have HDf:Hid (zcE (λa b=>!smI g a b) (zat g (q:Int))=true):=by show _=_;rw[<- HLE.out];exact HP.out.all hil
       have HBe:Hid (Below w0.heap.size w0 wr):=zaa HB2.out HBo.out;clear HBo HP HBof;go_wp2_with fail
       go_ret;exact⟨zab (by rw[HR2.out,HDf.out]),zaa HB0.out HBe.out⟩
end Go.Proofs.YtkedhjdipnhgdaaGreat
