import Derived.Test.YtkedhjdipnhgdaaGreatR30
import Derived.Test.YtkedhjdipnhgdaaGreatR29
import Derived.Test.YtkedhjdipnhgdaaGreatR31
import Derived.Test.YtkedhjdipnhgdaaGreatR26
import Derived.Test.YtkedhjdipnhgdaaGreatR32
namespace Go.Proofs.YtkedhjdipnhgdaaGreat
set_option maxHeartbeats 16000000
set_option linter.all false
open RowKit
attribute [local go_sem ↓] wp_at_zero wp_at_succ
theorem zcM {a b c d:Int} (h:(a,b)=(c,d)):Ending.returned (.tuple #[.int .i64 a,.int .i64 b])=.returned (.tuple #[.int .i64 c,.int .i64 d]):=by cases h;rfl
theorem zst {g:Img} {k i:Nat} {e:Int} (h:zdw g i=e) (he:e≠0):zfk g (k+1) i=((i:Int),e):=by unfold zfk;rw[h,if_neg he]
theorem zua {g:Img} {k i:Nat} (h:zdw g i=0):zfk g (k+1) i=zfk g k (i+1):=by rw[zfk,if_pos h]
set_option maxRecDepth 100000 in
theorem zfF {g:Img} {w:World} (hg:Im w g) (hnm:g.nmOk) :
 Calls Tryz.prog 96 #[imV g] w λe w'=>e=.returned (.tuple #[.int .i64 (zcg g).1,.int .i64 (zcg g).2])/\Below w.heap.size w w':=by
 obtain⟨w0,hw0⟩:∃ W,W=w.alloc (.cells (imC g) 26):=⟨_,rfl⟩;have HW0:Hid (w0=_):=hw0;obtain⟨hb0,hgb⟩:=GB.made hg hw0;have HB0:Hid (Below w.heap.size w w0):=hb0;have HG:Hid (GB w0 w.heap.size g):=hgb;have HFm:Hid (Calls Tryz.prog 136 #[.agg (imC g)] w0 λe w'=>e=.returned (.bool (imB g))/\Below w0.heap.size w0 w'):=zgG hgb.im hnm
 have HC4:Hid (∀ W,Below w0.heap.size w0 W->W.cell? ⟨w.heap.size,0,none⟩=some (.slice g.ta g.ts.length g.tc)/\W.cell? ⟨w.heap.size,1,none⟩=some (.slice g.fa g.fs.length g.fc)/\W.cell? ⟨w.heap.size,2,none⟩=some (.slice g.ma g.ms.length g.mc)/\W.cell? ⟨w.heap.size,3,none⟩=some (.int .i64 g.en)):=λW hW=>(hgb.later hW).cells
 obtain⟨c0,c1,c2,c3⟩:=hgb.cells;have htl:=hg.ts.len;unfold maxLen at htl;unfold imC at HW0 HFm;clear hw0 hb0 hgb hg hnm;unfold imV;go_enter Tryz.func96,Tryz.ntmps96;go_wp2_with (rw[<- HW0.out])
 refine Calls.mono HFm.out ?_;rintro e w1 ⟨rfl,hb1⟩;have HB1:Hid (Below w0.heap.size w0 w1):=hb1;clear hb1 c0 c1 c2 c3 HFm
 cases hi:imB g with
 | false =>
  have HE:Hid (zcg g=(0,17)):=by show _=_;unfold zcg;rw[hi];rfl
  clear hi;go_wp2_with fail
  go_ret2
  exact⟨zcM (by rw[HE.out]),zaa HB0.out HB1.out⟩
 | true =>
  have HE:Hid (zcg g=zfk g g.ts.length 0):=by show _=_;unfold zcg;rw[hi];rfl
  have HFlg:Hid (∀ W,Below w0.heap.size w0 W->∀ q (hq:q<g.ts.length),Calls Tryz.prog 137 #[.agg (imC g),.int .i64 q] W λe w'=>e=.returned (.bool (zct g.ts[q].fl g.ts[q].ex))/\Below W.heap.size W w'):=λW hW q hq=>zfv (HG.out.im.later hW) hi hq
  have HHan:Hid (∀ W,Below w0.heap.size w0 W->∀ q (hq:q<g.ts.length),zct g.ts[q].fl g.ts[q].ex=true->Calls Tryz.prog 138 #[.agg (imC g),.int .i64 q] W λe w'=>e=.returned (.bool (zb5 g (q:Int)&&zcd g (q:Int)))/\Below W.heap.size W w'):=λW hW q hq hf=>ziY (HG.out.im.later hW) hi hq hf
  have HNam:Hid (∀ W,Below w0.heap.size w0 W->∀ q (hq:q<g.ts.length),Calls Tryz.prog 139 #[.agg (imC g),.int .i64 q] W λe w'=>e=.returned (.bool (zfc g (q:Int)))/\Below W.heap.size W w'):=λW hW q hq=>zfB (HG.out.im.later hW) hi hq
  have HSiz:Hid (∀ W,Below w0.heap.size w0 W->∀ q (hq:q<g.ts.length),Calls Tryz.prog 140 #[.agg (imC g),.int .i64 q] W λe w'=>e=.returned (.bool (zes g (q:Int)))/\Below W.heap.size W w'):=λW hW q hq=>zhZ (HG.out.im.later hW) hi hq
  unfold imC at HFlg HHan HNam HSiz;clear hi;go_wp2_with fail
  go_loopw [4] (λz wr=>∃ q:Nat,q<=g.ts.length/\z=.int .i64 q/\Hid (Below w0.heap.size w0 wr)/\Hid (zfk g (g.ts.length - q) q=zcg g)) (λz _=>g.ts.length - (intOf z).toNat)
  case atStart=>exact⟨0,Nat.zero_le _,rfl,HB1.out,HE.out.symm⟩
  case round =>
   obtain⟨q,hq,rfl,HB,HC⟩:=hrel;obtain⟨c0,c1,c2,c3⟩:=HC4.out wr HB.out;by_cases hql:q<g.ts.length
   ·have hqi:(q:Int)<(g.ts.length:Int):=by omega
    have HFl:=HFlg.out wr HB.out q hql;have HHa:=λW hW h=>HHan.out W hW q hql h
    have HEr:Hid (zdw g (q:Int)=if (zct g.ts[q].fl g.ts[q].ex&&zb5 g (q:Int)&&zcd g (q:Int))=false then 7 else if zfc g (q:Int)=false then 18 else if zes g (q:Int)=false then 20 else 0):=by show _=_;unfold zdw;rw[zek hql,zbi hql]
    have HBd:Hid (∀ e:Int,zdw g (q:Int)=e->e≠0->((q:Int),e)=zcg g):=λe h1 h2=>by rw[<- HC.out,show g.ts.length - q=(g.ts.length - (q+1))+1 by omega,zst h1 h2]
    have HOk:Hid (zdw g (q:Int)=0->zfk g (g.ts.length - (q+1)) (q+1)=zcg g):=λh=>by rw[<- HC.out,show g.ts.length - q=(g.ts.length - (q+1))+1 by omega,zua h]
    have HF2:Hid (Calls Tryz.prog 137 #[.agg #[.slice g.ta g.ts.length g.tc,.slice g.fa g.fs.length g.fc,.slice g.ma g.ms.length g.mc,.int .i64 g.en],.int .i64 q] wr λe w'=>e=.returned (.bool (zct g.ts[q].fl g.ts[q].ex))/\Below wr.heap.size wr w'):=HFl
    have HH2:Hid (∀ W,Below w0.heap.size w0 W->zct g.ts[q].fl g.ts[q].ex=true->Calls Tryz.prog 138 #[.agg #[.slice g.ta g.ts.length g.tc,.slice g.fa g.fs.length g.fc,.slice g.ma g.ms.length g.mc,.int .i64 g.en],.int .i64 q] W λe w'=>e=.returned (.bool (zb5 g (q:Int)&&zcd g (q:Int)))/\Below W.heap.size W w'):=HHa
    clear HFl HHa;generalize zct g.ts[q].fl g.ts[q].ex=bf at *;go_wp2_with fail
    refine Calls.mono HF2.out ?_;rintro e w2 ⟨rfl,hb2⟩;have HB2:Hid (Below w0.heap.size w0 w2):=zaa HB.out hb2;clear hb2 c0 c1 c2 c3 HF2
    cases bf with
    | false =>
     have HR:Hid _:=HBd.out 7 (by rw[HEr.out];rfl) (by decide)
     clear HEr HBd HOk HH2;go_wp2_with fail
     go_ret2
     exact⟨zcM HR.out,zaa HB0.out HB2.out⟩
    | true =>
     obtain⟨c0,c1,c2,c3⟩:=HC4.out w2 HB2.out;have HEr2:Hid (zdw g (q:Int)=if (zb5 g (q:Int)&&zcd g (q:Int))=false then 7 else if zfc g (q:Int)=false then 18 else if zes g (q:Int)=false then 20 else 0):=by show _=_;rw[HEr.out];rfl
     clear HEr;generalize (zb5 g (q:Int)&&zcd g (q:Int))=bh at *;go_wp2_with fail
     refine Calls.mono (HH2.out w2 HB2.out trivial) ?_;rintro e w3 ⟨rfl,hb3⟩;have HB3:Hid (Below w0.heap.size w0 w3):=zaa HB2.out hb3;clear hb3 c0 c1 c2 c3 HH2
     cases bh with
     | false =>
      have HR:Hid _:=HBd.out 7 (by rw[HEr2.out];rfl) (by decide)
      clear HEr2 HBd HOk;go_wp2_with fail
      go_ret2
      exact⟨zcM HR.out,zaa HB0.out HB3.out⟩
     | true =>
      obtain⟨c0,c1,c2,c3⟩:=HC4.out w3 HB3.out;have HEr3:Hid (zdw g (q:Int)=if zfc g (q:Int)=false then 18 else if zes g (q:Int)=false then 20 else 0):=by show _=_;rw[HEr2.out];rfl
      have HN:=HNam.out w3 HB3.out q hql;have HS:=λW hW=>HSiz.out W hW q hql
      have HN2:Hid (Calls Tryz.prog 139 #[.agg #[.slice g.ta g.ts.length g.tc,.slice g.fa g.fs.length g.fc,.slice g.ma g.ms.length g.mc,.int .i64 g.en],.int .i64 q] w3 λe w'=>e=.returned (.bool (zfc g (q:Int)))/\Below w3.heap.size w3 w'):=HN
      have HS2:Hid (∀ W,Below w0.heap.size w0 W->Calls Tryz.prog 140 #[.agg #[.slice g.ta g.ts.length g.tc,.slice g.fa g.fs.length g.fc,.slice g.ma g.ms.length g.mc,.int .i64 g.en],.int .i64 q] W λe w'=>e=.returned (.bool (zes g (q:Int)))/\Below W.heap.size W w'):=HS
      clear HEr2 HN HS;generalize zfc g (q:Int)=bn at *;generalize zes g (q:Int)=bs at *;go_wp2_with fail
      refine Calls.mono HN2.out ?_;rintro e w4 ⟨rfl,hb4⟩;have HB4:Hid (Below w0.heap.size w0 w4):=zaa HB3.out hb4;clear hb4 c0 c1 c2 c3 HN2
      cases bn with
      | false =>
       have HR:Hid _:=HBd.out 18 (by rw[HEr3.out];rfl) (by decide)
       clear HEr3 HBd HOk;go_wp2_with fail
       go_ret2
       exact⟨zcM HR.out,zaa HB0.out HB4.out⟩
      | true =>
       obtain⟨c0,c1,c2,c3⟩:=HC4.out w4 HB4.out;go_wp2_with fail
       refine Calls.mono (HS2.out w4 HB4.out) ?_;rintro e w5 ⟨rfl,hb5⟩;have HB5:Hid (Below w0.heap.size w0 w5):=zaa HB4.out hb5;clear hb5 c0 c1 c2 c3 HS2
       cases bs with
       | false =>
        have HR:Hid _:=HBd.out 20 (by rw[HEr3.out];rfl) (by decide)
        clear HEr3 HBd HOk;go_wp2_with fail
        go_ret2
        exact⟨zcM HR.out,zaa HB0.out HB5.out⟩
       | true =>
        have HO2:Hid _:=HOk.out (by rw[HEr3.out];rfl)
        clear HEr3 HBd HOk;go_wp2_with fail
        go_roundw
        case rel=>exact⟨q+1,by omega,by go_num,HB5.out,HO2.out⟩
        case measure=>simp[intOf];omega
   ·have hqi:¬ (q:Int)<(g.ts.length:Int):=by omega
    have HR:Hid (((0:Int),(0:Int))=zcg g):=by show _=_;rw[<- HC.out,show g.ts.length - q=0 by omega];rfl
    go_wp2_with fail
    go_ret2
    exact⟨zcM HR.out,zaa HB0.out HB.out⟩
theorem zkc {g:Img} {w:World} (hg:Im w g) (hnm:g.nmOk) :
 Calls Tryz.prog 71 #[imV g] w λe w'=>e=.returned (.bool (zaY g))/\Below w.heap.size w w':=by
 obtain⟨w0,hw0⟩:∃ W,W=w.alloc (.cells (imC g) 26):=⟨_,rfl⟩;have HW0:Hid (w0=_):=hw0;obtain⟨hb0,hgb⟩:=GB.made hg hw0;have HB0:Hid (Below w.heap.size w w0):=hb0;have HCk:Hid (Calls Tryz.prog 96 #[.agg (imC g)] w0 λe w'=>e=.returned (.tuple #[.int .i64 (zcg g).1,.int .i64 (zcg g).2])/\Below w0.heap.size w0 w'):=zfF hgb.im hnm
 obtain⟨c0,c1,c2,c3⟩:=hgb.cells;have HR:Hid (zaY g=((zcg g).2==0)):=by show _=_;unfold zaY;rw[Bool.eq_iff_iff];simp
 unfold imC at HW0 HCk;clear hw0 hb0 hgb hg hnm;generalize zcg g=p at *;obtain⟨a,b⟩:=p;unfold imV;go_enter Tryz.func71,Tryz.ntmps71;go_wp2_with (rw[<- HW0.out])
 refine Calls.mono HCk.out ?_;rintro e w1 ⟨rfl,hb1⟩;have HB1:Hid (Below w0.heap.size w0 w1):=hb1;clear hb1 c0 c1 c2 c3 HCk;go_wp2_with fail
 go_ret;exact⟨zab HR.out.symm,zaa HB0.out HB1.out⟩
end Go.Proofs.YtkedhjdipnhgdaaGreat

namespace Go.Proofs.YtkedhjdipnhgdaaGreat
set_option maxHeartbeats 16000000
set_option linter.all false
open RowKit
theorem zn3 {α:Type} {p q:α->Bool}:∀ {l m:List α},l.length=m.length->(∀ i (h1:i<l.length) (h2:i<m.length),p l[i]=q m[i])->l.findIdx? p=m.findIdx? q
 | [],[],_,_=>rfl
 | [],b :: m,h,_=>by simp at h
 | a :: l,[],h,_=>by simp at h
 | a :: l,b :: m,h,hp=>by
  have h0:p a=q b:=hp 0 (by simp) (by simp)
  rw[List.findIdx?_cons,List.findIdx?_cons,h0,zn3 (l:=l) (m:=m) (by simpa using h) (λi h1 h2=>by
   have:=hp (i+1) (by simpa using h1) (by simpa using h2)
   simpa using this)]
theorem zlk {g h:Img} (hl:g.like h):zcR g=zcR h:=funext λi=>by
 unfold zcR;have hlen:=hl.2.2.2.1;by_cases h1:i.toNat<g.ms.length
 ·rw[List.getElem?_eq_getElem h1,List.getElem?_eq_getElem (l:=h.ms) (by omega)]
  exact (hl.2.2.2.2.1 i.toNat h1 (by omega)).2.2.1
 ·rw[List.getElem?_eq_none (by omega),List.getElem?_eq_none (l:=h.ms) (by omega)]
theorem zr4 {g h:Img} (hl:g.like h):zfq g=zfq h:=funext λi=>by
 unfold zfq;have hlen:=hl.2.2.2.1;by_cases h1:i.toNat<g.ms.length
 ·rw[List.getElem?_eq_getElem h1,List.getElem?_eq_getElem (l:=h.ms) (by omega)]
  exact (hl.2.2.2.2.1 i.toNat h1 (by omega)).2.1
 ·rw[List.getElem?_eq_none (by omega),List.getElem?_eq_none (l:=h.ms) (by omega)]
theorem zrE {g h:Img} (hl:g.like h):zaX g=zaX h:=funext λt=>by
 have e:zaI g=zaI h:=funext λi=>by unfold zaI;rw[zlk hl]
 unfold zaX;rw[ziC hl,e]
theorem zup {g h:Img} (hl:g.like h):zbq g=zbq h:=funext λl=>funext λm=>by
 unfold zbq znt;rw[zlk hl,zti hl]
theorem zof {g h:Img} (hl:g.like h):zaH g=zaH h:=funext λt=>by
 unfold zaH;rw[zpa hl,zrE hl,zup hl]
theorem zvl {g h:Img} (hl:g.like h):zbj g=zbj h:=funext λt=>by
 unfold zbj;rw[hl.1,zvx hl,zpa hl]
theorem zu4 {g h:Img} (hl:g.like h):zaL g=zaL h:=funext λt=>funext λm=>by
 have e1:zmD g=zmD h:=funext λm=>by unfold zmD;rw[zof hl,zr4 hl]
 have e2:zdG g=zdG h:=funext λt=>funext λm=>by unfold zdG;rw[zof hl,e1]
 have e3:zmb g=zmb h:=funext λt=>funext λm=>by unfold zmb;rw[zpa hl,zrE hl,zti hl]
 have e4:zaI g=zaI h:=funext λi=>by unfold zaI;rw[zlk hl]
 unfold zaL;rw[e2,e3,e4,zco hl,zr4 hl]
theorem zve {g h:Img} (hl:g.like h):zev g=zev h:=funext λt=>by
 unfold zev;rw[zof hl,zlk hl,zvl hl,ziC hl,zu4 hl]
theorem znB {g h:Img} (hl:g.like h) {x y:MD} (hm:x.like y):za8 g x=za8 h y:=by
 obtain⟨a1,a2,a3,a4,a5,a6,a7,a8,a9⟩:=hm;have e1:zdZ g x=zdZ h y:=by
  unfold zdZ;rw[zco hl,ziC hl,znJ hl,a2,a3,a5,a6,a7,a8,a9]
 have e2:ziM g x=ziM h y:=by
  have hu:zaw g=zaw h:=funext λt=>by unfold zaw;rw[zco hl]
  unfold ziM zfN;rw[hu,a4,a5,a6,a8,a9]
 unfold za8;rw[e1,e2]
theorem zqW {g h:Img} (hl:g.like h):zb3 g=zb3 h:=by
 have hlen:=hl.2.2.2.1;have e0:zbc g=zbc h:=by unfold zbc;rw[zqP hl]
 have e1:g.ms.findIdx? (λx=>decide (za8 g x≠0))=h.ms.findIdx? (λx=>decide (za8 h x≠0)):=zn3 hlen λi h1 h2=>by
  show decide _=decide _;rw[znB hl (hl.2.2.2.2.1 i h1 h2)]
 have e2:zcz g=zcz h:=funext λt=>by unfold zcz;rw[zco hl,znJ hl,zve hl]
 have e3:zep g=zep h:=funext λt=>by unfold zep;rw[zco hl,ziC hl]
 have e4:zhE g=zhE h:=by
  unfold zhE;rw[hl.2.2.2.2.2];by_cases h1:h.en.toNat<g.ms.length
  ·rw[List.getElem?_eq_getElem h1,List.getElem?_eq_getElem (l:=h.ms) (by omega)]
   obtain⟨a1,a2,a3,a4,a5,a6,a7,a8,a9⟩:=hl.2.2.2.2.1 h.en.toNat h1 (by omega)
   show (_||ziB _)=(_||ziB _)
   unfold ziB;rw[a3,a4,a5]
  ·rw[List.getElem?_eq_none (by omega),List.getElem?_eq_none (l:=h.ms) (by omega)]
 have e5:∀ i:Nat,(match g.ms[i]? with | some x=>za8 g x | none=>0)=(match h.ms[i]? with | some x=>za8 h x | none=>0):=λi=>by
  by_cases h1:i<g.ms.length
  ·rw[List.getElem?_eq_getElem h1,List.getElem?_eq_getElem (l:=h.ms) (by omega)]
   exact znB hl (hl.2.2.2.2.1 i h1 (by omega))
  ·rw[List.getElem?_eq_none (by omega),List.getElem?_eq_none (l:=h.ms) (by omega)]
 unfold zb3;rw[e0,e1,hl.1,e2,e3,e4,hl.2.2.2.2.2]
 cases zbc h with
 | false=>rfl
 | true =>
  cases h.ms.findIdx? (λx=>decide (za8 h x≠0)) with
  | none=>rfl
  | some i=>exact congrArg (λz=>((1:Int),(i:Int),z)) (e5 i)
end Go.Proofs.YtkedhjdipnhgdaaGreat
