import Derived.Test.YtkedhjdipnhgdaaGreatR46
import Derived.Test.YtkedhjdipnhgdaaGreatR38
namespace Go.Proofs.YtkedhjdipnhgdaaGreat
set_option maxHeartbeats 16000000
set_option linter.all false
open RowKit
attribute [local go_sem ↓] wp_at_zero wp_at_succ
theorem zs3 {g:Img} {t:Int} (h:zag g t=1):zbZ g t=decide (8<zcK 8 (zbl g (6,t,0,false)).length):=by
 unfold zbZ;rw[if_pos h];have:=(zop 8 (zbl g (6,t,0,false)).length).lt;rw[Bool.eq_iff_iff,decide_eq_true_iff,decide_eq_true_iff];exact this.symm
theorem zsA {g:Img} {t:Int} (h:zag g t=0) {n:Nat} (hn:CnB 32 n (zfT g (upL g t) g.fs.length).length):zbZ g t=decide (32<n):=by
 unfold zbZ;rw[h,if_neg (by decide),if_pos rfl]
 rw[zqS]at hn;rw[Bool.eq_iff_iff,decide_eq_true_iff,decide_eq_true_iff];exact hn.lt.symm
theorem zql {g:Img} {t:Int} (h0:zag g t≠0) (h1:zag g t≠1):zbZ g t=false:=by
 unfold zbZ;rw[if_neg h1,if_neg h0]
set_option maxRecDepth 20000 in
theorem zfJ {g:Img} {w:World} (hg:Im w g) (hnm:g.nmOk) :
 Ans 46 #[zao g] w (.tuple #[.int .i64 (zb8 g).1,.int .i64 (zb8 g).2]):=by
 obtain⟨w0,HW0,HB0,HG,HC,HI,c0,c1,c2,c3⟩:=zaG hg;have htl:=hg.ts.len;have hfl:=hg.fs.len;unfold maxLen at htl hfl;have HCk:Hid (Ans 71 #[zao g] w0 (.bool (zaY g))):=zkc (HI.out w0 (Below.refl _ _)) hnm;have HFs:Hid (∀ W,Below w0.heap.size w0 W->Es fdE W (.slice g.fa g.fs.length g.fc) g.fs):=λW hW=>(HI.out W hW).fs
 have HC4:Hid (∀ W,Below w0.heap.size w0 W->Im4 W w.heap.size g):=HC.out;have HUw:Hid (∀ W t,Below w0.heap.size w0 W->zaY g=true->Ans 47 #[zao g,.agg #[.int .i64 t.1,.int .i64 t.2.1,.int .i64 t.2.2.1,.bool t.2.2.2]] W (.bool (zaw g t))):=λW t hW hw=>zfn t (HI.out W hW) (Wel.of hw).im
 have HKn:Hid (∀ W t,Below w0.heap.size w0 W->zaY g=true->Ans 23 #[zao g,.int .i64 t] W (.int .i64 (zag g t))):=λW t hW hw=>zaF t (HI.out W hW) (FlOk.of (Wel.of hw).im)
 have HUp:Hid (∀ W t,Below w0.heap.size w0 W->zaY g=true->Calls Tryz.prog 73 #[zao g,.int .i64 t] W λe w'=>∃ v,e=.returned v/\OwnI w' W.heap.size v (upL g t)/\Below W.heap.size W w'):=λW t hW hw=>zdn (HI.out W hW) (Wel.of hw).im
 have HCo:Hid (∀ W t (b:Nat),Below w0.heap.size w0 W->zaY g=true->AllU g->1<=b->b<=100->zaw g t=true->Ans 72 #[zao g,.agg #[.int .i64 t.1,.int .i64 t.2.1,.int .i64 t.2.2.1,.bool t.2.2.2],.int .i64 (b:Int)] W (.int .i64 (zcK b (zbl g t).length))):=λW t b hW hw hu h1 h2 h3=>zh9 ⟨hw,hu⟩ h1 h2 (HI.out W hW) h3
 have HS6:Hid (∀ t,zaY g=true->AllU g->zag g t=1->zaw g (6,t,0,false)=true):=λt hw hu hk=>(WU.mk hw hu).six hk
 have HK4:Hid (∀ q:Nat,q<g.ts.length->zag g (q:Int)=0∨zag g (q:Int)=2∨zag g (q:Int)=1∨zag g (q:Int)=3):=λq hq=>by rw[zec hq];exact zbp _
 have HL1:Hid (zaY g=false->zb8 g=(0,17)):=zph;have HL2:Hid (zaY g=true->∀ (i:Nat) (hi:i<g.fs.length),(∀ x∈g.fs.take i,zaw g x.t=true)->zaw g g.fs[i].t=false->zb8 g=((i:Int),10)):=λh i hi=>zl5 h hi
 have HL3:Hid (zaY g=true->AllU g->∀ i:Nat,i<g.ts.length->(∀ j<i,zbZ g (j:Int)=false)->zbZ g (i:Int)=true->zb8 g=((i:Int),20)):=λh U i hi=>znL h U hi
 have HL4:Hid (zaY g=true->AllU g->(∀ j<g.ts.length,zbZ g (j:Int)=false)->zb8 g=(0,0)):=zrt;unfold zao at HCk HUw HKn HUp HCo ⊢;unfold Im4 at HC4;generalize g.fa=fa at *;clear hg hnm HC HI HG;go_enter Tryz.func46,Tryz.ntmps46;go_wp2_with (rw[<- HW0.out])
 refine Calls.mono HCk.out ?_;rintro e w1 ⟨rfl,hb1⟩;have HB1:Hid (Below w0.heap.size w0 w1):=hb1;clear hb1 c0 c1 c2 c3 HCk;obtain⟨c0,c1,c2,c3⟩:=HC4.out w1 HB1.out
 cases hwe:zaY g with
 | false =>
  have HR:Hid _:=HL1.out hwe;clear hwe;go_wp2_with fail
  go_ret2
  exact⟨zbr HR.out,zaa HB0.out HB1.out⟩
 | true =>
  have HW:Hid (zaY g=true):=hwe;clear hwe;go_wp2_with fail
  clear c0 c1 c2 c3;go_loopw [4] (λz wr=>∃ i:Nat,i<=g.fs.length/\z=.int .i64 i/\Hid (∀ x∈g.fs.take i,zaw g x.t=true)/\Hid (Below w0.heap.size w0 wr)) (λz _=>g.fs.length - (intOf z).toNat)
  case atStart=>exact⟨0,Nat.zero_le _,rfl,(show ∀ x∈_,_ from by simp),HB1.out⟩
  case round =>
   obtain⟨i,hi,rfl,HA,HB⟩:=hrel;by_cases hil:i<g.fs.length
   ·have hii:(i:Int)<(g.fs.length:Int):=by omega
    obtain⟨tb,off,hla,_,hel⟩:=(HFs.out w0 (Below.refl _ _)).elAll (by intro e;rw[e]at hil;simp at hil)
    subst hla;have HEl:Hid (∀ W,Below w0.heap.size w0 W->El fdE W tb (off+i * 7) g.fs[i]):=λW hW=>hel W hW i hil
    have HBad:Hid (zaw g g.fs[i].t=false->zb8 g=((i:Int),10)):=HL2.out HW.out i hil HA.out;have HGood:Hid (zaw g g.fs[i].t=true->∀ x∈g.fs.take (i+1),zaw g x.t=true):=λh x hx=>by
     rw[List.take_succ_eq_append_getElem hil]at hx
     rcases List.mem_append.1 hx with hx | hx
     ·exact HA.out x hx
     ·simp at hx;subst hx;exact h
    have HUq:Hid (∀ W,Below w0.heap.size w0 W->Ans 47 #[.agg #[.slice g.ta g.ts.length g.tc,.slice (some ⟨tb,off,none⟩) g.fs.length g.fc,.slice g.ma g.ms.length g.mc,.int .i64 g.en],.agg #[.int .i64 g.fs[i].t.1,.int .i64 g.fs[i].t.2.1,.int .i64 g.fs[i].t.2.2.1,.bool g.fs[i].t.2.2.2]] W (.bool (zaw g g.fs[i].t))):=λW hW=>HUw.out W _ hW HW.out
    clear hel;generalize g.fs[i]=x at *;have HK:Hid (∀ W,Below w0.heap.size w0 W->(W.cell? ⟨w.heap.size,0,none⟩=some (.slice g.ta g.ts.length g.tc)/\W.cell? ⟨w.heap.size,1,none⟩=some (.slice (some ⟨tb,off,none⟩) g.fs.length g.fc)/\W.cell? ⟨w.heap.size,2,none⟩=some (.slice g.ma g.ms.length g.mc)/\W.cell? ⟨w.heap.size,3,none⟩=some (.int .i64 g.en))/\W.cell? ⟨tb,off+i * 7,none⟩=some (.string x.nm)/\W.cell? ⟨tb,off+i * 7+1,none⟩=some (.int .i64 x.ow)/\W.cell? ⟨tb,off+i * 7+2,none⟩=some (.int .i64 x.t.1)/\W.cell? ⟨tb,off+i * 7+3,none⟩=some (.int .i64 x.t.2.1)/\W.cell? ⟨tb,off+i * 7+4,none⟩=some (.int .i64 x.t.2.2.1)/\W.cell? ⟨tb,off+i * 7+5,none⟩=some (.bool x.t.2.2.2)/\W.cell? ⟨tb,off+i * 7+6,none⟩=some (.bool x.st)):=λW hW=>⟨HC4.out W hW,(HEl.out W hW).cells_F⟩
    obtain⟨⟨c0,c1,c2,c3⟩,k0,k1,k2,k3,k4,k5,k6⟩:=HK.out wr HB.out;go_wp2_with fail
    go_region_held3 (λW:World=>(W.cell? ⟨w.heap.size,0,none⟩=some (.slice g.ta g.ts.length g.tc)/\W.cell? ⟨w.heap.size,1,none⟩=some (.slice (some ⟨tb,off,none⟩) g.fs.length g.fc)/\W.cell? ⟨w.heap.size,2,none⟩=some (.slice g.ma g.ms.length g.mc)/\W.cell? ⟨w.heap.size,3,none⟩=some (.int .i64 g.en))/\W.cell? ⟨tb,off+i * 7,none⟩=some (.string x.nm)/\W.cell? ⟨tb,off+i * 7+1,none⟩=some (.int .i64 x.ow)/\W.cell? ⟨tb,off+i * 7+2,none⟩=some (.int .i64 x.t.1)/\W.cell? ⟨tb,off+i * 7+3,none⟩=some (.int .i64 x.t.2.1)/\W.cell? ⟨tb,off+i * 7+4,none⟩=some (.int .i64 x.t.2.2.1)/\W.cell? ⟨tb,off+i * 7+5,none⟩=some (.bool x.t.2.2.2)/\W.cell? ⟨tb,off+i * 7+6,none⟩=some (.bool x.st))
     (first | (exact HK.out _ (zaa HB.out hBc)) | (exact HK.out _ (zaa HB.out (zad _))))
     ((go_at_call 47;refine (HUq.out _ (zaa HB.out (zad _))).mono ?_;rintro e w2 ⟨rfl,hb2⟩;have hBc:Below wr.heap.size wr w2:=zaa (zad _) hb2))
    rename_i hheld
    clear hheld;have HB2:Hid (Below w0.heap.size w0 w2):=zaa HB.out hBc;clear hb2 hBc c0 c1 c2 c3 k0 k1 k2 k3 k4 k5 k6 HUq HK
    cases hu:zaw g x.t with
    | false =>
     have HR:Hid _:=HBad.out hu;clear hu HBad HGood;go_wp2_with fail
     go_ret2
     exact⟨zbr HR.out,zaa HB0.out HB2.out⟩
    | true =>
     have HR:Hid _:=HGood.out hu;clear hu HBad HGood;go_wp2_with fail
     go_roundw
     case rel=>exact⟨i+1,by omega,by go_num,HR.out,HB2.out⟩
     case measure=>simp[intOf];omega
   ·have hii:¬ (i:Int)<(g.fs.length:Int):=by omega
    have HU:Hid (AllU g):=λx hx=>HA.out x (by rw[List.take_of_length_le (by omega)];exact hx)
    obtain⟨c0,c1,c2,c3⟩:=HC4.out wr HB.out;have HBs:Hid (Below w0.heap.size w0 wr):=HB.out;clear HA HB;go_wp2_with fail
    clear c0 c1 c2 c3;go_loopw [5,6,7,8,9] (λz _ _ _ _ wx=>∃ q:Nat,q<=g.ts.length/\z=.int .i64 q/\Hid (∀ j<q,zbZ g (j:Int)=false)/\Hid (Below w0.heap.size w0 wx)) (λz _ _ _ _ _=>g.ts.length - (intOf z).toNat)
    case atStart=>exact⟨0,Nat.zero_le _,rfl,(show ∀ j<0,_ from by simp),HBs.out⟩
    case round =>
     clear HBs;obtain⟨q,hq,rfl,HA,HB⟩:=hrel;by_cases hql:q<g.ts.length
     ·have hqi:(q:Int)<(g.ts.length:Int):=by omega
      have HBad:Hid (zbZ g (q:Int)=true->zb8 g=((q:Int),20)):=HL3.out HW.out HU.out q hql HA.out;have HGood:Hid (zbZ g (q:Int)=false->∀ j<q+1,zbZ g (j:Int)=false):=λh j hj=>by
       by_cases e:j=q
       ·subst e;exact h
       ·exact HA.out j (by omega)
      have HKq:Hid _:=HKn.out wr (q:Int) HB.out HW.out;have HT1:Hid (zag g (q:Int)=1->zbZ g (q:Int)=decide (8<zcK 8 (zbl g (6,(q:Int),0,false)).length)):=zs3;have HT0:Hid (zag g (q:Int)=0->∀ n,CnB 32 n (zfT g (upL g (q:Int)) g.fs.length).length->zbZ g (q:Int)=decide (32<n)):=λh n=>zsA h
      have HTr:Hid (zag g (q:Int)≠0->zag g (q:Int)≠1->zbZ g (q:Int)=false):=zql;have HC8:Hid (∀ W,Below w0.heap.size w0 W->zag g (q:Int)=1->Ans 72 #[.agg #[.slice g.ta g.ts.length g.tc,.slice fa g.fs.length g.fc,.slice g.ma g.ms.length g.mc,.int .i64 g.en],.agg #[.int .i64 6,.int .i64 (q:Int),.int .i64 0,.bool false],.int .i64 8] W (.int .i64 (zcK 8 (zbl g (6,(q:Int),0,false)).length))):=λW hW hk=>HCo.out W (6,(q:Int),0,false) 8 hW HW.out HU.out (by decide) (by decide) (HS6.out _ HW.out HU.out hk)
      have hk4:=HK4.out q hql;obtain⟨c0,c1,c2,c3⟩:=HC4.out wr HB.out;generalize zbZ g (q:Int)=too at *;generalize zcK 8 (zbl g (6,(q:Int),0,false)).length=C8 at *;generalize zag g (q:Int)=kn at *;go_wp2_with fail
      refine Calls.mono HKq.out ?_;rintro e w2 ⟨rfl,hb2⟩;have HB2:Hid (Below w0.heap.size w0 w2):=zaa HB.out hb2;clear hb2 c0 c1 c2 c3 HKq;obtain⟨c0,c1,c2,c3⟩:=HC4.out w2 HB2.out
      rcases hk4 with rfl | rfl | rfl | rfl
      ·-- a class
       clear HT1 HTr HC8;go_wp2_with fail
       refine Calls.mono (HUp.out w2 (q:Int) HB2.out HW.out) ?_;rintro e w3 ⟨uv,rfl,hu,hb3⟩;have HB3:Hid (Below w0.heap.size w0 w3):=zaa HB2.out hb3;obtain⟨up,hup⟩:∃ X,X=upL g (q:Int):=⟨_,rfl⟩;rw[<- hup]at hu HT0;have HU3:Hid (∀ W,Below w3.heap.size w3 W->Is W uv up):=λW hW=>hu.is.later hW
       obtain⟨ua,uc,huv,_,_⟩:=(show Is w3 uv up from hu.is).shape
       subst huv;have HMo:Hid (∀ i,(zfT g up i).length<=(zfT g up g.fs.length).length):=znR;clear c0 c1 c2 c3 hu hb3 hup;go_wp2_with fail
       go_loopw [7,9] (λnv z wx=>∃ i n:Nat,i<=g.fs.length/\z=.int .i64 i/\nv=.int .i64 n/\Hid (CnB 32 n (zfT g up i).length)/\n<=65/\Hid (Below w3.heap.size w3 wx)) (λ_ z _=>g.fs.length - (intOf z).toNat)
       case atStart=>exact⟨0,0,Nat.zero_le _,rfl,rfl,Or.inl rfl,by omega,Below.refl _ _⟩
       case round =>
        obtain⟨i,n,hi,rfl,rfl,HN,hn2,HBx⟩:=hrel;have HB0x:Hid (Below w0.heap.size w0 wr):=zaa HB3.out HBx.out;by_cases hgo:i<g.fs.length/\n<=32
        ·obtain⟨hil,hnb⟩:=hgo;have hii:(i:Int)<(g.fs.length:Int):=by omega
         have hni:(n:Int)<=32:=by omega
         obtain⟨tb,off,hla,_,hel⟩:=(HFs.out w0 (Below.refl _ _)).elAll (by intro e;rw[e]at hil;simp at hil)
         subst hla;have HEl:Hid (∀ W,Below w0.heap.size w0 W->El fdE W tb (off+i * 7) g.fs[i]):=λW hW=>hel W hW i hil
         have HT:Hid (zfT g up (i+1)=zfT g up i ++ (if (up.contains g.fs[i].ow&&!g.fs[i].st)=true then zbl g g.fs[i].t else [])):=zo7 hil
         have HCq:Hid (∀ W,Below w0.heap.size w0 W->Ans 72 #[.agg #[.slice g.ta g.ts.length g.tc,.slice (some ⟨tb,off,none⟩) g.fs.length g.fc,.slice g.ma g.ms.length g.mc,.int .i64 g.en],.agg #[.int .i64 g.fs[i].t.1,.int .i64 g.fs[i].t.2.1,.int .i64 g.fs[i].t.2.2.1,.bool g.fs[i].t.2.2.2],.int .i64 32] W (.int .i64 (zcK 32 (zbl g g.fs[i].t).length))):=λW hW=>HCo.out W g.fs[i].t 32 hW HW.out HU.out (by decide) (by decide) (HU.out _ (List.getElem_mem hil))
         clear hel;generalize g.fs[i]=x at *;have HK:Hid (∀ W,Below w0.heap.size w0 W->(W.cell? ⟨w.heap.size,0,none⟩=some (.slice g.ta g.ts.length g.tc)/\W.cell? ⟨w.heap.size,1,none⟩=some (.slice (some ⟨tb,off,none⟩) g.fs.length g.fc)/\W.cell? ⟨w.heap.size,2,none⟩=some (.slice g.ma g.ms.length g.mc)/\W.cell? ⟨w.heap.size,3,none⟩=some (.int .i64 g.en))/\W.cell? ⟨tb,off+i * 7,none⟩=some (.string x.nm)/\W.cell? ⟨tb,off+i * 7+1,none⟩=some (.int .i64 x.ow)/\W.cell? ⟨tb,off+i * 7+2,none⟩=some (.int .i64 x.t.1)/\W.cell? ⟨tb,off+i * 7+3,none⟩=some (.int .i64 x.t.2.1)/\W.cell? ⟨tb,off+i * 7+4,none⟩=some (.int .i64 x.t.2.2.1)/\W.cell? ⟨tb,off+i * 7+5,none⟩=some (.bool x.t.2.2.2)/\W.cell? ⟨tb,off+i * 7+6,none⟩=some (.bool x.st)):=λW hW=>⟨HC4.out W hW,(HEl.out W hW).cells_F⟩
         obtain⟨⟨c0,c1,c2,c3⟩,k0,k1,k2,k3,k4,k5,k6⟩:=HK.out wr HB0x.out;have HHas:Hid (Calls Tryz.prog 74 #[.slice ua up.length uc,.int .i64 x.ow] wr λe w'=>e=.returned (.bool (up.contains x.ow))/\w'=wr):=zaM (HU3.out wr HBx.out) x.ow
         go_wp2_with fail
         refine Calls.mono HHas.out ?_;rintro e wz ⟨rfl,hz⟩;subst wz;clear HHas
         cases hob:up.contains x.ow with
         | false =>
          have HT2:Hid (CnB 32 n (zfT g up (i+1)).length):=by show CnB _ _ _;rw[HT.out,hob];simpa using HN.out
          clear HT hob;go_wp2_with fail
          go_roundw
          case rel=>exact⟨i+1,n,by omega,by go_num,rfl,HT2.out,by omega,HBx.out⟩
          case measure=>simp[intOf];omega
         | true =>
          cases hst:x.st with
          | true =>
           have HT2:Hid (CnB 32 n (zfT g up (i+1)).length):=by show CnB _ _ _;rw[HT.out,hob,hst];simpa using HN.out
           rw[hst]at k6;clear HT hob hst;go_wp2_with fail
           go_roundw
           case rel=>exact⟨i+1,n,by omega,by go_num,rfl,HT2.out,by omega,HBx.out⟩
           case measure=>simp[intOf];omega
          | false =>
           have HT2:Hid (CnB 32 (n+zcK 32 (zbl g x.t).length) (zfT g up (i+1)).length):=by
            show CnB _ _ _;rw[HT.out,hob,hst,if_pos (by decide),List.length_append]
            exact HN.out.add (zop _ _)
           have hcl:zcK 32 (zbl g x.t).length<=33:=zrU _ _;rw[hst]at k6 HK;clear HT hob hst;generalize zcK 32 (zbl g x.t).length=C at *;go_wp2_with fail
           go_region_held3 (λW:World=>(W.cell? ⟨w.heap.size,0,none⟩=some (.slice g.ta g.ts.length g.tc)/\W.cell? ⟨w.heap.size,1,none⟩=some (.slice (some ⟨tb,off,none⟩) g.fs.length g.fc)/\W.cell? ⟨w.heap.size,2,none⟩=some (.slice g.ma g.ms.length g.mc)/\W.cell? ⟨w.heap.size,3,none⟩=some (.int .i64 g.en))/\W.cell? ⟨tb,off+i * 7,none⟩=some (.string x.nm)/\W.cell? ⟨tb,off+i * 7+1,none⟩=some (.int .i64 x.ow)/\W.cell? ⟨tb,off+i * 7+2,none⟩=some (.int .i64 x.t.1)/\W.cell? ⟨tb,off+i * 7+3,none⟩=some (.int .i64 x.t.2.1)/\W.cell? ⟨tb,off+i * 7+4,none⟩=some (.int .i64 x.t.2.2.1)/\W.cell? ⟨tb,off+i * 7+5,none⟩=some (.bool x.t.2.2.2)/\W.cell? ⟨tb,off+i * 7+6,none⟩=some (.bool false))
            (first | (exact HK.out _ (zaa HB0x.out hBc)) | (exact HK.out _ (zaa HB0x.out (zad _))))
            ((go_at_call 72;refine (HCq.out _ (zaa HB0x.out (zad _))).mono ?_;rintro e w4 ⟨rfl,hb4⟩;have hBc:Below wr.heap.size wr w4:=zaa (zad _) hb4))
           rename_i hheld
           clear hheld;have HB5:Hid (Below w3.heap.size w3 w4):=zaa HBx.out hBc;clear hb4 hBc c0 c1 c2 c3 k0 k1 k2 k3 k4 k5 k6 HK HCq;go_wp2_with fail
           go_roundw
           case rel=>exact⟨i+1,n+C,by omega,by go_num,by simp[IntKind.wrap,IntKind.bits,IntKind.signed];omega,HT2.out,by omega,HB5.out⟩
           case measure=>simp[intOf];omega
        ·have HN2:Hid (CnB 32 n (zfT g up g.fs.length).length):=by
          show CnB _ _ _;by_cases h1:i<g.fs.length
          ·have h2:32<n:=by
            rcases Nat.lt_or_ge 32 n with h | h
            ·exact h
            ·exact absurd ⟨h1,h⟩ hgo
           exact HN.out.more h2 (HMo.out i)
          ·have h2:i=g.fs.length:=by omega
           have:=HN.out
           rwa [h2]at this
         have HRn:Hid (too=decide (32<n)):=HT0.out (by trivial) n HN2.out
         obtain⟨c0,c1,c2,c3⟩:=HC4.out wr HB0x.out;clear HN HN2 HT0;by_cases hbn:32<n
         ·have hbi:(32:Int)<(n:Int):=by omega
          have hnb:¬ (n:Int)<=32:=by omega
          have HR:Hid _:=HBad.out (by rw[HRn.out];simpa using hbn)
          clear HBad HGood HRn;by_cases hil:i<g.fs.length
          ·have hii:(i:Int)<(g.fs.length:Int):=by omega
           clear hgo hbn;go_wp2_with fail
           go_ret2
           exact⟨zbr HR.out,zaa HB0.out HB0x.out⟩
          ·have hii:¬ (i:Int)<(g.fs.length:Int):=by omega
           clear hgo hbn;go_wp2_with fail
           go_ret2
           exact⟨zbr HR.out,zaa HB0.out HB0x.out⟩
         ·have hbi:¬ (32:Int)<(n:Int):=by omega
          have hii:¬ (i:Int)<(g.fs.length:Int):=by omega
          have HR:Hid _:=HGood.out (by rw[HRn.out];simpa using hbn)
          clear HBad HGood HRn hgo hbn;go_wp2_with fail
          go_roundw
          case rel=>exact⟨q+1,by omega,by go_num,HR.out,HB0x.out⟩
          case measure=>simp[intOf];omega
      ·have HR:Hid _:=HGood.out (HTr.out (by decide) (by decide))
       clear HT1 HT0 HTr HC8 HBad HGood;go_wp2_with fail
       go_roundw
       case rel=>exact⟨q+1,by omega,by go_num,HR.out,HB2.out⟩
       case measure=>simp[intOf];omega
      ·have HC9:Hid _:=HC8.out w2 HB2.out (by trivial)
       have HT:Hid (too=decide (8<C8)):=HT1.out (by trivial)
       clear HT1 HT0 HTr HC8;go_wp2_with fail
       refine Calls.mono HC9.out ?_;rintro e w3 ⟨rfl,hb3⟩;have HB3:Hid (Below w0.heap.size w0 w3):=zaa HB2.out hb3;clear hb3 HC9 c0 c1 c2 c3;by_cases h8:8<C8
       ·have h8i:(8:Int)<(C8:Int):=by omega
        have HR:Hid _:=HBad.out (by rw[HT.out];simpa using h8)
        clear h8 HBad HGood HT;go_wp2_with fail
        go_ret2
        exact⟨zbr HR.out,zaa HB0.out HB3.out⟩
       ·have h8i:¬ (8:Int)<(C8:Int):=by omega
        have HR:Hid _:=HGood.out (by rw[HT.out];simpa using h8)
        clear h8 HBad HGood HT;go_wp2_with fail
        go_roundw
        case rel=>exact⟨q+1,by omega,by go_num,HR.out,HB3.out⟩
        case measure=>simp[intOf];omega
      ·have HR:Hid _:=HGood.out (HTr.out (by decide) (by decide))
       clear HT1 HT0 HTr HC8 HBad HGood;go_wp2_with fail
       go_roundw
       case rel=>exact⟨q+1,by omega,by go_num,HR.out,HB2.out⟩
       case measure=>simp[intOf];omega
     ·have hqi:¬ (q:Int)<(g.ts.length:Int):=by omega
      have HR:Hid _:=HL4.out HW.out HU.out (λj hj=>HA.out j (by omega))
      obtain⟨c0,c1,c2,c3⟩:=HC4.out wr HB.out;go_wp2_with fail
      go_ret2
      exact⟨zbr HR.out,zaa HB0.out HB.out⟩
theorem zgF {g:Img} {w:World} (hg:Im w g) (hnm:g.nmOk):Ans 20 #[zao g] w (.bool (zbc g)):=by
 obtain⟨w0,HW0,HB0,HG,HC,HI,c0,c1,c2,c3⟩:=zaG hg;have HCk:Hid (Ans 46 #[zao g] w0 (.tuple #[.int .i64 (zb8 g).1,.int .i64 (zb8 g).2])):=zfJ (HI.out w0 (Below.refl _ _)) hnm;have HF:Hid (((zb8 g).2==0)=zbc g):=zrX;unfold zao at HCk ⊢;clear hg HC;generalize (zb8 g).1=k1 at *;generalize (zb8 g).2=k2 at *;go_enter Tryz.func20,Tryz.ntmps20;go_wp2_with (rw[<- HW0.out])
 refine Calls.mono HCk.out ?_;rintro e w1 ⟨rfl,hb1⟩;have HB1:Hid (Below w0.heap.size w0 w1):=hb1;clear hb1 c0 c1 c2 c3 HCk;go_wp2
 all_goals go_ret
 all_goals exact⟨zab (by rw[<- HF.out]),zaa HB0.out HB1.out⟩
end Go.Proofs.YtkedhjdipnhgdaaGreat
