import Derived.Test.YtkedhjdipnhgdaaGreatR42
import Derived.Test.YtkedhjdipnhgdaaGreatR43
namespace Go.Proofs.YtkedhjdipnhgdaaGreat
set_option maxHeartbeats 16000000
set_option linter.all false
open RowKit
attribute [local go_sem ↓] wp_at_zero wp_at_succ
theorem zgD {g:Img} {t m:Int} (h:m∈zat g t):zbT g m/\zfq g m=t:=by
 obtain⟨q,hq,rfl,ho⟩:=zdL h;exact⟨zai.2 (by omega),by rw[za2 hq,ho]⟩
theorem zsH {g:Img} {t:Int} {i:Nat} (hi:i<(zaH g t).length) (hb:zaf (zcR g (zaH g t)[i]) 4=true):zev g t=false:=by
 unfold zev;have:(zaH g t).all (λm=>!zaf (zcR g m) 4)=false:=by
  rw[List.all_eq_false];exact⟨_,List.getElem_mem hi,by rw[hb];simp⟩
 rw[this];rfl
theorem zqb {g:Img} {t f m:Int} (hf:f∈zbj g t) (hm:m∈zat g f) (h:zaL g t m = -1):zev g t=false:=by
 unfold zev;have:(zbj g t).all (λf=>(zat g f).all (λm=>decide (zaL g t m≠-1)))=false:=by
  rw[List.all_eq_false];refine⟨f,hf, ?_⟩;rw[Bool.not_eq_true,List.all_eq_false];exact⟨m,hm,by rw[h];simp⟩
 rw[this,Bool.and_false]
theorem ztj {g:Img} {t:Int} (h1:∀ m∈zaH g t,zaf (zcR g m) 4=false) (h2:∀ f∈zbj g t,∀ m∈zat g f,zaL g t m≠-1):zev g t=true:=by
 unfold zev;rw[Bool.and_eq_true,List.all_eq_true,List.all_eq_true];refine⟨λm hm=>by rw[h1 m hm];rfl,λf hf=>?_⟩
 rw[List.all_eq_true];exact λm hm=>by simpa using h2 f hf m hm
set_option maxRecDepth 20000 in
theorem zjI {g:Img} {t:Int} {w:World} (hg:Im w g) (hw:zaY g=true) (ht:zag g t=0) (hwf:Wf t):Ans 17 #[zao g,.int .i64 t] w (.bool (zaf (flI g t) 4||zev g t)):=by
 obtain⟨w0,HW0,HB0,HG,HC,HI,c0,c1,c2,c3⟩:=zaG hg;have W0:=Wel.of hw;have hi:=W0.im;have hln:=zax hi;have hn:zam t g.ts.length=true:=zbk (by rw[ht];decide)
 have HAb:Hid (∀ W,Below w0.heap.size w0 W->Ans 41 #[zao g,.int .i64 t] W (.bool (zaf (flI g t) 4))):=λW hW=>by
  obtain⟨q,hq,hql⟩:=zaK hn;rw[hq];exact zce (HI.out W hW) hi hql
 have HTb:Hid (∀ W,Below w0.heap.size w0 W->Calls Tryz.prog 30 #[zao g,.int .i64 t] W λe w'=>∃ v,e=.returned (tbV g v)/\OwnI w' W.heap.size v (zaH g t)/\Below W.heap.size W w'):=λW hW=>zb9 hw hn (HI.out W hW)
 have HFc:Hid (∀ W,Below w0.heap.size w0 W->Calls Tryz.prog 43 #[zao g,.int .i64 t] W λe w'=>∃ v l,e=.returned v/\l.Perm (zbj g t)/\OwnI w' W.heap.size v l/\Below W.heap.size W w'):=λW hW=>zhP (HI.out W hW) hi hwf
 have HMt:Hid (∀ W u,Below w0.heap.size w0 W->Calls Tryz.prog 18 #[zao g,.int .i64 u] W λe w'=>∃ v,e=.returned v/\OwnI w' W.heap.size v (zat g u)/\Below W.heap.size W w'):=λW u hW=>zbI (HI.out W hW) hi
 have HDn:Hid (∀ W f m,Below w0.heap.size w0 W->f∈zbj g t->m∈zat g f->Ans 33 #[zao g,.int .i64 t,.int .i64 m] W (.int .i64 (zaL g t m))):=λW f m hW hf hm=>by
  obtain⟨h1,h2⟩:=zgD hm;exact zfW (HI.out W hW) hw h1 ht hwf (zgl.2 (Or.inr (by rw[h2];exact hf)))
 have HHs:Hid (∀ W (q:Nat) (hq:q<g.ms.length),Ans 42 #[mdV g.ms[q],.int .i64 4] W (.bool (zaf (zcR g (q:Int)) 4))):=λW q hq=>by
  rw[za4 hq];exact (zaZ _ (zav hi hq) W).2.2.1
 have HMq:Hid (∀ (q:Nat) (hq:q<g.ms.length),∃ mb moff,g.ma=some ⟨mb,moff,none⟩/\g.ms.length<=g.mc/\g.mc<=maxLen/\∀ W,Below w0.heap.size w0 W->∀ k (hk:k<g.ms.length),MtA W mb (moff+k * 12) g.ms[k]):=λq hq=>(HI.out w0 (Below.refl _ _)).mth hq
 have HTn:Hid (∀ m∈zaH g t,∃ (q:Nat) (hq:q<g.ms.length),m=(q:Int)):=λm hm=>zbE (zbM hm)
 have HW1:Hid (∀ (i:Nat) (hi:i<(zaH g t).length),zaf (zcR g (zaH g t)[i]) 4=true->zev g t=false):=λi hi h=>zsH hi h
 have HW2:Hid (∀ f m,f∈zbj g t->m∈zat g f->zaL g t m = -1->zev g t=false):=λf m hf hm h=>zqb hf hm h
 have HW3:Hid ((∀ m∈zaH g t,zaf (zcR g m) 4=false)->(∀ f∈zbj g t,∀ m∈zat g f,zaL g t m≠-1)->zev g t=true):=ztj;have HML:Hid (∀ u,(zat g u).length<=64):=λu=>by
  show (zat g u).length<=64;unfold zat
  cases zam u g.ts.length with
  | false=>simp
  | true =>
   have:=zbX (λx:MD=>decide (x.ow=u)) g.ms 0
   rw[if_pos rfl];omega
 have HR:Hid ((zaf (flI g t) 4||zev g t)=(zaf (flI g t) 4||zev g t)):=rfl
 have HC4:Hid (∀ W,Below w0.heap.size w0 W->Im4 W w.heap.size g):=HC.out;have hfl:=zgs;unfold zao at HAb HTb HFc HMt HDn ⊢;unfold tbV at HTb;unfold mdV at HHs;unfold Im4 at HC4;clear hg hw ht hwf hn W0 hi HG HC HI;generalize g.ma=ma at *;generalize zaH g t=T at *;generalize zbj g t=FL at *;generalize zev g t=wh at *;generalize zaf (flI g t) 4=ab at *;go_enter Tryz.func17,Tryz.ntmps17;go_wp2_with (rw[<- HW0.out])
 refine Calls.mono (HAb.out w0 (Below.refl _ _)) ?_;rintro e w1 ⟨rfl,hb1⟩;have HB1:Hid (Below w0.heap.size w0 w1):=hb1;clear hb1 c0 c1 c2 c3 HAb
 cases ab with
 | true =>
  go_wp2_with fail
  go_ret;exact⟨rfl,zaa HB0.out HB1.out⟩
 | false =>
  obtain⟨c0,c1,c2,c3⟩:=HC4.out w1 HB1.out;go_wp2_with fail
  refine Calls.mono (HTb.out w1 HB1.out) ?_;rintro e w2 ⟨tv,rfl,ho2,hb2⟩;have HB2:Hid (Below w0.heap.size w0 w2):=zaa HB1.out hb2;obtain⟨ta,tc,htv,_,htc⟩:=ho2.is.shape;have HTs:Hid (∀ W,Below w2.heap.size w2 W->Is W (.slice ta T.length tc) T):=λW hW=>by
   have:=ho2.is.later hW;rw[htv]at this;exact this
  have htl:=ho2.is.len;rw[zae]at htl;subst htv;unfold maxLen at htc htl;clear ho2 hb2 c0 c1 c2 c3 HTb;go_wp2_with fail
  go_loopw [6,19] (λ_ z wr=>∃ i:Nat,i<=T.length/\z=.int .i64 i/\Hid (Below w2.heap.size w2 wr)/\Hid (∀ m∈T.take i,zaf (zcR g m) 4=false)) (λ_ z _=>T.length - (intOf z).toNat)
  case atStart=>exact⟨0,Nat.zero_le _,rfl,Below.refl _ _,(show ∀ t∈_,_ from by simp)⟩
  case round =>
   obtain⟨i,hil0,rfl,HB,HA⟩:=hrel;by_cases hil:i<T.length
   ·have hii:(i:Int)<(T.length:Int):=by omega
    have HB0r:Hid (Below w0.heap.size w0 wr):=zaa HB2.out HB.out;obtain⟨r,hr,hTr⟩:=HTn.out T[i] (List.getElem_mem hil);have hri:(r:Int)<(g.ms.length:Int):=by omega
    obtain⟨mb,moff,hma,h3,h4,hcm⟩:=HMq.out r hr;obtain⟨lb,loff,hla,hlb,_,h6',h7',hcv⟩:=(HTs.out wr HB.out).at hil;have cA:=hcv i hil;have hM:=hcm wr HB0r.out r hr;obtain⟨k0,k1,k2,k3,k4,k5,k6,k7,k8,k9,k10,k11⟩:=hM;have HHq:Hid (Ans 42 _ wr (.bool (zaf (zcR g (r:Int)) 4))):=HHs.out wr r hr;have HBd:Hid (zaf (zcR g (r:Int)) 4=true->wh=false):=λh=>HW1.out i hil (by rw[hTr];exact h)
    have HGd:Hid (zaf (zcR g (r:Int)) 4=false->∀ m∈T.take (i+1),zaf (zcR g m) 4=false):=λh m hm=>by
     rw[List.take_succ_eq_append_getElem hil]at hm
     rcases List.mem_append.1 hm with hm | hm
     ·exact HA.out m hm
     ·simp at hm;subst hm;rw[hTr];exact h
    obtain⟨c0,c1,c2,c3⟩:=HC4.out wr HB0r.out;rw[hTr]at cA;unfold maxLen at h4;subst hla hma;clear hcv hTr hcm;generalize zaf (zcR g (r:Int)) 4=b4 at *;generalize g.ms[r]=x at *;go_wp2_with fail
    refine Calls.mono HHq.out ?_;rintro e w3 ⟨rfl,hb3⟩;have HB3:Hid (Below w2.heap.size w2 w3):=zaa HB.out hb3;have HB03:Hid (Below w0.heap.size w0 w3):=zaa HB0r.out hb3;clear hb3 HHq cA c0 c1 c2 c3 k0 k1 k2 k3 k4 k5 k6 k7 k8 k9 k10 k11
    cases b4 with
    | true =>
     have HF:Hid (wh=false):=HBd.out (by trivial)
     go_wp2_with fail
     go_ret;exact⟨zab (by rw[HF.out];rfl),zaa HB0.out HB03.out⟩
    | false =>
     have HA2:Hid _:=HGd.out (by trivial)
     go_wp2_with fail
     go_roundw
     case rel=>exact⟨i+1,by omega,by go_num,HB3.out,HA2.out⟩
     case measure=>simp[intOf] <;> omega
   ·have hii:¬ (i:Int)<(T.length:Int):=by omega
    have HAll:Hid (∀ m∈T,zaf (zcR g m) 4=false):=λm hm=>HA.out m (by rw[List.take_of_length_le (by omega)];exact hm)
    have HB0r:Hid (Below w0.heap.size w0 wr):=zaa HB2.out HB.out;obtain⟨c0,c1,c2,c3⟩:=HC4.out wr HB0r.out;clear HA HB;go_wp2_with fail
    refine Calls.mono (HFc.out wr HB0r.out) ?_;rintro e w3 ⟨fv,FL2,rfl,hperm,ho3,hb3⟩;have HPm:Hid (FL2.Perm FL):=hperm;have HB3:Hid (Below w0.heap.size w0 w3):=zaa HB0r.out hb3;obtain⟨fa,fc,hfv,_,hfc⟩:=ho3.is.shape;have HFs:Hid (∀ W,Below w3.heap.size w3 W->Is W (.slice fa FL2.length fc) FL2):=λW hW=>by
     have:=ho3.is.later hW;rw[hfv]at this;exact this
    have hfl2:=ho3.is.len;rw[zae]at hfl2;subst hfv;unfold maxLen at hfc hfl2;clear ho3 hb3 hperm c0 c1 c2 c3 HFc HB0r;go_wp2_with fail
    obtain⟨wo,hwo⟩:∃ W,W=wr:=⟨_,rfl⟩;subst hwo;go_loopw [8,10,34] (λ_ _ z wx=>∃ j:Nat,j<=FL2.length/\z=.int .i64 j/\Hid (Below w3.heap.size w3 wx)/\Hid (∀ f∈FL2.take j,∀ m∈zat g f,zaL g t m≠-1)) (λ_ _ z _=>FL2.length - (intOf z).toNat)
    case atStart=>exact⟨0,Nat.zero_le _,rfl,Below.refl _ _,(show ∀ t∈_,_ from by simp)⟩
    case round =>
     obtain⟨j,hjl0,rfl,HB,HA⟩:=hrel;by_cases hjl:j<FL2.length
     ·have hji:(j:Int)<(FL2.length:Int):=by omega
      have HB0r:Hid (Below w0.heap.size w0 wr):=zaa HB3.out HB.out;obtain⟨lb,loff,hla,hlb,_,h6',h7',hcv⟩:=(HFs.out wr HB.out).at hjl;have cA:=hcv j hjl;have hfm:FL2[j]∈FL:=HPm.out.mem_iff.1 (List.getElem_mem hjl);have HMu:Hid _:=HMt.out wr FL2[j] HB0r.out;have HBd:Hid (∀ m∈zat g FL2[j],zaL g t m = -1->wh=false):=λm hm h=>HW2.out _ m hfm hm h
      have HDq:Hid (∀ W m,Below w0.heap.size w0 W->m∈zat g FL2[j]->Ans 33 #[.agg #[.slice g.ta g.ts.length g.tc,.slice g.fa g.fs.length g.fc,.slice ma g.ms.length g.mc,.int .i64 g.en],.int .i64 t,.int .i64 m] W (.int .i64 (zaL g t m))):=λW m hW hm=>HDn.out W FL2[j] m hW hfm hm
      have HGd:Hid ((∀ m∈zat g FL2[j],zaL g t m≠-1)->∀ f∈FL2.take (j+1),∀ m∈zat g f,zaL g t m≠-1):=λh f hf m hm=>by
       rw[List.take_succ_eq_append_getElem hjl]at hf
       rcases List.mem_append.1 hf with hf | hf
       ·exact HA.out f hf m hm
       ·simp at hf;subst hf;exact h m hm
      have hml:=HML.out FL2[j];obtain⟨c0,c1,c2,c3⟩:=HC4.out wr HB0r.out;subst hla;clear hcv hfm;generalize zat g FL2[j]=M at *;generalize FL2[j]=f at *;go_wp2_with fail
      refine Calls.mono HMu.out ?_;rintro e w4 ⟨mv,rfl,ho4,hb4⟩;have HB4:Hid (Below w3.heap.size w3 w4):=zaa HB.out hb4;obtain⟨va,vc,hvv,_,hvc⟩:=ho4.is.shape;have HVs:Hid (∀ W,Below w4.heap.size w4 W->Is W (.slice va M.length vc) M):=λW hW=>by
       have:=ho4.is.later hW;rw[hvv]at this;exact this
      subst hvv;unfold maxLen at hvc;clear ho4 hb4 c0 c1 c2 c3 cA HMu HB0r;go_wp2_with fail
      obtain⟨wo2,hwo2⟩:∃ W,W=wr:=⟨_,rfl⟩;subst hwo2;go_loopw [10,42] (λ_ z wx=>∃ s:Nat,s<=M.length/\z=.int .i64 s/\Hid (Below w4.heap.size w4 wx)/\Hid (∀ m∈M.take s,zaL g t m≠-1)) (λ_ z _=>M.length - (intOf z).toNat)
      case atStart=>exact⟨0,Nat.zero_le _,rfl,Below.refl _ _,(show ∀ t∈_,_ from by simp)⟩
      case round =>
       obtain⟨s,hsl0,rfl,HBs,HAs⟩:=hrel;by_cases hsl:s<M.length
       ·have hsi:(s:Int)<(M.length:Int):=by omega
        have HB0r:Hid (Below w0.heap.size w0 wr):=zaa HB3.out (zaa HB4.out HBs.out);obtain⟨lb2,loff2,hla,hlb2,_,h8',h9',hcv⟩:=(HVs.out wr HBs.out).at hsl;have cB:=hcv s hsl;have HDs:Hid _:=HDq.out wr M[s] HB0r.out (List.getElem_mem hsl);have HBs1:Hid (zaL g t M[s] = -1->wh=false):=λh=>HBd.out _ (List.getElem_mem hsl) h
        have HGs:Hid (zaL g t M[s]≠-1->∀ m∈M.take (s+1),zaL g t m≠-1):=λh m hm=>by
         rw[List.take_succ_eq_append_getElem hsl]at hm
         rcases List.mem_append.1 hm with hm | hm
         ·exact HAs.out m hm
         ·simp at hm;subst hm;exact h
        obtain⟨c0,c1,c2,c3⟩:=HC4.out wr HB0r.out;subst hla;clear hcv;generalize zaL g t M[s]=d at *;generalize M[s]=m at *;go_wp2_with fail
        refine Calls.mono HDs.out ?_;rintro e w5 ⟨rfl,hb5⟩;have HB5:Hid (Below w4.heap.size w4 w5):=zaa HBs.out hb5;have HB05:Hid (Below w0.heap.size w0 w5):=zaa HB0r.out hb5;clear hb5 HDs cB c0 c1 c2 c3;by_cases hd:d = -1
        ·subst hd;have HF:Hid (wh=false):=HBs1.out (by trivial)
         go_wp2_with fail
         go_ret;exact⟨zab (by rw[HF.out];rfl),zaa HB0.out HB05.out⟩
        ·have hdb:(d == -1)=false:=by simpa using hd
         have HA2:Hid _:=HGs.out hd;clear hd;go_wp2_with fail
         go_roundw
         case rel=>exact⟨s+1,by omega,by go_num,HB5.out,HA2.out⟩
         case measure=>simp[intOf] <;> omega
       ·have hsi:¬ (s:Int)<(M.length:Int):=by omega
        have HA2:Hid _:=HGd.out (λm hm=>HAs.out m (by rw[List.take_of_length_le (by omega)];exact hm))
        go_wp2_with fail
        go_roundw
        case rel=>exact⟨j+1,by omega,by go_num,zaa HB4.out HBs.out,HA2.out⟩
        case measure=>simp[intOf] <;> omega
     ·have hji:¬ (j:Int)<(FL2.length:Int):=by omega
      have HF:Hid (wh=true):=HW3.out HAll.out (λf hf=>HA.out f (by rw[List.take_of_length_le (by omega)];exact HPm.out.mem_iff.2 hf))
      go_wp2_with fail
      go_ret;exact⟨zab (by rw[HF.out]),zaa HB0.out (zaa HB3.out HB.out)⟩
theorem zvi {t:Ty} (h:za9 3 t=true):(decide (t=(1,0,0,false))||(decide (t=(2,0,0,false))||decide (t=(3,0,0,false))))=(decide (t.2.2.1=0)&&decide (1<=t.1/\t.1<=3)):=by
 obtain⟨k,i,d,r⟩:=t;have h0:zaB k i d r=true/\r=false:=by
  unfold za9 zbO at h;rw[if_neg (by decide),if_neg (by decide),if_pos rfl,Bool.and_eq_true,Bool.not_eq_true']at h
  exact h
 obtain⟨h1,h5⟩:=h0;unfold zaB at h1;rw[decide_eq_true_iff]at h1;obtain⟨h1,h2,h3,h4⟩:=h1;subst h5;rw[Bool.eq_iff_iff];simp only[Bool.or_eq_true,decide_eq_true_iff,Bool.and_eq_true,Prod.mk.injEq,and_true];omega
theorem zi4 {x:MD} (hx:0<=x.fl/\x.fl<=31) (hr:za9 3 x.rt=true) (w:World):Ans 19 #[mdV x] w (.bool (ziB x)):=by
 obtain⟨w0,HW0,HB0,HC,c0,c1,c2,c3,c4,c5,c6,c7,c8,c9,c10,c11⟩:=zcF w x;have HH:Hid (∀ W,Ans 42 #[mdV x,.int .i64 1] W (.bool (zaf x.fl 1))/\Ans 42 #[mdV x,.int .i64 4] W (.bool (zaf x.fl 4))):=λW=>⟨(zaZ x hx W).1,(zaZ x hx W).2.2.1⟩
 have HR:Hid (ziB x=(zaf x.fl 1&&(decide (x.ps=[])&&(!zaf x.fl 4&&(decide (x.rt=(1,0,0,false))||(decide (x.rt=(2,0,0,false))||decide (x.rt=(3,0,0,false)))))))):=by
  show _=_;rw[zvi hr];rfl
 have q1:∀ W:World,(binOp .eql 47 (.agg #[.int .i64 x.rt.1,.int .i64 x.rt.2.1,.int .i64 x.rt.2.2.1,.bool x.rt.2.2.2]) (.agg #[.int .i64 1,.int .i64 0,.int .i64 0,.bool false])).run Tryz.prog W=.ok (.bool (decide (x.rt=(1,0,0,false)))) W:=λW=>zf1 W x.rt (1,0,0,false)
 have q2:∀ W:World,(binOp .eql 47 (.agg #[.int .i64 x.rt.1,.int .i64 x.rt.2.1,.int .i64 x.rt.2.2.1,.bool x.rt.2.2.2]) (.agg #[.int .i64 2,.int .i64 0,.int .i64 0,.bool false])).run Tryz.prog W=.ok (.bool (decide (x.rt=(2,0,0,false)))) W:=λW=>zf1 W x.rt (2,0,0,false)
 have q3:∀ W:World,(binOp .eql 47 (.agg #[.int .i64 x.rt.1,.int .i64 x.rt.2.1,.int .i64 x.rt.2.2.1,.bool x.rt.2.2.2]) (.agg #[.int .i64 3,.int .i64 0,.int .i64 0,.bool false])).run Tryz.prog W=.ok (.bool (decide (x.rt=(3,0,0,false)))) W:=λW=>zf1 W x.rt (3,0,0,false)
 have HE:Hid (decide (x.ps=[])=decide (x.ps.length=0)):=by
  show _=_;rw[decide_eq_decide];exact List.length_eq_zero_iff.symm
 unfold mdV at HH;clear hx hr;generalize ziB x=R at *;generalize zaf x.fl 1=b1 at *;generalize zaf x.fl 4=b4 at *;generalize decide (x.rt=(1,0,0,false))=r1 at *;generalize decide (x.rt=(2,0,0,false))=r2 at *;generalize decide (x.rt=(3,0,0,false))=r3 at *;unfold mdV;generalize decide (x.ps=[])=e0 at *;generalize hxn:x.ps.length=n at *;have HXn:Hid (x.ps.length=n):=hxn;clear hxn;go_enter Tryz.func19,Tryz.ntmps19;go_wp2_with (rw[<- HW0.out])
 refine Calls.mono (HH.out _).1 ?_;rintro e w1 ⟨rfl,hb1⟩;have HB1:Hid (Below w0.heap.size w0 w1):=hb1;clear hb1 c0 c1 c2 c3 c4 c5 c6 c7 c8 c9 c10 c11
 cases b1 with
 | false =>
  go_wp2_with fail
  go_ret;exact⟨zab (by rw[HR.out];rfl),zaa HB0.out HB1.out⟩
 | true =>
  obtain⟨c0,c1,c2,c3,c4,c5,c6,c7,c8,c9,c10,c11⟩:=HC.out w1 HB1.out;rw[HXn.out]at c3;by_cases hn:n=0
  ·have HP:Hid (e0=true):=by
    show _=_;rw[HE.out];exact decide_eq_true hn
   subst hn;go_wp2_with fail
   refine Calls.mono (HH.out _).2 ?_;rintro e w2 ⟨rfl,hb2⟩;have HB2:Hid (Below w0.heap.size w0 w2):=zaa HB1.out hb2;clear hb2 c0 c1 c2 c3 c4 c5 c6 c7 c8 c9 c10 c11
   cases b4 with
   | true =>
    go_wp2_with fail
    go_ret;exact⟨zab (by rw[HR.out,HP.out];rfl),zaa HB0.out HB2.out⟩
   | false =>
    obtain⟨c0,c1,c2,c3,c4,c5,c6,c7,c8,c9,c10,c11⟩:=HC.out w2 HB2.out;rw[HXn.out]at c3
    cases r1 with
    | true =>
     go_wp2_with fail
     go_ret;exact⟨zab (by rw[HR.out,HP.out];rfl),zaa HB0.out HB2.out⟩
    | false =>
     cases r2 with
     | true =>
      go_wp2_with fail
      go_ret;exact⟨zab (by rw[HR.out,HP.out];rfl),zaa HB0.out HB2.out⟩
     | false =>
      cases r3 with
      | true =>
       go_wp2_with fail
       go_ret;exact⟨zab (by rw[HR.out,HP.out];rfl),zaa HB0.out HB2.out⟩
      | false =>
       go_wp2_with fail
       go_ret;exact⟨zab (by rw[HR.out,HP.out];rfl),zaa HB0.out HB2.out⟩
  ·have HP:Hid (e0=false):=by
    show _=_;rw[HE.out];exact decide_eq_false hn
   have hpn:0<n:=by omega
   have hpi:(0:Int)<(n:Int):=by omega
   go_wp2_with fail
   go_ret;exact⟨zab (by rw[HR.out,HP.out];rfl),zaa HB0.out HB1.out⟩
theorem zmo {n nf nm len:Nat} {y:Ins} (h:zfz n nf nm len y=true):1<=y.1/\y.1<=75:=by
 unfold zfz zpG zge at h;rw[Bool.and_eq_true,decide_eq_true_iff]at h;by_cases hr:1<=y.1/\y.1<=75
 ·exact hr
 ·rw[if_neg hr]at h;exact absurd h.1 (by decide)
theorem zlu {l:List Ins} {q:Nat} (hq:q<l.length):zdC (l.take (q+1))=zdC (l.take q) ++ (if opP l[q].1=8 then [l[q].2.2] else []):=by
 unfold zdC;rw[List.take_succ_eq_append_getElem hq,List.filter_append,List.map_append]
 congr 1
 by_cases h:opP l[q].1=8 <;> simp[List.filter_cons,h]
theorem zlW {l:List Cl} {q:Nat} (hq:q<l.length):zez (l.take (q+1))=zez (l.take q) ++ (if l[q].k=1 then [(l[q].t0,l[q].t1,l[q].t2,l[q].t3)] else []):=by
 unfold zez;rw[List.take_succ_eq_append_getElem hq,List.filter_append,List.map_append]
 congr 1
 by_cases h:l[q].k=1 <;> simp[List.filter_cons,h]
theorem zoS (l:List Ins):(zdC l).length<=l.length:=by unfold zdC;rw[List.length_map];exact List.length_filter_le _ _
theorem zps (l:List Cl):(zez l).length<=l.length:=by unfold zez;rw[List.length_map];exact List.length_filter_le _ _
structure MdLen (x:MD):Prop where
 ps:x.ps.length<=6
 ls:x.ls.length<=12
 co:x.co.length<=160
 cl:x.cl.length<=6
theorem zdy {g:Img} (hi:imB g=true) {q:Nat} (hq:q<g.ms.length):zdS g.ms[q].ps g.ms[q].rt=0/\zfr g.ms[q].ls=0/\g.ms[q].co.length<=160/\(∀ y∈g.ms[q].co,zfz g.ts.length g.fs.length g.ms.length g.ms[q].co.length y=true)/\zdD g.ms[q].co.length g.ms[q].cl/\(∀ c∈g.ms[q].cl,zgb g.ts.length c=true)/\0<=g.ms[q].mx/\zam g.ms[q].ow g.ts.length=true:=by
 unfold imB at hi;simp only[Bool.and_eq_true,List.all_eq_true]at hi;have:=hi.1.2.1 g.ms[q] (List.getElem_mem hq);unfold mdB zb7 zjA at this;simp only[Bool.and_eq_true,List.all_eq_true,@decide_eq_true_iff (zdS _ _=0),@decide_eq_true_iff (zfr _=0),@decide_eq_true_iff (_<=_),decide_eq_true_eq]at this;exact⟨this.1.1.1.2.1.1,this.1.1.2.1,this.1.2.1,this.1.2.2,this.2.1,this.2.2,this.1.1.1.1.2.1,this.1.1.1.1.1.1.2⟩
theorem zr9 {g:Img} (hi:imB g=true) {q:Nat} (hq:q<g.ms.length):MdLen g.ms[q]:=by
 obtain⟨h1,h2,h3,_,h5,_⟩:=zdy hi hq;refine⟨?_, ?_,h3,h5.1⟩
 ·unfold zdS at h1
  split at h1
  ·omega
  ·omega
 ·unfold zfr at h2
  split at h2
  ·omega
  ·omega
theorem zq4 {g:Img} (hi:imB g=true) {q:Nat} (hq:q<g.ms.length):∀ t∈zfN g.ms[q],plainT t=true:=by
 obtain⟨h1,h2,_,h4,_,h6,_⟩:=zdy hi hq;have hp:∀ (p:Nat) (t:Ty),za9 p t=true->plainT t=true:=λp t h=>by
  unfold za9 zbO at h;unfold plainT
  split at h
  ·simp only[Bool.and_eq_true]at h;exact h.1.1
  ·split at h
   ·simp only[Bool.and_eq_true]at h;exact h.1
   ·split at h
    ·simp only[Bool.and_eq_true]at h;exact h.1
    ·exact h
 have hs:za9 3 g.ms[q].rt=true/\g.ms[q].ps.all (za9 2)=true:=by
  unfold zdS at h1
  split at h1
  ·omega
  ·split at h1
   ·assumption
   ·omega
 have hl:g.ms[q].ls.all (za9 2)=true:=by
  unfold zfr at h2
  split at h2
  ·omega
  ·split at h2
   ·assumption
   ·omega
 rw[List.all_eq_true]at hl;have hs2:=List.all_eq_true.1 hs.2;intro t ht;unfold zfN at ht;simp only[List.mem_append,List.mem_singleton]at ht
 rcases ht with (((rfl | ht) | ht) | ht) | ht
 ·exact hp 3 _ hs.1
 ·exact hp 2 t (hs2 t ht)
 ·exact hp 2 t (hl t ht)
 ·unfold zdC at ht;obtain⟨y,hy,rfl⟩:=List.mem_map.1 ht;rw[List.mem_filter,decide_eq_true_iff]at hy;have h7:=h4 y hy.1;have hr:=zmo h7;unfold zfz zpG zge at h7;rw[Bool.and_eq_true,decide_eq_true_iff,if_pos hr]at h7;have h8:zfY (opP y.1) y.2.1 y.2.2.1 y.2.2.2.1 y.2.2.2.2.1 y.2.2.2.2.2=true:=by
   have:=h7.1
   split at this
   ·assumption
   ·omega
  unfold zfY at h8;rw[hy.2,if_pos rfl,Bool.and_eq_true]at h8;exact hp 1 y.2.2 h8.2
 ·unfold zez at ht;obtain⟨c,hc,rfl⟩:=List.mem_map.1 ht;rw[List.mem_filter,decide_eq_true_iff]at hc;have h7:=h6 c hc.1;unfold zgb at h7;rw[if_pos hc.2]at h7;unfold zrh at h7;rw[Bool.and_eq_true]at h7;exact hp 1 _ h7.1
def zpW (x:MD):Prop:=∀ y∈x.co,1<=y.1/\y.1<=75
theorem zrY {g:Img} (hi:imB g=true) {q:Nat} (hq:q<g.ms.length):zpW g.ms[q]:=λy hy=>zmo ((zdy hi hq).2.2.2.1 y hy)
set_option maxRecDepth 20000 in
theorem zj7 {x:MD} {w:World} (hx:x.ok w) (hl:MdLen x) (ho:zpW x):Calls Tryz.prog 38 #[mdV x] w λe w'=>∃ v,e=.returned v/\OwnE tyE w' w.heap.size 47 v (zfN x)/\Below w.heap.size w w':=by
 obtain⟨w0,HW0,HB0,HC,c0,c1,c2,c3,c4,c5,c6,c7,c8,c9,c10,c11⟩:=zcF w x;have HPs:Hid (∀ W,Below w0.heap.size w0 W->Es tyE W (.slice x.pa x.ps.length x.pc) x.ps):=λW hW=>(hx.ps.later HB0.out).later hW
 have HLs:Hid (∀ W,Below w0.heap.size w0 W->Es tyE W (.slice x.la x.ls.length x.lc) x.ls):=λW hW=>(hx.ls.later HB0.out).later hW
 have HCo:Hid (∀ W,Below w0.heap.size w0 W->Es zcv W (.slice x.ca x.co.length x.cc) x.co):=λW hW=>(hx.co.later HB0.out).later hW
 have HCl:Hid (∀ W,Below w0.heap.size w0 W->Es zci W (.slice x.ka x.cl.length x.kc) x.cl):=λW hW=>(hx.cl.later HB0.out).later hW
 have HOp:Hid (∀ y∈x.co,1<=y.1/\y.1<=75):=ho;obtain⟨l1,l2,l3,l4⟩:=hl;have HTy:Hid (zfN x=[x.rt] ++ x.ps ++ x.ls ++ zdC x.co ++ zez x.cl):=rfl;have HiL:Hid (∀ q,(zdC (x.co.take q)).length<=160):=λq=>by
  have:=zoS (x.co.take q);rw[List.length_take]at this;omega
 have HcL:Hid (∀ q,(zez (x.cl.take q)).length<=6):=λq=>by
  have:=zps (x.cl.take q);rw[List.length_take]at this;omega
 clear hx ho;generalize zfN x=R at *;obtain⟨w1,hw1⟩:∃ W,W=w0.alloc (.cells #[.int .i64 x.rt.1,.int .i64 x.rt.2.1,.int .i64 x.rt.2.2.1,.bool x.rt.2.2.2] 47):=⟨_,rfl⟩;have HW1:Hid (w1=_):=hw1;have hb1:Below w0.heap.size w0 w1:=by rw[hw1];exact zac _ _ _
 have HB1:Hid (Below w0.heap.size w0 w1):=hb1;have HO1:Hid (OwnE tyE w1 w0.heap.size 47 (.slice (some ⟨w0.heap.size,0,none⟩) 1 1) [x.rt]):=by rw[hw1];exact zoD w0 x.rt _ (Nat.le_refl _)
 obtain⟨b0,b1,b2,b3,b4,b5,b6,b7,b8,b9,b10,b11⟩:=HC.out w1 hb1;have HE1:Hid (Es tyE w1 (.slice x.pa x.ps.length x.pc) x.ps):=HPs.out w1 hb1;have hs1:w0.heap.size<=w1.heap.size:=hb1.size;clear hw1 hb1;unfold mdV;unfold Mt at HC;generalize x.ca=ca at *;generalize x.ka=ka at *;go_enter Tryz.func38,Tryz.ntmps38;go_wp2_with (first | rw[<- HW0.out] | rw[<- HW1.out] | (at_builtin;go_must (refine zal tyE rfl (.tmp 13) (.tmp 15) 45 rfl w0.heap.size 47 _ 32 Tryz.underlying45 Tryz.info12Y rfl rfl rfl HO1.out HE1.out (by unfold maxLen;simp;omega) (by simp;omega) hs1 ?_)))
 intro v2 w2 ho2 hg2;have HB2:Hid (Below w0.heap.size w0 w2):=HB1.out.trans (zaE HO1.out hg2 (Nat.le_refl _) HB1.out.size);have HO2:Hid (OwnE tyE w2 w0.heap.size 47 v2 ([x.rt] ++ x.ps)):=ho2;have HE2:Hid (Es tyE w2 (.slice x.la x.ls.length x.lc) x.ls):=HLs.out w2 HB2.out;have hs2:w0.heap.size<=w2.heap.size:=HB2.out.size;have hl2:([x.rt] ++ x.ps).length<=7:=by simp;omega
 obtain⟨va,vc,hv2,_,_⟩:=ho2.shape;subst hv2;clear ho2 hg2 c0 c1 c2 c3 c4 c5 c6 c7 c8 c9 c10 c11 b0 b1 b2 b3 b4 b5 b6 b7 b8 b9 b10 b11 HO1 HE1 HW1 hs1;obtain⟨c0,c1,c2,c3,c4,c5,c6,c7,c8,c9,c10,c11⟩:=HC.out w2 HB2.out;generalize hP2:[x.rt] ++ x.ps=P2 at *;have HP2:Hid ([x.rt] ++ x.ps=P2):=hP2;clear hP2;go_wp2_with (at_builtin;go_must (refine zal tyE rfl (.tmp 17) (.tmp 19) 45 rfl w0.heap.size 47 _ 32 Tryz.underlying45 Tryz.info12Y rfl rfl rfl HO2.out HE2.out (by unfold maxLen;omega) (by omega) hs2 ?_))
 intro v3 w3 ho3 hg3;have HB3:Hid (Below w0.heap.size w0 w3):=HB2.out.trans (zaE HO2.out hg3 (Nat.le_refl _) HB2.out.size);have hl3:(P2 ++ x.ls).length<=19:=by rw[List.length_append];omega
 clear hg3 c0 c1 c2 c3 c4 c5 c6 c7 c8 c9 c10 c11 HO2 HE2 hs2;obtain⟨va3,vc3,hv3,_,_⟩:=ho3.shape;subst hv3;generalize hP3:P2 ++ x.ls=P3 at *;have HP3:Hid (P2 ++ x.ls=P3):=hP3;have HO3:Hid (OwnE tyE w3 w0.heap.size 47 (.slice va3 P3.length vc3) P3):=ho3;clear hP3 ho3;have hcl:=(HCo.out w3 HB3.out).len;have hkl:=(HCl.out w3 HB3.out).len;obtain⟨c0,c1,c2,c3,c4,c5,c6,c7,c8,c9,c10,c11⟩:=HC.out w3 HB3.out;go_wp2_with fail
 clear c0 c1 c2 c3 c4 c5 c6 c7 c8 c9 c10 c11;go_loopw [3,5,6,7,24] (λlv _ _ _ z wr=>∃ i:Nat,i<=x.co.length/\z=.int .i64 i/\Hid (OwnE tyE wr w0.heap.size 47 lv (P3 ++ zdC (x.co.take i)))/\Hid (Below w0.heap.size w0 wr)) (λ_ _ _ _ z _=>x.co.length - (intOf z).toNat)
 case atStart=>exact⟨0,Nat.zero_le _,rfl,by show OwnE _ _ _ _ _ _;rw[show zdC (x.co.take 0)=[] from rfl,List.append_nil];exact HO3.out,HB3.out⟩
 case round =>
  obtain⟨i,hil0,rfl,HO,HB⟩:=hrel;by_cases hil:i<x.co.length
  ·have hii:(i:Int)<(x.co.length:Int):=by omega
   obtain⟨tb,off,cap,hla,_,hcm,htb,hc⟩:=(HCo.out wr HB.out).parts (by intro e;rw[e]at hil;simp at hil)
   simp only[Value.slice.injEq]at hla;obtain⟨hla, -,hlc⟩:=hla;have HT:Hid (zdC (x.co.take (i+1))=zdC (x.co.take i) ++ (if opP x.co[i].1=8 then [x.co[i].2.2] else [])):=zlu hil
   obtain⟨hr1,hr2⟩:=HOp.out _ (List.getElem_mem hil);obtain⟨k0,k1,k2,k3,k4,k5⟩:=(show El zcv wr tb (off+i * 6) x.co[i] from hc i hil).cells_I
   have hpl:(P3 ++ zdC (x.co.take i)).length<=200:=by
    have:=HiL.out i;rw[List.length_append];omega
   have HP:Hid (P3 ++ zdC (x.co.take (i+1))=(P3 ++ zdC (x.co.take i)) ++ (if opP x.co[i].1=8 then [x.co[i].2.2] else [])):=by show _=_;rw[HT.out,List.append_assoc]
   generalize P3 ++ zdC (x.co.take i)=P at *;have HOf:Hid (∀ W,Ans 66 #[.int .i64 x.co[i].1] W (.tuple #[.agg #[.string (opS x.co[i].1),.int .i64 (opP x.co[i].1),.int .i64 (opW x.co[i].1)],.int .i64 0])):=λW=>zsM x.co[i].1 hr1 hr2 W
   subst hla;clear hc hlc HT hr1 hr2;generalize x.co[i]=y at *;generalize opS y.1=os at *;generalize opW y.1=ow at *;generalize opP y.1=op at *;unfold maxLen at hcm;obtain⟨wA,hwA⟩:∃ W,W=wr.alloc (.cells #[.int .i64 y.1,.int .i64 y.2.1,.int .i64 y.2.2.1,.int .i64 y.2.2.2.1,.int .i64 y.2.2.2.2.1,.bool y.2.2.2.2.2] 65):=⟨_,rfl⟩;have HWA:Hid (wA=_):=hwA;have hbA:Below wr.heap.size wr wA:=by rw[hwA];exact zac _ _ _
   have hAA:At wA wr.heap.size #[.int .i64 y.1,.int .i64 y.2.1,.int .i64 y.2.2.1,.int .i64 y.2.2.2.1,.int .i64 y.2.2.2.2.1,.bool y.2.2.2.2.2] 65:=by rw[hwA];exact At.made _ _ _
   have HBA:Hid (Below w0.heap.size w0 wA):=zaa HB.out hbA;have HOA:Hid (OwnE tyE wA w0.heap.size 47 u3 P):=HO.out.later hbA;have HYA:Hid (∀ W,Below wA.heap.size wA W->At W wr.heap.size #[.int .i64 y.1,.int .i64 y.2.1,.int .i64 y.2.2.1,.int .i64 y.2.2.2.1,.int .i64 y.2.2.2.2.1,.bool y.2.2.2.2.2] 65):=λW hW=>hAA.later hW
   have a0:=hAA.cell 0;simp at a0;clear hwA hbA hAA;go_wp2_with (rw[<- HWA.out])
   refine Calls.mono (HOf.out wA) ?_;rintro e w5 ⟨rfl,hb5⟩;have hB5:Below w0.heap.size w0 w5:=zaa HBA.out hb5;obtain⟨wI,hwI⟩:∃ W,W=w5.alloc (.cells #[.string os,.int .i64 op,.int .i64 ow] 81):=⟨_,rfl⟩;have HWI:Hid (wI=_):=hwI;have hbI:Below w5.heap.size w5 wI:=by rw[hwI];exact zac _ _ _
   have hAI:At wI w5.heap.size #[.string os,.int .i64 op,.int .i64 ow] 81:=by rw[hwI];exact At.made _ _ _
   have i1:=hAI.cell 1;simp at i1;have hY:=HYA.out wI (zaa hb5 hbI);have y2:=hY.cell 2;have y3:=hY.cell 3;have y4:=hY.cell 4;have y5:=hY.cell 5;simp at y2 y3 y4 y5;have HBI:Hid (Below w0.heap.size w0 wI):=zaa hB5 hbI;have HOI:Hid (OwnE tyE wI w0.heap.size 47 u3 P):=(HOA.out.later hb5).later hbI;clear hb5 hB5 hwI hbI hAI hY a0 k0 k1 k2 k3 k4 k5 HO HB HBA HOA HYA HOf;by_cases h8:op=8
   ·subst h8;have HP2:Hid (P3 ++ zdC (x.co.take (i+1))=P ++ [y.2.2]):=by show _=_;rw[HP.out,if_pos rfl]
    clear HP;obtain⟨wT,hwT⟩:∃ W,W=wI.alloc (.cells #[.int .i64 y.2.2.1,.int .i64 y.2.2.2.1,.int .i64 y.2.2.2.2.1,.bool y.2.2.2.2.2] 47):=⟨_,rfl⟩;have HWT:Hid (wT=_):=hwT;have hbT:Below wI.heap.size wI wT:=by rw[hwT];exact zac _ _ _
    have HYT:Hid (Es tyE wT (.slice (some ⟨wI.heap.size,0,none⟩) 1 1) [y.2.2]):=by rw[hwT];exact zog wI y.2.2
    have HOT:Hid (OwnE tyE wT w0.heap.size 47 u3 P):=HOI.out.later hbT;have HBT:Hid (Below w0.heap.size w0 wT):=zaa HBI.out hbT;have hsT:w0.heap.size<=wT.heap.size:=HBT.out.size;clear hwT hbT;go_wp2_with (first | rw[<- HWI.out] | rw[<- HWT.out] | (at_builtin;go_must (refine zal tyE rfl (.tmp 37) (.tmp 40) 45 rfl w0.heap.size 47 _ 32 Tryz.underlying45 Tryz.info12Y rfl rfl rfl HOT.out HYT.out (by unfold maxLen;simp;omega) (by simp;omega) hsT ?_;intro v6 w6 ho6 hg6;have hB6:=HBT.out.trans (zaE HOT.out hg6 (Nat.le_refl _) HBT.out.size))))
    go_roundw
    case rel=>exact⟨i+1,by omega,by go_num,by show OwnE _ _ _ _ _ _;rw[HP2.out];exact ho6,hB6⟩
    case measure=>simp[intOf];omega
   ·have e8:(op==8)=false:=by simpa using h8
    have HP2:Hid (P3 ++ zdC (x.co.take (i+1))=P):=by show _=_;rw[HP.out,if_neg h8,List.append_nil]
    clear HP h8;go_wp2_with (first | rw[<- HWI.out])
    go_roundw
    case rel=>exact⟨i+1,by omega,by go_num,by show OwnE _ _ _ _ _ _;rw[HP2.out];exact HOI.out,HBI.out⟩
    case measure=>simp[intOf];omega
  ·have hii:¬ (i:Int)<(x.co.length:Int):=by omega
   obtain⟨P4,hP4⟩:∃ P4,P4=P3 ++ zdC x.co:=⟨_,rfl⟩;have HP4:Hid (P4=P3 ++ zdC x.co):=hP4;have hl4:P4.length<=180:=by
    have:=HiL.out x.co.length;rw[List.take_length]at this;rw[hP4,List.length_append];omega
   have HO4:Hid (OwnE tyE wr w0.heap.size 47 u3 P4):=by
    have:=HO.out;rw[List.take_of_length_le (by omega),<- hP4]at this
    exact this
   have HB4:Hid (Below w0.heap.size w0 wr):=HB.out;obtain⟨c0,c1,c2,c3,c4,c5,c6,c7,c8,c9,c10,c11⟩:=HC.out wr HB.out;clear hP4 HO HB;go_wp2_with fail
   clear c0 c1 c2 c3 c4 c5 c6 c7 c8 c9 c10 c11;obtain⟨wo,hwo⟩:∃ W,W=wr:=⟨_,rfl⟩;subst hwo;go_loopw [3,9,46] (λlv _ z wx=>∃ j:Nat,j<=x.cl.length/\z=.int .i64 j/\Hid (OwnE tyE wx w0.heap.size 47 lv (P4 ++ zez (x.cl.take j)))/\Hid (Below w0.heap.size w0 wx)) (λ_ _ z _=>x.cl.length - (intOf z).toNat)
   case atStart=>exact⟨0,Nat.zero_le _,rfl,by show OwnE _ _ _ _ _ _;rw[show zez (x.cl.take 0)=[] from rfl,List.append_nil];exact HO4.out,HB4.out⟩
   case round =>
    obtain⟨j,hjl0,rfl,HO,HB⟩:=hrel;by_cases hjl:j<x.cl.length
    ·have hji:(j:Int)<(x.cl.length:Int):=by omega
     obtain⟨tb,off,cap,hla,_,hcm,htb,hc⟩:=(HCl.out wr HB.out).parts (by intro e;rw[e]at hjl;simp at hjl)
     simp only[Value.slice.injEq]at hla;obtain⟨hla, -,hlc⟩:=hla;have HP:Hid (P4 ++ zez (x.cl.take (j+1))=(P4 ++ zez (x.cl.take j)) ++ (if x.cl[j].k=1 then [(x.cl[j].t0,x.cl[j].t1,x.cl[j].t2,x.cl[j].t3)] else [])):=by show _=_;rw[zlW hjl,List.append_assoc]
     have hten:=(show El zci wr tb (off+j * 10) x.cl[j] from hc j hjl).ten
     have hpl:(P4 ++ zez (x.cl.take j)).length<=200:=by
      have:=HcL.out j;rw[List.length_append];omega
     generalize P4 ++ zez (x.cl.take j)=P at *;subst hla;clear hc hlc;generalize x.cl[j]=y at *;unfold maxLen at hcm;obtain⟨k0,k1,k2,k3,k4,k5,k6,k7,k8,k9⟩:=hten;obtain⟨wA,hwA⟩:∃ W,W=wr.alloc (.cells #[.int .i64 y.k,.int .i64 y.tf,.int .i64 y.tt,.int .i64 y.hf,.int .i64 y.ht,.int .i64 y.fi,.int .i64 y.t0,.int .i64 y.t1,.int .i64 y.t2,.bool y.t3] 85):=⟨_,rfl⟩;have HWA:Hid (wA=_):=hwA;have hbA:Below wr.heap.size wr wA:=by rw[hwA];exact zac _ _ _
     have hAA:At wA wr.heap.size #[.int .i64 y.k,.int .i64 y.tf,.int .i64 y.tt,.int .i64 y.hf,.int .i64 y.ht,.int .i64 y.fi,.int .i64 y.t0,.int .i64 y.t1,.int .i64 y.t2,.bool y.t3] 85:=by rw[hwA];exact At.made _ _ _
     have HBA:Hid (Below w0.heap.size w0 wA):=zaa HB.out hbA;have HOA:Hid (OwnE tyE wA w0.heap.size 47 u3 P):=HO.out.later hbA;have a0:=hAA.cell 0;have a6:=hAA.cell 6;have a7:=hAA.cell 7;have a8:=hAA.cell 8;have a9:=hAA.cell 9;simp at a0 a6 a7 a8 a9;clear hwA hbA hAA HO HB;by_cases h1:y.k=1
     ·have HPa:Hid (P4 ++ zez (x.cl.take (j+1))=P ++ [(y.t0,y.t1,y.t2,y.t3)]):=by show _=_;rw[HP.out,if_pos h1]
      obtain⟨yk,hyk⟩:∃ z,z=y.k:=⟨_,rfl⟩;rw[<- hyk]at h1 k0 a0 HWA;clear hyk HP;subst h1;obtain⟨wT,hwT⟩:∃ W,W=wA.alloc (.cells #[.int .i64 y.t0,.int .i64 y.t1,.int .i64 y.t2,.bool y.t3] 47):=⟨_,rfl⟩;have HWT:Hid (wT=_):=hwT;have hbT:Below wA.heap.size wA wT:=by rw[hwT];exact zac _ _ _
      have HYT:Hid (Es tyE wT (.slice (some ⟨wA.heap.size,0,none⟩) 1 1) [(y.t0,y.t1,y.t2,y.t3)]):=by rw[hwT];exact zog wA (y.t0,y.t1,y.t2,y.t3)
      have HOT:Hid (OwnE tyE wT w0.heap.size 47 u3 P):=HOA.out.later hbT;have HBT:Hid (Below w0.heap.size w0 wT):=zaa HBA.out hbT;have hsT:w0.heap.size<=wT.heap.size:=HBT.out.size;clear hwT hbT;go_wp2_with (first | rw[<- HWA.out] | rw[<- HWT.out] | (at_builtin;go_must (refine zal tyE rfl (.tmp 53) (.tmp 56) 45 rfl w0.heap.size 47 _ 32 Tryz.underlying45 Tryz.info12Y rfl rfl rfl HOT.out HYT.out (by unfold maxLen;simp;omega) (by simp;omega) hsT ?_;intro v6 w6 ho6 hg6;have hB6:=HBT.out.trans (zaE HOT.out hg6 (Nat.le_refl _) HBT.out.size))))
      go_roundw
      case rel=>exact⟨j+1,by omega,by go_num,by show OwnE _ _ _ _ _ _;rw[HPa.out];exact ho6,hB6⟩
      case measure=>simp[intOf];omega
     ·have e1:(y.k==1)=false:=by simpa using h1
      have HPa:Hid (P4 ++ zez (x.cl.take (j+1))=P):=by show _=_;rw[HP.out,if_neg h1,List.append_nil]
      clear HP h1;go_wp2_with (first | rw[<- HWA.out])
      go_roundw
      case rel=>exact⟨j+1,by omega,by go_num,by show OwnE _ _ _ _ _ _;rw[HPa.out];exact HOA.out,HBA.out⟩
      case measure=>simp[intOf];omega
    ·have hji:¬ (j:Int)<(x.cl.length:Int):=by omega
     have HOf:Hid (OwnE tyE wr w0.heap.size 47 u3 R):=by
      have:=HO.out;rw[List.take_of_length_le (by omega),HP4.out,<- HTy.out]at this
      exact this
     have HBf:Hid (Below w0.heap.size w0 wr):=HB.out;clear HO HB;go_wp2_with fail
     go_ret;exact⟨_,rfl,HOf.out.mono HB0.out.size,zaa HB0.out HBf.out⟩
end Go.Proofs.YtkedhjdipnhgdaaGreat
