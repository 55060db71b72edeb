import Derived.Test.YtkedhjdipnhgdaaGreatR40
import Derived.Test.YtkedhjdipnhgdaaGreatR42
namespace Go.Proofs.YtkedhjdipnhgdaaGreat
set_option maxHeartbeats 16000000
set_option linter.all false
open RowKit
attribute [local go_sem ↓] wp_at_zero wp_at_succ
def zlC (g:Img) (m:Int):Int:=if zag g (zfq g m)=0 then zmD g m else -1
theorem zja {g:Img} {m:Int} {w:World} (hg:Im w g) (hw:zaY g=true) (hm:zbT g m):Ans 78 #[zao g,.int .i64 m] w (.int .i64 (zlC g m)):=by
 obtain⟨k,hk,rfl⟩:=zbE hm;obtain⟨w0,tb,off,hma,h1,h2,HW0,HB0,HK,HI,HG⟩:=zaJ hg hk;have hi:=(Wel.of hw).im;have hln:=zax hi;have HBt:Hid (∀ W,Ans 26 #[mdV g.ms[k],.int .i64 2] W (.bool (zaI g (k:Int)))):=λW=>by
  unfold zaI;rw[za4 hk];exact (zbs g.ms[k] (zav hi hk) W).2.1
 have HKn:Hid (∀ W,Below w0.heap.size w0 W->Ans 23 #[zao g,.int .i64 g.ms[k].ow] W (.int .i64 (zag g g.ms[k].ow))):=λW hW=>zaF _ (HI.out W hW) (FlOk.of hi)
 have HTb:Hid (∀ W,Below w0.heap.size w0 W->Calls Tryz.prog 51 #[zao g,.int .i64 g.ms[k].ow] W λe w'=>∃ v,e=.returned v/\OwnI w' W.heap.size v (zaH g g.ms[k].ow)/\Below W.heap.size W w'):=λW hW=>zcn hw (HI.out W hW)
 have HR:Hid (zlC g (k:Int)=if zag g g.ms[k].ow=0 then zdg (λj=>j==(k:Int)) (zaH g g.ms[k].ow) else -1):=by
  show _=_;unfold zlC zmD ixI;rw[za2 hk]
 have HNv:Hid (zaI g (k:Int)=false->zlC g (k:Int) = -1):=λh=>by
  unfold zlC;rw[zpk h];simp
 have hTl:=zk5 (g:=g) g.ms[k].ow;have hT2:g.ts.length * g.ms.length<=32 * 64:=Nat.mul_le_mul hln.1 hln.2.2;have hki:(k:Int)<(g.ms.length:Int):=by omega
 obtain⟨⟨c0,c1,c2,c3⟩,k0,k1,k2,k3,k4,k5,k6,k7,k8,k9,k10,k11⟩:=HK.out w0 (Below.refl _ _);unfold maxLen at h2;unfold zao at HKn HTb ⊢;unfold mdV at HBt;rw[hma]at HKn HTb ⊢;clear hg hw hi hm hma HI HG;generalize zlC g (k:Int)=R at *;generalize zaI g (k:Int)=vb at *;generalize zaH g g.ms[k].ow=T at *;generalize zag g g.ms[k].ow=kn at *;generalize g.ms[k]=x at *;go_enter Tryz.func78,Tryz.ntmps78;go_wp2_with (rw[<- HW0.out])
 refine Calls.mono (HBt.out _) ?_;rintro e w1 ⟨rfl,hb1⟩;have HB1:Hid (Below w0.heap.size w0 w1):=hb1;clear hb1 c0 c1 c2 c3 k0 k1 k2 k3 k4 k5 k6 k7 k8 k9 k10 k11 HBt
 cases vb with
 | false =>
  have HR2:Hid (R = -1):=HNv.out (by trivial)
  go_wp2_with fail
  go_ret;exact⟨zak HR2.out.symm,zaa HB0.out HB1.out⟩
 | true =>
  obtain⟨⟨c0,c1,c2,c3⟩,_⟩:=HK.out w1 HB1.out;go_wp2_with fail
  refine Calls.mono (HKn.out w1 HB1.out) ?_;rintro e w2 ⟨rfl,hb2⟩;have HB2:Hid (Below w0.heap.size w0 w2):=zaa HB1.out hb2;clear hb2 c0 c1 c2 c3 HKn;by_cases hkn:kn=0
  ·subst hkn;have HR2:Hid (R=zdg (λj=>j==(k:Int)) T):=by show _=_;rw[HR.out,if_pos rfl]
   obtain⟨⟨c0,c1,c2,c3⟩,_⟩:=HK.out w2 HB2.out;go_wp2_with fail
   refine Calls.mono (HTb.out w2 HB2.out) ?_;rintro e w3 ⟨tv,rfl,ho3,hb3⟩;have HB3:Hid (Below w0.heap.size w0 w3):=zaa HB2.out hb3;obtain⟨ta,tc,htv,_,htc⟩:=ho3.is.shape;have HTs:Hid (∀ W,Below w3.heap.size w3 W->Is W (.slice ta T.length tc) T):=λW hW=>by
    have:=ho3.is.later hW;rw[htv]at this;exact this
   subst htv;unfold maxLen at htc;clear ho3 hb3 c0 c1 c2 c3 HTb;go_wp2_with fail
   go_loopw [7] (λz wr=>∃ i:Nat,i<=T.length/\z=.int .i64 i/\wr=w3/\Hid ((T.take i).any (λj=>j==(k:Int))=false)) (λz _=>T.length - (intOf z).toNat)
   case atStart=>exact⟨0,Nat.zero_le _,rfl,rfl,by show _=_;simp⟩
   case round =>
    obtain⟨i,hil0,rfl,hwr,HA⟩:=hrel;subst hwr;by_cases hil:i<T.length
    ·have hii:(i:Int)<(T.length:Int):=by omega
     obtain⟨lb,loff,hla,hlb,_,h6',h7',hcv⟩:=(HTs.out wr (Below.refl _ _)).at hil;have cA:=hcv i hil;subst hla;clear hcv;have HY:Hid (T[i]=(k:Int)->R=(i:Int)):=λh=>by rw[HR2.out];exact zho hil HA.out (by simpa using h)
     have HN:Hid (T[i]≠(k:Int)->(T.take (i+1)).any (λj=>j==(k:Int))=false):=λh=>zaS hil HA.out (by simpa using h)
     generalize T[i]=y at *;by_cases hy:y=(k:Int)
     ·subst hy;have HR3:Hid (R=(i:Int)):=HY.out rfl;clear HY HN;go_wp2_with fail
      go_ret;exact⟨zak HR3.out.symm,zaa HB0.out HB3.out⟩
     ·have hyb:(y==(k:Int))=false:=by simpa using hy
      have HA2:Hid _:=HN.out hy;clear HY HN hy;go_wp2_with fail
      go_roundw
      case rel=>exact⟨i+1,by omega,by go_num,by simp,HA2.out⟩
      case measure=>simp[intOf];omega
    ·have hii:¬ (i:Int)<(T.length:Int):=by omega
     have HR3:Hid (R = -1):=by
      show _=_;rw[HR2.out];refine ziG ?_;have:=HA.out
      rwa [List.take_of_length_le (by omega)]at this
     go_wp2_with fail
     go_ret;exact⟨zak HR3.out.symm,zaa HB0.out HB3.out⟩
  ·have hkb:(kn != 0)=true:=by simpa using hkn
   have HR2:Hid (R = -1):=by show _=_;rw[HR.out,if_neg hkn]
   clear hkn;go_wp2_with fail
   go_ret;exact⟨zak HR2.out.symm,zaa HB0.out HB2.out⟩
theorem zp7 {g:Img} {t:Int} {k:Nat} (hw:zaY g=true) (hk:k<g.ms.length) (ht:zag g t=0) (hb:zmn g t g.ms[k].ow=true) (h:¬ (zag g g.ms[k].ow=2/\zaI g (k:Int)=true)) :
 (zlC g (k:Int) = -1/\zaL g t (k:Int)=(k:Int))∨∃ (s:Nat) (hs:s<(zaH g t).length),zlC g (k:Int)=(s:Int)/\zaL g t (k:Int)=(zaH g t)[s]:=by
 have W:=Wel.of hw;have hnm:zbT g (k:Int):=zai.2 (by omega)
 have hn:zam t g.ts.length=true:=zbk (by rw[ht];decide)
 cases hv:zaI g (k:Int) with
 | false =>
  refine Or.inl ⟨?_, ?_⟩
  ·unfold zlC;rw[zpk hv];simp
  ·unfold zaL;rw[hv,if_pos rfl]
 | true =>
  by_cases ho:zag g g.ms[k].ow=0
  ·have hu:=zeW W hb (by rw[ho];decide)
   obtain⟨s,hs,h1,h2,_⟩:=zos hw hn hnm hv (by rw[za2 hk];exact hu)
   refine Or.inr ⟨s,hs, ?_, ?_⟩
   ·unfold zlC;rw[za2 hk,if_pos ho];exact h1
   ·unfold zaL;rw[hv,za2 hk,if_neg (by decide),if_pos ho];exact h2
  ·exfalso;have h2:zag g g.ms[k].ow≠2:=λe=>h ⟨e,hv⟩
   exact ho (zhw W ht (zeW W hb h2))
set_option maxRecDepth 20000 in
theorem zel {g:Img} {t:Int} {k:Nat} {w:World} (hg:Im w g) (hw:zaY g=true) (hk:k<g.ms.length) (ht:zag g t=0) (hb:zmn g t g.ms[k].ow=true) (h:¬ (zag g g.ms[k].ow=2/\zaI g (k:Int)=true)):Ans 54 #[zao g,.int .i64 t,.int .i64 k] w (.int .i64 (zaL g t (k:Int))):=by
 obtain⟨w0,tb,off,hma,h1,h2,HW0,HB0,HK,HI,HG⟩:=zaJ hg hk;have hi:=(Wel.of hw).im;have hnm:zbT g (k:Int):=zai.2 (by omega)
 have HBt:Hid (∀ W,Ans 26 #[mdV g.ms[k],.int .i64 2] W (.bool (zaI g (k:Int)))):=λW=>by
  unfold zaI;rw[za4 hk];exact (zbs g.ms[k] (zav hi hk) W).2.1
 have HKn:Hid (∀ W,Below w0.heap.size w0 W->Ans 23 #[zao g,.int .i64 g.ms[k].ow] W (.int .i64 (zag g g.ms[k].ow))):=λW hW=>zaF _ (HI.out W hW) (FlOk.of hi)
 have HSo:Hid (∀ W,Below w0.heap.size w0 W->Ans 78 #[zao g,.int .i64 k] W (.int .i64 (zlC g (k:Int)))):=λW hW=>zja (HI.out W hW) hw hnm
 have HTb:Hid (∀ W,Below w0.heap.size w0 W->Calls Tryz.prog 51 #[zao g,.int .i64 t] W λe w'=>∃ v,e=.returned v/\OwnI w' W.heap.size v (zaH g t)/\Below W.heap.size W w'):=λW hW=>zcn hw (HI.out W hW)
 have HD:Hid ((zlC g (k:Int) = -1/\zaL g t (k:Int)=(k:Int))∨∃ (s:Nat) (hs:s<(zaH g t).length),zlC g (k:Int)=(s:Int)/\zaL g t (k:Int)=(zaH g t)[s]):=zp7 hw hk ht hb h;have hki:(k:Int)<(g.ms.length:Int):=by omega
 obtain⟨⟨c0,c1,c2,c3⟩,k0,k1,k2,k3,k4,k5,k6,k7,k8,k9,k10,k11⟩:=HK.out w0 (Below.refl _ _);have HCs:Hid (¬ (zag g g.ms[k].ow=2/\zaI g (k:Int)=true)):=h;unfold maxLen at h2;unfold zao at HKn HSo HTb ⊢;unfold mdV at HBt;rw[hma]at HKn HSo HTb ⊢;clear hg hw hi hnm hma HI HG ht hb h;generalize zaL g t (k:Int)=R at *;generalize zlC g (k:Int)=Q at *;generalize zaI g (k:Int)=vb at *;generalize zaH g t=T at *;generalize zag g g.ms[k].ow=kn at *;generalize g.ms[k]=x at *;obtain⟨wA,hwA⟩:∃ W,W=w0.alloc (.cells #[.string x.nm,.int .i64 x.ow,.int .i64 x.fl,.slice x.pa x.ps.length x.pc,.int .i64 x.rt.1,.int .i64 x.rt.2.1,.int .i64 x.rt.2.2.1,.bool x.rt.2.2.2,.slice x.la x.ls.length x.lc,.int .i64 x.mx,.slice x.ca x.co.length x.cc,.slice x.ka x.cl.length x.kc] 51):=⟨_,rfl⟩;have HWA:Hid (wA=_):=hwA;have hbA:Below w0.heap.size w0 wA:=by rw[hwA];exact zac _ _ _
 have hAt:At wA w0.heap.size (zcN x) 51:=by rw[hwA];exact At.made _ _ _
 have HBA:Hid (Below w0.heap.size w0 wA):=hbA;have HMx:Hid (∀ W,Below wA.heap.size wA W->Mt W w0.heap.size x):=λW hW=>Mt.of (hAt.later hW)
 obtain⟨d0,d1,d2,d3,d4,d5,d6,d7,d8,d9,d10,d11⟩:=HMx.out wA (Below.refl _ _);obtain⟨⟨b0,b1,b2,b3⟩,_⟩:=HK.out wA hbA;clear hwA hbA hAt;go_enter Tryz.func54,Tryz.ntmps54;go_wp2_with (first | rw[<- HW0.out] | rw[<- HWA.out])
 refine Calls.mono (HKn.out wA HBA.out) ?_;rintro e w1 ⟨rfl,hb1⟩;have HA1:Hid (Below wA.heap.size wA w1):=hb1;have HB1:Hid (Below w0.heap.size w0 w1):=zaa HBA.out hb1;clear hb1 c0 c1 c2 c3 b0 b1 b2 b3 d0 d1 d2 d3 d4 d5 d6 d7 d8 d9 d10 d11 k0 k1 k2 k3 k4 k5 k6 k7 k8 k9 k10 k11 HKn;have HFin:Hid (∀ wx,Below w0.heap.size w0 wx->True):=λ_ _=>trivial
 by_cases hkn:kn=2
 ·subst hkn;have hvb:vb=false:=by
   cases vb with
   | false=>rfl
   | true=>exact absurd ⟨rfl,rfl⟩ HCs.out
  subst hvb;obtain⟨d0,d1,d2,d3,d4,d5,d6,d7,d8,d9,d10,d11⟩:=HMx.out w1 HA1.out;go_wp2_with fail
  refine Calls.mono (HBt.out w1) ?_;rintro e wq ⟨rfl,hbq⟩;have HBq:Hid (Below w0.heap.size w0 wq):=zaa HB1.out hbq;clear hbq d0 d1 d2 d3 d4 d5 d6 d7 d8 d9 d10 d11 HBt;obtain⟨⟨c0,c1,c2,c3⟩,_⟩:=HK.out wq HBq.out;go_wp2_with fail
  refine Calls.mono (HSo.out wq HBq.out) ?_;rintro e w3 ⟨rfl,hb3⟩;have HB3:Hid (Below w0.heap.size w0 w3):=zaa HBq.out hb3;clear hb3 c0 c1 c2 c3 HSo
  rcases HD.out with ⟨hq,hr⟩ | ⟨s,hs,hq,hr⟩
  ·subst hq hr;go_wp2_with fail
   go_ret;exact⟨rfl,zaa HB0.out HB3.out⟩
  ·subst hq;have HR2:Hid (R=T[s]):=hr;have hsn:¬ (s:Int)<0:=by omega
   have hsi:(s:Int)<(T.length:Int):=by omega
   obtain⟨⟨c0,c1,c2,c3⟩,_⟩:=HK.out w3 HB3.out;clear hr;go_wp2_with fail
   refine Calls.mono (HTb.out w3 HB3.out) ?_;rintro e w4 ⟨tv,rfl,ho4,hb4⟩;have HB4:Hid (Below w0.heap.size w0 w4):=zaa HB3.out hb4;obtain⟨g2,cap,hv,hcp1,hcp2,_,_,hcc⟩:=ho4.parts (by intro e;rw[e]at hs;simp at hs)
   subst hv;unfold maxLen at hcp2;have cs:=hcc s hs;rw[<- HR2.out]at cs;clear ho4 hb4 hcc c0 c1 c2 c3;go_wp2_with fail
   go_ret;exact⟨rfl,zaa HB0.out HB4.out⟩
 ·have hkb:(kn==2)=false:=by simpa using hkn
  clear hkn;obtain⟨wq,hwq⟩:∃ W,W=w1:=⟨_,rfl⟩;subst hwq;have HBq:Hid (Below w0.heap.size w0 wq):=HB1.out;obtain⟨⟨c0,c1,c2,c3⟩,_⟩:=HK.out wq HBq.out;go_wp2_with fail
  refine Calls.mono (HSo.out wq HBq.out) ?_;rintro e w3 ⟨rfl,hb3⟩;have HB3:Hid (Below w0.heap.size w0 w3):=zaa HBq.out hb3;clear hb3 c0 c1 c2 c3 HSo
  rcases HD.out with ⟨hq,hr⟩ | ⟨s,hs,hq,hr⟩
  ·subst hq hr;go_wp2_with fail
   go_ret;exact⟨rfl,zaa HB0.out HB3.out⟩
  ·subst hq;have HR2:Hid (R=T[s]):=hr;have hsn:¬ (s:Int)<0:=by omega
   have hsi:(s:Int)<(T.length:Int):=by omega
   obtain⟨⟨c0,c1,c2,c3⟩,_⟩:=HK.out w3 HB3.out;clear hr;go_wp2_with fail
   refine Calls.mono (HTb.out w3 HB3.out) ?_;rintro e w4 ⟨tv,rfl,ho4,hb4⟩;have HB4:Hid (Below w0.heap.size w0 w4):=zaa HB3.out hb4;obtain⟨g2,cap,hv,hcp1,hcp2,_,_,hcc⟩:=ho4.parts (by intro e;rw[e]at hs;simp at hs)
   subst hv;unfold maxLen at hcp2;have cs:=hcc s hs;rw[<- HR2.out]at cs;clear ho4 hb4 hcc c0 c1 c2 c3;go_wp2_with fail
   go_ret;exact⟨rfl,zaa HB0.out HB4.out⟩
theorem zpU {f:Int->List Int} {p:Int->Bool} {U:List Int} {i j:Nat} (hi:i<U.length) (hj:j<(f U[i]).length) (h1:∀ x∈(U.take i).flatMap f,p x=false) (h2:∀ x∈(f U[i]).take j,p x=false) (h3:p (f U[i])[j]=true) :
 (U.flatMap f).find? p=some (f U[i])[j]:=by
 have e1:U.flatMap f=(U.take i).flatMap f ++ (f U[i] ++ (U.drop (i+1)).flatMap f):=by
  conv=>lhs;rw[<- List.take_append_drop i U,List.drop_eq_getElem_cons hi]
  rw[List.flatMap_append,List.flatMap_cons]
 have e2:f U[i]=(f U[i]).take j ++ ((f U[i])[j] :: (f U[i]).drop (j+1)):=by
  conv=>lhs;rw[<- List.take_append_drop j (f U[i]),List.drop_eq_getElem_cons hj]
 rw[e1,List.find?_append,List.find?_eq_none.2 (λx hx=>by rw[h1 x hx];simp),Option.none_or,List.find?_append]
 have e3:(f U[i]).find? p=some (f U[i])[j]:=by
  conv=>lhs;rw[e2]
  rw[List.find?_append,List.find?_eq_none.2 (λx hx=>by rw[h2 x hx];simp),Option.none_or,List.find?_cons,h3]
 rw[e3];rfl
theorem zlR (g:Img) (m:Int):∀ U:List Int,(U.flatMap (zaX g)).find? (λk=>smI g k m)=(U.flatMap (zat g)).find? (λk=>zaI g k&&smI g k m)
 | []=>rfl
 | a :: r=>by
  rw[List.flatMap_cons,List.flatMap_cons,List.find?_append,List.find?_append,zlR g m r];unfold zaX;rw[List.find?_filter];have:(λa=>decide (zaI g a=true/\smI g a m=true))=(λk=>zaI g k&&smI g k m):=by funext k;cases zaI g k <;> cases smI g k m <;> rfl
  rw[this]
theorem zls (g:Img) (t m:Int):zmb g t m=((upL g t).flatMap (zat g)).find? (λk=>zaI g k&&smI g k m):=zlR g m _
abbrev ztX:Oper:=⟨some 49,.fieldAddr 26 (.tmp 3) 2,0,"ref.go:78",#[],none⟩
abbrev zuJ:Oper:=⟨some 50,.load 24 (.tmp 49),24,"ref.go:78",#[⟨0,.data⟩],none⟩
abbrev zuI:Oper:=⟨some 51,.move (.tmp 10),40,"ref.go:78",#[],none⟩
abbrev zuP:Oper:=⟨some 52,.move (.tmp 11),3,"ref.go:78",#[],none⟩
abbrev zut:Oper:=⟨some 53,.indexAddr 40 (.tmp 51) (.tmp 52),0,"ref.go:78",#[⟨2,.data⟩,⟨3,.data⟩],none⟩
abbrev zvw:Oper:=⟨some 54,.load 3 (.tmp 53),3,"ref.go:78",#[⟨4,.data⟩],none⟩
abbrev zt4:Oper:=⟨some 55,.indexAddr 24 (.tmp 50) (.tmp 54),0,"ref.go:78",#[⟨1,.data⟩,⟨5,.data⟩],none⟩
abbrev ztK:Oper:=⟨some 56,.load 51 (.tmp 55),51,"ref.go:78",#[⟨6,.data⟩],none⟩
abbrev zu1:Oper:=⟨some 57,.call ⟨.value (.func 26),#[.tmp 56,.const (.int .i64 2)],#[51,3]⟩,4,"ref.go:78",#[⟨7,.data⟩],none⟩
abbrev ztU:Oper:=⟨some 58,.move (.tmp 57),4,"ref.go:78",#[⟨8,.data⟩,⟨8,.chain⟩],none⟩
abbrev zr8:Oper:=⟨some 59,.fieldAddr 26 (.tmp 3) 2,0,"ref.go:78",#[⟨9,.guard⟩],some (9,true)⟩
abbrev zrW:Oper:=⟨some 60,.load 24 (.tmp 59),24,"ref.go:78",#[⟨10,.data⟩,⟨9,.guard⟩],some (9,true)⟩
abbrev zrn:Oper:=⟨some 61,.move (.tmp 10),40,"ref.go:78",#[⟨9,.guard⟩],some (9,true)⟩
abbrev zrz:Oper:=⟨some 62,.move (.tmp 11),3,"ref.go:78",#[⟨9,.guard⟩],some (9,true)⟩
abbrev zry:Oper:=⟨some 63,.indexAddr 40 (.tmp 61) (.tmp 62),0,"ref.go:78",#[⟨12,.data⟩,⟨13,.data⟩,⟨9,.guard⟩],some (9,true)⟩
abbrev zrZ:Oper:=⟨some 64,.load 3 (.tmp 63),3,"ref.go:78",#[⟨14,.data⟩,⟨9,.guard⟩],some (9,true)⟩
abbrev zr1:Oper:=⟨some 65,.indexAddr 24 (.tmp 60) (.tmp 64),0,"ref.go:78",#[⟨11,.data⟩,⟨15,.data⟩,⟨9,.guard⟩],some (9,true)⟩
abbrev zr0:Oper:=⟨some 66,.load 51 (.tmp 65),51,"ref.go:78",#[⟨16,.data⟩,⟨9,.guard⟩],some (9,true)⟩
abbrev zrH:Oper:=⟨some 67,.load 51 (.tmp 7),51,"ref.go:78",#[⟨9,.guard⟩],some (9,true)⟩
abbrev zrB:Oper:=⟨some 68,.call ⟨.value (.func 77),#[.tmp 66,.tmp 67],#[51,51]⟩,4,"ref.go:78",#[⟨17,.data⟩,⟨18,.data⟩,⟨9,.chain⟩,⟨9,.guard⟩],some (9,true)⟩
abbrev zrg:Oper:=⟨some 69,.pick (.tmp 58) (.tmp 68) (.const (.bool false)),4,"ref.go:78",#[⟨9,.data⟩,⟨19,.data⟩],none⟩
set_option maxRecDepth 20000 in
theorem zhL {g:Img} {t:Int} {k:Nat} {w:World} (hg:Im w g) (hw:zaY g=true) (hk:k<g.ms.length) (ht:zag g t=0) (ho:zag g g.ms[k].ow=2) (hv:zaI g (k:Int)=true) :
 Ans 54 #[zao g,.int .i64 t,.int .i64 k] w (.int .i64 (zaL g t (k:Int))):=by
 obtain⟨w0,tb,off,hma,h1,h2,HW0,HB0,HK,HI,HG⟩:=zaJ hg hk;have W0:=Wel.of hw;have hi:=W0.im;have hln:=zax hi;have hn:zam t g.ts.length=true:=zbk (by rw[ht];decide)
 have hbv:zaf g.ms[k].fl 2=true:=by unfold zaI at hv;rw[za4 hk]at hv;exact hv
 have HBt:Hid (∀ W (q:Nat) (hq:q<g.ms.length),Ans 26 #[mdV g.ms[q],.int .i64 2] W (.bool (zaI g (q:Int)))):=λW q hq=>by
  unfold zaI;rw[za4 hq];exact (zbs g.ms[q] (zav hi hq) W).2.1
 have HBk:Hid (∀ W,Ans 26 #[mdV g.ms[k],.int .i64 2] W (.bool true)):=λW=>by rw[<- hv];exact HBt.out W k hk
 have HKn:Hid (∀ W,Below w0.heap.size w0 W->Ans 23 #[zao g,.int .i64 g.ms[k].ow] W (.int .i64 2)):=λW hW=>by rw[<- ho];exact zaF _ (HI.out W hW) (FlOk.of hi)
 have HUp:Hid (∀ W,Below w0.heap.size w0 W->Calls Tryz.prog 73 #[zao g,.int .i64 t] W λe w'=>∃ v,e=.returned v/\OwnI w' W.heap.size v (upL g t)/\Below W.heap.size W w'):=λW hW=>zdn (HI.out W hW) hi
 have HMt:Hid (∀ W u,Below w0.heap.size w0 W->Calls Tryz.prog 25 #[zao g,.int .i64 u] W λe w'=>∃ v,e=.returned v/\OwnI w' W.heap.size v (zat g u)/\Below W.heap.size W w'):=λW u hW=>zaU (HI.out W hW) hi
 have HRc:Hid (∀ W u (q:Nat) (hq:q<g.ms.length),Below w0.heap.size w0 W->u∈upL g t->g.ms[q].ow=u->zaI g (q:Int)=true->Ans 54 #[zao g,.int .i64 t,.int .i64 q] W (.int .i64 (zdG g t (q:Int)))):=λW u q hq hW hu hqu hqv=>by
  have hk0:zag g g.ms[q].ow=0:=by rw[hqu];exact zhw W0 ht hu
  have:=zel (HI.out W hW) hw hq ht (zgl.2 (Or.inl (by rw[hqu];exact hu))) (λh=>by rw[hk0]at h;omega)
  rw[zh2 hq (by unfold zaI at hqv;rw[za4 hq]at hqv;exact hqv) hk0]at this
  exact this
 have HAl:Hid (∀ W (q:Nat) (hq:q<g.ms.length),Below w0.heap.size w0 W->Ans 77 #[mdV g.ms[q],mdV g.ms[k]] W (.bool (smI g (q:Int) (k:Int)))):=λW q hq hW=>by
  rw[zgh hq hk];exact zcW ((HI.out W hW).mok _ (List.getElem_mem hq)) ((HI.out W hW).mok _ (List.getElem_mem hk)) (zav hi hq).1 (zav hi hk).1
 have HMq:Hid (∀ W (q:Nat) (hq:q<g.ms.length),Below w0.heap.size w0 W->MtA W tb (off+q * 12) g.ms[q]):=λW q hq hW=>by
  obtain⟨tb2,off2,hma2,_,_,hc⟩:=(HI.out w0 (Below.refl _ _)).mth hk;rw[hma]at hma2
  cases hma2
  exact hc W hW q hq
 have HFo:Hid (∀ (i j:Nat) (hi:i<(upL g t).length) (hj:j<(zat g (upL g t)[i]).length),(∀ x∈((upL g t).take i).flatMap (zat g),(zaI g x&&smI g x (k:Int))=false)->(∀ x∈(zat g (upL g t)[i]).take j,(zaI g x&&smI g x (k:Int))=false)->(zaI g (zat g (upL g t)[i])[j]&&smI g (zat g (upL g t)[i])[j] (k:Int))=true->zaL g t (k:Int)=zdG g t (zat g (upL g t)[i])[j]):=λi j hi hj h1 h2 h3=>by
  rw[zeu hk hbv (by rw[ho];decide)]
  have:zmb g t (k:Int)=some (zat g (upL g t)[i])[j]:=by rw[zls];exact zpU hi hj h1 h2 h3
  rw[this]
 have HNo:Hid ((∀ x∈(upL g t).flatMap (zat g),(zaI g x&&smI g x (k:Int))=false)->zaL g t (k:Int) = -1):=λh=>by
  rw[zeu hk hbv (by rw[ho];decide)]
  have:zmb g t (k:Int)=none:=by rw[zls];exact List.find?_eq_none.2 (λx hx=>by rw[h x hx];simp)
  rw[this]
 have HVn:Hid (∀ u j,j∈zat g u->∃ (q:Nat) (hq:q<g.ms.length),j=(q:Int)/\g.ms[q].ow=u):=λu j hj=>zdL hj
 have hul:=zpd g t;have HVl:Hid (∀ u,(zat g u).length<=64):=λu=>by
  show (zat g u).length<=64;unfold zat
  cases zam u g.ts.length with
  | false=>simp
  | true =>
   have:=zbX (λx:MD=>decide (x.ow=u)) g.ms 0
   rw[if_pos rfl];omega
 have hki:(k:Int)<(g.ms.length:Int):=by omega
 obtain⟨⟨c0,c1,c2,c3⟩,k0,k1,k2,k3,k4,k5,k6,k7,k8,k9,k10,k11⟩:=HK.out w0 (Below.refl _ _);unfold maxLen at h2;unfold zao at HKn HUp HMt HRc ⊢;unfold mdV at HBt HBk HAl;rw[hma]at HKn HUp HMt HRc ⊢;clear hg hw hi hv ho hma HI HG ht hn W0 hbv;generalize zaL g t (k:Int)=R at *;generalize upL g t=U at *;generalize g.ms[k]=x at *;obtain⟨wA,hwA⟩:∃ W,W=w0.alloc (.cells #[.string x.nm,.int .i64 x.ow,.int .i64 x.fl,.slice x.pa x.ps.length x.pc,.int .i64 x.rt.1,.int .i64 x.rt.2.1,.int .i64 x.rt.2.2.1,.bool x.rt.2.2.2,.slice x.la x.ls.length x.lc,.int .i64 x.mx,.slice x.ca x.co.length x.cc,.slice x.ka x.cl.length x.kc] 51):=⟨_,rfl⟩;have HWA:Hid (wA=_):=hwA;have hbA:Below w0.heap.size w0 wA:=by rw[hwA];exact zac _ _ _
 have hAt:At wA w0.heap.size (zcN x) 51:=by rw[hwA];exact At.made _ _ _
 have HBA:Hid (Below w0.heap.size w0 wA):=hbA;have HMx:Hid (∀ W,Below wA.heap.size wA W->Mt W w0.heap.size x):=λW hW=>Mt.of (hAt.later hW)
 obtain⟨d0,d1,d2,d3,d4,d5,d6,d7,d8,d9,d10,d11⟩:=HMx.out wA (Below.refl _ _);obtain⟨⟨b0,b1,b2,b3⟩,_⟩:=HK.out wA hbA;clear hwA hbA hAt;go_enter Tryz.func54,Tryz.ntmps54;go_wp2_with (first | rw[<- HW0.out] | rw[<- HWA.out])
 refine Calls.mono (HKn.out wA HBA.out) ?_;rintro e w1 ⟨rfl,hb1⟩;have HA1:Hid (Below wA.heap.size wA w1):=hb1;clear hb1 c0 c1 c2 c3 b0 b1 b2 b3 d0 d1 d2 d3 d4 d5 d6 d7 d8 d9 d10 d11 k0 k1 k2 k3 k4 k5 k6 k7 k8 k9 k10 k11 HKn;obtain⟨d0,d1,d2,d3,d4,d5,d6,d7,d8,d9,d10,d11⟩:=HMx.out w1 HA1.out;go_wp2_with fail
 refine Calls.mono (HBk.out w1) ?_;rintro e w2 ⟨rfl,hb2⟩;have HA2:Hid (Below wA.heap.size wA w2):=zaa HA1.out hb2;clear hb2 d0 d1 d2 d3 d4 d5 d6 d7 d8 d9 d10 d11 HBk;obtain⟨⟨c0,c1,c2,c3⟩,_⟩:=HK.out w2 (zaa HBA.out HA2.out);go_wp2_with fail
 refine Calls.mono (HUp.out w2 (zaa HBA.out HA2.out)) ?_;rintro e w3 ⟨uv,rfl,ho3,hb3⟩;have HA3:Hid (Below wA.heap.size wA w3):=zaa HA2.out hb3;obtain⟨ua,uc,huv,_,huc⟩:=ho3.is.shape;have HUs:Hid (∀ W,Below w3.heap.size w3 W->Is W (.slice ua U.length uc) U):=λW hW=>by
  have:=ho3.is.later hW;rw[huv]at this;exact this
 subst huv;unfold maxLen at huc;clear ho3 hb3 c0 c1 c2 c3 HUp;go_wp2_with fail
 go_loopw [9,10,11] (λz _ _ wr=>∃ i:Nat,i<=U.length/\z=.int .i64 i/\Hid (∀ x∈(U.take i).flatMap (zat g),(zaI g x&&smI g x (k:Int))=false)/\Hid (Below w3.heap.size w3 wr)) (λz _ _ _=>U.length - (intOf z).toNat)
 case atStart=>exact⟨0,Nat.zero_le _,rfl,(show ∀ x∈_,_ from by simp),Below.refl _ _⟩
 case round =>
  obtain⟨i,hil0,rfl,HA,HB⟩:=hrel;by_cases hil:i<U.length
  ·have hii:(i:Int)<(U.length:Int):=by omega
   have HAr:Hid (Below wA.heap.size wA wr):=zaa HA3.out HB.out;have HB0r:Hid (Below w0.heap.size w0 wr):=zaa HBA.out HAr.out;obtain⟨lb,loff,hla,hlb,_,h6',h7',hcu⟩:=(HUs.out wr HB.out).at hil;have HKu:Hid (∀ W,Below wr.heap.size wr W->(W.cell? ⟨w.heap.size,0,none⟩=some (.slice g.ta g.ts.length g.tc)/\W.cell? ⟨w.heap.size,1,none⟩=some (.slice g.fa g.fs.length g.fc)/\W.cell? ⟨w.heap.size,2,none⟩=some (.slice (some ⟨tb,off,none⟩) g.ms.length g.mc)/\W.cell? ⟨w.heap.size,3,none⟩=some (.int .i64 g.en))/\W.cell? ⟨lb,loff+i,none⟩=some (.int .i64 U[i])):=λW hW=>by
    refine⟨(HK.out W (zaa HB0r.out hW)).1, ?_⟩;obtain⟨lb2,loff2,hla2,_,_,_,_,hcv2⟩:=(HUs.out W (zaa HB.out hW)).at hil;rw[hla]at hla2
    cases hla2
    exact hcv2 i hil
   subst hla;clear hcu;obtain⟨⟨c0,c1,c2,c3⟩,cu⟩:=HKu.out wr (Below.refl _ _);have HNx:Hid ((U.take (i+1)).flatMap (zat g)=(U.take i).flatMap (zat g) ++ zat g U[i]):=zds hil;have HFq:Hid (∀ (j:Nat) (hj:j<(zat g U[i]).length),(∀ x∈(zat g U[i]).take j,(zaI g x&&smI g x (k:Int))=false)->(zaI g (zat g U[i])[j]&&smI g (zat g U[i])[j] (k:Int))=true->R=zdG g t (zat g U[i])[j]):=λj hj h2 h3=>HFo.out i j hil hj HA.out h2 h3
   have HRq:Hid (∀ W (q:Nat) (hq:q<g.ms.length),Below w0.heap.size w0 W->g.ms[q].ow=U[i]->zaI g (q:Int)=true->Ans 54 #[.agg #[.slice g.ta g.ts.length g.tc,.slice g.fa g.fs.length g.fc,.slice (some ⟨tb,off,none⟩) g.ms.length g.mc,.int .i64 g.en],.int .i64 t,.int .i64 q] W (.int .i64 (zdG g t (q:Int)))):=λW q hq hW h1 h2=>HRc.out W U[i] q hq hW (List.getElem_mem hil) h1 h2
   have HVq:Hid (∀ j∈zat g U[i],∃ (q:Nat) (hq:q<g.ms.length),j=(q:Int)/\g.ms[q].ow=U[i]):=λj hj=>HVn.out _ j hj
   have hvl:(zat g U[i]).length<=64:=HVl.out _;have HVc:Hid (∀ W,Below wr.heap.size wr W->Calls Tryz.prog 25 #[.agg #[.slice g.ta g.ts.length g.tc,.slice g.fa g.fs.length g.fc,.slice (some ⟨tb,off,none⟩) g.ms.length g.mc,.int .i64 g.en],.int .i64 U[i]] W λe w'=>∃ v,e=.returned v/\OwnI w' W.heap.size v (zat g U[i])/\Below W.heap.size W w'):=λW hW=>HMt.out W U[i] (zaa HB0r.out hW)
   generalize zat g U[i]=V at *;generalize U[i]=u at *;go_wp2_with fail
   go_region_held3 (λW:World=>(W.cell? ⟨w.heap.size,0,none⟩=some (.slice g.ta g.ts.length g.tc)/\W.cell? ⟨w.heap.size,1,none⟩=some (.slice g.fa g.fs.length g.fc)/\W.cell? ⟨w.heap.size,2,none⟩=some (.slice (some ⟨tb,off,none⟩) g.ms.length g.mc)/\W.cell? ⟨w.heap.size,3,none⟩=some (.int .i64 g.en))/\W.cell? ⟨lb,loff+i,none⟩=some (.int .i64 u))
    (first | (exact HKu.out _ hB4) | (exact HKu.out _ (zad _)))
    (first | (go_at_call 25;refine (HVc.out _ (zad _)).mono ?_;rintro e w4 ⟨vv,rfl,ho4,hz4⟩;have hB4:Below wr.heap.size wr w4:=zaa (zad _) hz4;obtain⟨va,vc,hvv,_,hvc⟩:=ho4.is.shape))
   rename_i hheld
   clear hheld;have HB4:Hid (Below w3.heap.size w3 w4):=zaa HB.out hB4;have HVs:Hid (∀ W,Below w4.heap.size w4 W->Is W (.slice va V.length vc) V):=λW hW=>by
    have:=ho4.is.later hW;rw[hvv]at this;exact this
   subst hvv;unfold maxLen at hvc;clear ho4 hz4 hB4 c0 c1 c2 c3 cu HVc HKu HAr HB0r;go_wp2_with fail
   obtain⟨wo,hwo⟩:∃ W,W=wr:=⟨_,rfl⟩;subst hwo;go_loopw [11] (λz wx=>∃ j:Nat,j<=V.length/\z=.int .i64 j/\Hid (∀ x∈V.take j,(zaI g x&&smI g x (k:Int))=false)/\Hid (Below w4.heap.size w4 wx)) (λz _=>V.length - (intOf z).toNat)
   case atStart=>exact⟨0,Nat.zero_le _,rfl,(show ∀ x∈_,_ from by simp),Below.refl _ _⟩
   case round =>
    obtain⟨j,hjl0,rfl,HA2x,HBx⟩:=hrel;by_cases hjl:j<V.length
    ·have hji:(j:Int)<(V.length:Int):=by omega
     obtain⟨mb,moff,hla,hlb,_,h8',h9',hcv⟩:=(HVs.out wr HBx.out).at hjl;have HAr:Hid (Below wA.heap.size wA wr):=zaa HA3.out (zaa HB4.out HBx.out);have HB0r:Hid (Below w0.heap.size w0 wr):=zaa HBA.out HAr.out;obtain⟨q,hq,hVq,hqu⟩:=HVq.out V[j] (List.getElem_mem hjl);have hqi:(q:Int)<(g.ms.length:Int):=by omega
     have HKq:Hid (∀ W,Below wr.heap.size wr W->(W.cell? ⟨w.heap.size,0,none⟩=some (.slice g.ta g.ts.length g.tc)/\W.cell? ⟨w.heap.size,1,none⟩=some (.slice g.fa g.fs.length g.fc)/\W.cell? ⟨w.heap.size,2,none⟩=some (.slice (some ⟨tb,off,none⟩) g.ms.length g.mc)/\W.cell? ⟨w.heap.size,3,none⟩=some (.int .i64 g.en))/\W.cell? ⟨mb,moff+j,none⟩=some (.int .i64 (q:Int))/\MtA W tb (off+q * 12) g.ms[q]/\Mt W w0.heap.size x):=λW hW=>by
      refine⟨(HK.out W (zaa HB0r.out hW)).1, ?_,HMq.out W q hq (zaa HB0r.out hW),HMx.out W (zaa HAr.out hW)⟩;obtain⟨lb2,loff2,hla2,_,_,_,_,hcv2⟩:=(HVs.out W (zaa HBx.out hW)).at hjl;rw[hla]at hla2
      cases hla2
      have:=hcv2 j hjl;rw[hVq]at this;exact this
     subst hla;clear hcv;have HBq:Hid (∀ W,Ans 26 #[.agg #[.string g.ms[q].nm,.int .i64 g.ms[q].ow,.int .i64 g.ms[q].fl,.slice g.ms[q].pa g.ms[q].ps.length g.ms[q].pc,.int .i64 g.ms[q].rt.1,.int .i64 g.ms[q].rt.2.1,.int .i64 g.ms[q].rt.2.2.1,.bool g.ms[q].rt.2.2.2,.slice g.ms[q].la g.ms[q].ls.length g.ms[q].lc,.int .i64 g.ms[q].mx,.slice g.ms[q].ca g.ms[q].co.length g.ms[q].cc,.slice g.ms[q].ka g.ms[q].cl.length g.ms[q].kc],.int .i64 2] W (.bool (zaI g (q:Int)))):=λW=>HBt.out W q hq
     have HAq:Hid (∀ W,Below w0.heap.size w0 W->Ans 77 #[.agg #[.string g.ms[q].nm,.int .i64 g.ms[q].ow,.int .i64 g.ms[q].fl,.slice g.ms[q].pa g.ms[q].ps.length g.ms[q].pc,.int .i64 g.ms[q].rt.1,.int .i64 g.ms[q].rt.2.1,.int .i64 g.ms[q].rt.2.2.1,.bool g.ms[q].rt.2.2.2,.slice g.ms[q].la g.ms[q].ls.length g.ms[q].lc,.int .i64 g.ms[q].mx,.slice g.ms[q].ca g.ms[q].co.length g.ms[q].cc,.slice g.ms[q].ka g.ms[q].cl.length g.ms[q].kc],.agg #[.string x.nm,.int .i64 x.ow,.int .i64 x.fl,.slice x.pa x.ps.length x.pc,.int .i64 x.rt.1,.int .i64 x.rt.2.1,.int .i64 x.rt.2.2.1,.bool x.rt.2.2.2,.slice x.la x.ls.length x.lc,.int .i64 x.mx,.slice x.ca x.co.length x.cc,.slice x.ka x.cl.length x.kc]] W (.bool (smI g (q:Int) (k:Int)))):=λW hW=>HAl.out W q hq hW
     have HRj:Hid (∀ W,Below w0.heap.size w0 W->zaI g (q:Int)=true->Ans 54 #[.agg #[.slice g.ta g.ts.length g.tc,.slice g.fa g.fs.length g.fc,.slice (some ⟨tb,off,none⟩) g.ms.length g.mc,.int .i64 g.en],.int .i64 t,.int .i64 (q:Int)] W (.int .i64 (zdG g t (q:Int)))):=λW hW h=>HRq.out W q hq hW hqu h
     have HFj:Hid (zaI g (q:Int)=true->smI g (q:Int) (k:Int)=true->R=zdG g t (q:Int)):=λh h2=>by
      have:=HFq.out j hjl HA2x.out (by rw[hVq,h,h2];rfl)
      rw[hVq]at this;exact this
     have HNj:Hid ((zaI g (q:Int)&&smI g (q:Int) (k:Int))=false->∀ x∈V.take (j+1),(zaI g x&&smI g x (k:Int))=false):=λh y hy=>by
      rw[List.take_succ_eq_append_getElem hjl]at hy
      rcases List.mem_append.1 hy with hy | hy
      ·exact HA2x.out y hy
      ·simp at hy;subst hy;rw[hVq];exact h
     obtain⟨⟨c0,c1,c2,c3⟩,cj,n1,n2⟩:=HKq.out wr (Below.refl _ _);clear hVq hqu;generalize zdG g t (q:Int)=D at *;generalize smI g (q:Int) (k:Int)=sm at *;generalize zaI g (q:Int)=vb at *;generalize hy:g.ms[q]=y at *;clear hy;go_wp2_with fail
     cases vb with
     | false =>
      have HN2:Hid (∀ x∈V.take (j+1),(zaI g x&&smI g x (k:Int))=false):=HNj.out (by simp)
      refine wp_region_held_drew (S:=(λW=>(W.cell? ⟨w.heap.size,0,none⟩=some (.slice g.ta g.ts.length g.tc)/\W.cell? ⟨w.heap.size,1,none⟩=some (.slice g.fa g.fs.length g.fc)/\W.cell? ⟨w.heap.size,2,none⟩=some (.slice (some ⟨tb,off,none⟩) g.ms.length g.mc)/\W.cell? ⟨w.heap.size,3,none⟩=some (.int .i64 g.en))/\W.cell? ⟨mb,moff+j,none⟩=some (.int .i64 (q:Int))/\MtA W tb (off+q * 12) y/\Mt W w0.heap.size x)) (by kernel_rfl) (HKq.out _ (zad _)) (λyb=>?_)
      refine tY 0 ztX (.pointer (some ⟨w.heap.size,2,none⟩)) yb ?_;refine tY 1 zuJ (.slice (some ⟨tb,off,none⟩) g.ms.length g.mc) yb ?_;refine tY 2 zuI (.slice (some ⟨mb,moff,none⟩) V.length vc) yb ?_;refine tY 3 zuP (.int .i64 (j:Int)) yb ?_;refine tY 4 zut (.pointer (some ⟨mb,moff+j,none⟩)) yb ?_;refine tY 5 zvw (.int .i64 (q:Int)) yb ?_;refine tY 6 zt4 (.pointer (some ⟨tb,off+q * 12,none⟩)) yb ?_;refine tY 7 ztK (.agg #[.string y.nm,.int .i64 y.ow,.int .i64 y.fl,.slice y.pa y.ps.length y.pc,.int .i64 y.rt.1,.int .i64 y.rt.2.1,.int .i64 y.rt.2.2.1,.bool y.rt.2.2.2,.slice y.la y.ls.length y.lc,.int .i64 y.mx,.slice y.ca y.co.length y.cc,.slice y.ka y.cl.length y.kc]) yb ?_;refine wpAnyH_ready (rs:=[8]) (by kernel_rfl) (by simp) ?_
      refine AllReadyH.cons (o:=zu1) rfl (λK hK=>?_) AllReadyH.nil
      go_simp
      refine (HBq.out _).mono ?_;rintro e w5 ⟨rfl,hz5⟩;have hB5:Below wr.heap.size wr w5:=zaa (zad _) hz5
      try go_wp2_with fail
      refine hK.out _ _ (HKq.out _ hB5) (λyb=>?_)
      clear hK K
      try simp only[Act.put,sA,s0,sS]
      refine tY 9 ztU (.bool false) yb ?_;refine tN 10 zr8 yb ?_;refine tN 11 zrW yb ?_;refine tN 12 zrn yb ?_;refine tN 13 zrz yb ?_;refine tN 14 zry yb ?_;refine tN 15 zrZ yb ?_;refine tN 16 zr1 yb ?_;refine tN 17 zr0 yb ?_;refine tN 18 zrH yb ?_;refine tN 19 zrB yb ?_;refine tY 20 zrg (.bool false) yb ?_;refine wpAnyH_done (by kernel_rfl) ?_ _
      have HB5:Hid (Below wr.heap.size wr w5):=hB5;clear hz5 hB5 c0 c1 c2 c3 cj n1 n2;go_wp2_with fail
      go_roundw
      case rel=>exact⟨j+1,by omega,by go_num,HN2.out,zaa HBx.out HB5.out⟩
      case measure=>simp[intOf];omega
     | true =>
      refine wp_region_held_drew (S:=(λW=>(W.cell? ⟨w.heap.size,0,none⟩=some (.slice g.ta g.ts.length g.tc)/\W.cell? ⟨w.heap.size,1,none⟩=some (.slice g.fa g.fs.length g.fc)/\W.cell? ⟨w.heap.size,2,none⟩=some (.slice (some ⟨tb,off,none⟩) g.ms.length g.mc)/\W.cell? ⟨w.heap.size,3,none⟩=some (.int .i64 g.en))/\W.cell? ⟨mb,moff+j,none⟩=some (.int .i64 (q:Int))/\MtA W tb (off+q * 12) y/\Mt W w0.heap.size x)) (by kernel_rfl) (HKq.out _ (zad _)) (λyb=>?_)
      refine tY 0 ztX (.pointer (some ⟨w.heap.size,2,none⟩)) yb ?_;refine tY 1 zuJ (.slice (some ⟨tb,off,none⟩) g.ms.length g.mc) yb ?_;refine tY 2 zuI (.slice (some ⟨mb,moff,none⟩) V.length vc) yb ?_;refine tY 3 zuP (.int .i64 (j:Int)) yb ?_;refine tY 4 zut (.pointer (some ⟨mb,moff+j,none⟩)) yb ?_;refine tY 5 zvw (.int .i64 (q:Int)) yb ?_;refine tY 6 zt4 (.pointer (some ⟨tb,off+q * 12,none⟩)) yb ?_;refine tY 7 ztK (.agg #[.string y.nm,.int .i64 y.ow,.int .i64 y.fl,.slice y.pa y.ps.length y.pc,.int .i64 y.rt.1,.int .i64 y.rt.2.1,.int .i64 y.rt.2.2.1,.bool y.rt.2.2.2,.slice y.la y.ls.length y.lc,.int .i64 y.mx,.slice y.ca y.co.length y.cc,.slice y.ka y.cl.length y.kc]) yb ?_;refine wpAnyH_ready (rs:=[8]) (by kernel_rfl) (by simp) ?_
      refine AllReadyH.cons (o:=zu1) rfl (λK hK=>?_) AllReadyH.nil
      go_simp
      refine (HBq.out _).mono ?_;rintro e w5 ⟨rfl,hz5⟩;have hB5:Below wr.heap.size wr w5:=zaa (zad _) hz5
      try go_wp2_with fail
      refine hK.out _ _ (HKq.out _ hB5) (λyb=>?_)
      clear hK K
      try simp only[Act.put,sA,s0,sS]
      refine tY 9 ztU (.bool true) yb ?_;refine tY 10 zr8 (.pointer (some ⟨w.heap.size,2,none⟩)) yb ?_;refine tY 11 zrW (.slice (some ⟨tb,off,none⟩) g.ms.length g.mc) yb ?_;refine tY 12 zrn (.slice (some ⟨mb,moff,none⟩) V.length vc) yb ?_;refine tY 13 zrz (.int .i64 (j:Int)) yb ?_;refine tY 14 zry (.pointer (some ⟨mb,moff+j,none⟩)) yb ?_;refine tY 15 zrZ (.int .i64 (q:Int)) yb ?_;refine tY 16 zr1 (.pointer (some ⟨tb,off+q * 12,none⟩)) yb ?_;refine tY 17 zr0 (.agg #[.string y.nm,.int .i64 y.ow,.int .i64 y.fl,.slice y.pa y.ps.length y.pc,.int .i64 y.rt.1,.int .i64 y.rt.2.1,.int .i64 y.rt.2.2.1,.bool y.rt.2.2.2,.slice y.la y.ls.length y.lc,.int .i64 y.mx,.slice y.ca y.co.length y.cc,.slice y.ka y.cl.length y.kc]) yb ?_;refine tY 18 zrH (.agg #[.string x.nm,.int .i64 x.ow,.int .i64 x.fl,.slice x.pa x.ps.length x.pc,.int .i64 x.rt.1,.int .i64 x.rt.2.1,.int .i64 x.rt.2.2.1,.bool x.rt.2.2.2,.slice x.la x.ls.length x.lc,.int .i64 x.mx,.slice x.ca x.co.length x.cc,.slice x.ka x.cl.length x.kc]) yb ?_;refine wpAnyH_ready (rs:=[19]) (by kernel_rfl) (by simp) ?_
      refine AllReadyH.cons (o:=zrB) rfl (λK hK=>?_) AllReadyH.nil
      go_simp
      refine (HAq.out _ (zaa HB0r.out hB5)).mono ?_;rintro e w6 ⟨rfl,hz6⟩;have hB6:Below wr.heap.size wr w6:=zaa hB5 hz6
      try go_wp2_with fail
      refine hK.out _ _ (HKq.out _ hB6) (λyb=>?_)
      clear hK K
      try simp only[Act.put,sA,s0,sS]
      refine tY 20 zrg (.bool sm) yb ?_;refine wpAnyH_done (by kernel_rfl) ?_ _
      have HB6:Hid (Below wr.heap.size wr w6):=hB6;clear hz5 hB5 hz6 hB6 c0 c1 c2 c3 cj n1 n2
      cases sm with
      | false =>
       have HN2:Hid (∀ x∈V.take (j+1),(zaI g x&&smI g x (k:Int))=false):=HNj.out (by simp)
       go_wp2_with fail
       go_roundw
       case rel=>exact⟨j+1,by omega,by go_num,HN2.out,zaa HBx.out HB6.out⟩
       case measure=>simp[intOf];omega
      | true =>
       have HR2:Hid (R=D):=HFj.out (by trivial) (by trivial)
       have HKz:Hid (∀ W,Below w6.heap.size w6 W->(W.cell? ⟨w.heap.size,0,none⟩=some (.slice g.ta g.ts.length g.tc)/\W.cell? ⟨w.heap.size,1,none⟩=some (.slice g.fa g.fs.length g.fc)/\W.cell? ⟨w.heap.size,2,none⟩=some (.slice (some ⟨tb,off,none⟩) g.ms.length g.mc)/\W.cell? ⟨w.heap.size,3,none⟩=some (.int .i64 g.en))/\W.cell? ⟨mb,moff+j,none⟩=some (.int .i64 (q:Int))):=λW hW=>⟨(HKq.out W (zaa HB6.out hW)).1,(HKq.out W (zaa HB6.out hW)).2.1⟩
       have HRz:Hid (∀ W,Below w6.heap.size w6 W->Ans 54 #[.agg #[.slice g.ta g.ts.length g.tc,.slice g.fa g.fs.length g.fc,.slice (some ⟨tb,off,none⟩) g.ms.length g.mc,.int .i64 g.en],.int .i64 t,.int .i64 (q:Int)] W (.int .i64 D)):=λW hW=>HRj.out W (zaa (zaa HB0r.out HB6.out) hW) (by trivial)
       obtain⟨⟨c0,c1,c2,c3⟩,cj⟩:=HKz.out w6 (Below.refl _ _);clear HRj HFj HNj;go_wp2_with fail
       go_region_held3 (λW:World=>(W.cell? ⟨w.heap.size,0,none⟩=some (.slice g.ta g.ts.length g.tc)/\W.cell? ⟨w.heap.size,1,none⟩=some (.slice g.fa g.fs.length g.fc)/\W.cell? ⟨w.heap.size,2,none⟩=some (.slice (some ⟨tb,off,none⟩) g.ms.length g.mc)/\W.cell? ⟨w.heap.size,3,none⟩=some (.int .i64 g.en))/\W.cell? ⟨mb,moff+j,none⟩=some (.int .i64 (q:Int)))
        (first | (exact HKz.out _ hB7) | (exact HKz.out _ (zad _)))
        (first | (go_at_call 54;refine (HRz.out _ (zad _)).mono ?_;rintro e w7 ⟨rfl,hz7⟩;have hB7:Below w6.heap.size w6 w7:=zaa (zad _) hz7))
       rename_i hheld
       clear hheld;have HB7:Hid (Below w0.heap.size w0 w7):=zaa (zaa HB0r.out HB6.out) hB7;clear hz7 hB7 c0 c1 c2 c3 cj;go_wp2_with fail
       go_ret;exact⟨zak HR2.out.symm,zaa HB0.out HB7.out⟩
    ·have hji:¬ (j:Int)<(V.length:Int):=by omega
     have HN2:Hid (∀ x∈(U.take (i+1)).flatMap (zat g),(zaI g x&&smI g x (k:Int))=false):=λy hy=>by
      rw[HNx.out]at hy
      rcases List.mem_append.1 hy with hy | hy
      ·exact HA.out y hy
      ·exact HA2x.out y (by rw[List.take_of_length_le (by omega)];exact hy)
     go_wp2_with fail
     go_roundw
     case rel=>exact⟨i+1,by omega,by go_num,HN2.out,zaa HB4.out HBx.out⟩
     case measure=>simp[intOf];omega
  ·have hii:¬ (i:Int)<(U.length:Int):=by omega
   have HR2:Hid (R = -1):=HNo.out (λy hy=>HA.out y (by rw[List.take_of_length_le (by omega)];exact hy))
   go_wp2_with fail
   go_ret;exact⟨zak HR2.out.symm,zaa HB0.out (zaa HBA.out (zaa HA3.out HB.out))⟩
theorem zkB {g:Img} {t m:Int} {w:World} (hg:Im w g) (hw:zaY g=true) (hm:zbT g m) (ht:zag g t=0) (hb:zmn g t (zfq g m)=true):Ans 54 #[zao g,.int .i64 t,.int .i64 m] w (.int .i64 (zaL g t m)):=by
 obtain⟨k,hk,rfl⟩:=zbE hm;rw[za2 hk]at hb;by_cases h:zag g g.ms[k].ow=2/\zaI g (k:Int)=true
 ·exact zhL hg hw hk ht h.1 h.2
 ·exact zel hg hw hk ht hb h
end Go.Proofs.YtkedhjdipnhgdaaGreat
