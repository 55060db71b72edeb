import Derived.Test.YtkedhjdipnhgdaaGreatR42
import Derived.Deep.DeepCutAuto
import Derived.Test.YtkedhjdipnhgdaaGreatR43
namespace Go.Proofs.YtkedhjdipnhgdaaGreat
set_option maxHeartbeats 16000000
set_option linter.all false
open RowKit
attribute [local go_sem ↓] wp_at_zero wp_at_succ
def zqF (k:Int) (x:MD):Bool:=zaf x.fl 16&&(decide (k≠0)||(decide (x.rt.1≠1)||decide (x.fl≠16)))
def zqj (k:Int) (x:MD):Bool:=zaf x.fl 2&&(zaf x.fl 1||decide (k=1))
def zqC (x:MD):Bool:=!zaf x.fl 2&&(zaf x.fl 4||zaf x.fl 8)
def zqL (x:MD):Bool:=zaf x.fl 4&&(decide (x.co≠[])||(decide (x.ls≠[])||(decide (x.cl≠[])||decide (0<x.mx))))
def zq3 (k:Int) (x:MD):Bool:=!zaf x.fl 4&&(decide (x.co=[])||decide (2<=k))
def zqE (k:Int) (n:Nat):Bool:=decide (k=3)&&decide (n≠1)
theorem zs6 {g:Img} {x:MD}:zdZ g x=(!zqF (zag g x.ow) x&&(!zqj (zag g x.ow) x&&(!zqC x&&(!zqL x&&(!zq3 (zag g x.ow) x&&(!zqE (zag g x.ow) (zat g x.ow).length&&(!zaf x.fl 4||(decide (2<=zag g x.ow)||zaf (flI g x.ow) 4)))))))):=by
 unfold zdZ zqF zqj zqC zqL zq3 zqE;have e1:decide (0<x.mx)=!decide (x.mx<=0):=by rw[Bool.eq_iff_iff];simp
 have e2:decide (zag g x.ow<2)=!decide (2<=zag g x.ow):=by rw[Bool.eq_iff_iff];simp
 rw[e1,e2];simp only[ne_eq,decide_not];generalize zaf x.fl 16=a;generalize zaf x.fl 2=b;generalize zaf x.fl 1=c;generalize zaf x.fl 4=d;generalize zaf x.fl 8=e;simp only[Bool.not_and,Bool.not_or,Bool.not_not,Bool.and_assoc,Bool.or_assoc]
set_option maxRecDepth 20000 in
theorem zgr {g:Img} {x:MD} {w:World} (hg:Im w g) (hi:imB g=true) (hx:0<=x.fl/\x.fl<=31) (hn:zam x.ow g.ts.length=true):Ans 21 #[zao g,mdV x] w (.bool (zdZ g x)):=by
 obtain⟨w0,HW0,HB0,HC,HI⟩:=zc6 hg x;have hln:=zax hi;have HH:Hid (∀ W,Ans 26 #[mdV x,.int .i64 1] W (.bool (zaf x.fl 1))/\Ans 26 #[mdV x,.int .i64 2] W (.bool (zaf x.fl 2))/\Ans 26 #[mdV x,.int .i64 4] W (.bool (zaf x.fl 4))/\Ans 26 #[mdV x,.int .i64 8] W (.bool (zaf x.fl 8))/\Ans 26 #[mdV x,.int .i64 16] W (.bool (zaf x.fl 16))):=λW=>zbs x hx W
 have HKn:Hid (∀ W,Below w0.heap.size w0 W->Ans 23 #[zao g,.int .i64 x.ow] W (.int .i64 (zag g x.ow))):=λW hW=>zaF _ (HI.out W hW) (FlOk.of hi)
 have HMt:Hid (∀ W,Below w0.heap.size w0 W->Calls Tryz.prog 25 #[zao g,.int .i64 x.ow] W λe w'=>∃ v,e=.returned v/\OwnI w' W.heap.size v (zat g x.ow)/\Below W.heap.size W w'):=λW hW=>zaU (HI.out W hW) hi
 have HR:Hid (zdZ g x=_):=zs6;have X1:Hid (zqF (zag g x.ow) x=(zaf x.fl 16&&(decide (zag g x.ow≠0)||(decide (x.rt.1≠1)||decide (x.fl≠16))))):=rfl
 have X2:Hid (zqj (zag g x.ow) x=(zaf x.fl 2&&(zaf x.fl 1||decide (zag g x.ow=1)))):=rfl
 have X3:Hid (zqC x=(!zaf x.fl 2&&(zaf x.fl 4||zaf x.fl 8))):=rfl
 have X4:Hid (zqL x=(zaf x.fl 4&&(decide (x.co≠[])||(decide (x.ls≠[])||(decide (x.cl≠[])||decide (0<x.mx)))))):=rfl
 have X5:Hid (zq3 (zag g x.ow) x=(!zaf x.fl 4&&(decide (x.co=[])||decide (2<=zag g x.ow)))):=rfl
 have X6:Hid (zqE (zag g x.ow) (zat g x.ow).length=(decide (zag g x.ow=3)&&decide ((zat g x.ow).length≠1))):=rfl;obtain⟨q,hq,hql⟩:=zaK hn;have HOw:Hid (x.ow=(q:Int)):=hq;obtain⟨tb,off,hta,hh1,hh2,hcf⟩:=(HI.out w0 (Below.refl _ _)).typ hql;have HTy:Hid (∀ W,Below w0.heap.size w0 W->W.cell? ⟨tb,off+q * 4+1,none⟩=some (.int .i64 g.ts[q].fl)):=hcf;have HQ:Hid ((g.ts[q].fl / ((4:Nat):Int)).tmod 2=(if zaf (flI g x.ow) 4=true then 1 else 0)):=by
  show _=_;rw[hq,zek hql];exact zeC (FlOk.of hi _ (List.getElem_mem hql)) (by omega)
 have htf:0<=g.ts[q].fl/\g.ts[q].fl<=31:=FlOk.of hi _ (List.getElem_mem hql);have HTa:Hid (g.ta=some ⟨tb,off,none⟩):=hta;have hqi:(q:Int)<(g.ts.length:Int):=by omega
 have HC1:=HC.out w0 (Below.refl _ _);obtain⟨⟨b0,b1,b2,b3⟩,k0,k1,k2,k3,k4,k5,k6,k7,k8,k9,k10,k11⟩:=HC1;unfold mdV at HH;unfold zao at HKn HMt ⊢;unfold Im4 at HC;generalize zqF (zag g x.ow) x=x1 at *;generalize zqj (zag g x.ow) x=x2 at *;generalize zqC x=x3 at *;generalize zqL x=x4 at *;generalize zq3 (zag g x.ow) x=x5 at *;generalize zqE (zag g x.ow) (zat g x.ow).length=x6 at *;generalize zdZ g x=R at *;generalize zag g x.ow=kn at *;generalize g.ts[q].fl=tf at *;generalize zaf x.fl 16=p16 at *;generalize zaf x.fl 1=p1 at *;generalize zaf x.fl 2=p2 at *;generalize zaf x.fl 4=p4 at *;generalize zaf x.fl 8=p8 at *;generalize zaf (flI g x.ow) 4=ab at *;clear hg hi hx hn hq hql hta hcf HI hln;unfold mdV;go_enter Tryz.func21,Tryz.ntmps21;go_wp2_with (rw[<- HW0.out])
 refine Calls.mono (HKn.out w0 (Below.refl _ _)) ?_;rintro e w1 ⟨rfl,hb1⟩;have HB1:Hid (Below w0.heap.size w0 w1):=hb1;clear hb1 b0 b1 b2 b3 k0 k1 k2 k3 k4 k5 k6 k7 k8 k9 k10 k11;have Hw1:Hid (Below w0.heap.size w0 w1):=HB1.out;go_upto_region 2 with fail
 go_cut [26] (λs26 wx=>s26=.bool x1/\Hid (Below w0.heap.size w0 wx))
 case first =>
  obtain⟨⟨b0,b1,b2,b3⟩,k0,k1,k2,k3,k4,k5,k6,k7,k8,k9,k10,k11⟩:=HC.out w1 Hw1.out;go_wp2_with fail
  refine Calls.mono (HH.out _).2.2.2.2 ?_;rintro e wa ⟨rfl,hba⟩;have Hwa:Hid (Below w0.heap.size w0 wa):=zaa Hw1.out hba;clear hba b0 b1 b2 b3 k0 k1 k2 k3 k4 k5 k6 k7 k8 k9 k10 k11;obtain⟨⟨b0,b1,b2,b3⟩,k0,k1,k2,k3,k4,k5,k6,k7,k8,k9,k10,k11⟩:=HC.out wa Hwa.out
  cases p16 with
  | false=>(go_wp2_with fail;go_meet;exact⟨congrArg Value.bool (by rw[X1.out];rfl),Hwa.out⟩)
  | true =>
   have e0:(kn != 0)=decide (kn≠0):=by rw[Bool.eq_iff_iff];simp
   have e1:(x.rt.1 != 1)=decide (x.rt.1≠1):=by rw[Bool.eq_iff_iff];simp
   have e2:(x.fl != 16)=decide (x.fl≠16):=by rw[Bool.eq_iff_iff];simp
   generalize decide (kn≠0)=d0 at e0 X1;generalize decide (x.rt.1≠1)=d1 at e1 X1;generalize decide (x.fl≠16)=d2 at e2 X1
   cases d0 <;> cases d1 <;> cases d2 <;> (go_wp2_with fail;go_meet;exact⟨congrArg Value.bool (by rw[X1.out];rfl),Hwa.out⟩)
 case rest =>
 obtain⟨rfl,Hwc0⟩:=hcut;generalize hwc:wc=wc0 at *;clear hwc
 cases x1 with
 | true =>
  have HF:Hid (R=false):=by
   show _=_;rw[HR.out];simp
  go_wp2_with fail
  go_ret;exact⟨zab HF.out.symm,zaa HB0.out Hwc0.out⟩
 | false =>
 go_upto_region 4 with fail
 go_cut [36] (λs36 wx=>s36=.bool x2/\Hid (Below w0.heap.size w0 wx))
 case first =>
  obtain⟨⟨b0,b1,b2,b3⟩,k0,k1,k2,k3,k4,k5,k6,k7,k8,k9,k10,k11⟩:=HC.out wc0 Hwc0.out;go_wp2_with fail
  refine Calls.mono (HH.out _).2.1 ?_;rintro e wa ⟨rfl,hba⟩;have Hwa:Hid (Below w0.heap.size w0 wa):=zaa Hwc0.out hba;clear hba b0 b1 b2 b3 k0 k1 k2 k3 k4 k5 k6 k7 k8 k9 k10 k11;obtain⟨⟨b0,b1,b2,b3⟩,k0,k1,k2,k3,k4,k5,k6,k7,k8,k9,k10,k11⟩:=HC.out wa Hwa.out
  cases p2 with
  | false=>(go_wp2_with fail;go_meet;exact⟨congrArg Value.bool (by rw[X2.out];rfl),Hwa.out⟩)
  | true =>
   go_wp2_with fail
   refine Calls.mono (HH.out _).1 ?_;rintro e wb ⟨rfl,hbb⟩;have Hwb:Hid (Below w0.heap.size w0 wb):=zaa Hwa.out hbb;clear hbb b0 b1 b2 b3 k0 k1 k2 k3 k4 k5 k6 k7 k8 k9 k10 k11;obtain⟨⟨b0,b1,b2,b3⟩,k0,k1,k2,k3,k4,k5,k6,k7,k8,k9,k10,k11⟩:=HC.out wb Hwb.out
   cases p1 with
   | true=>(go_wp2_with fail;go_meet;exact⟨congrArg Value.bool (by rw[X2.out];rfl),Hwb.out⟩)
   | false =>
    have e0:(kn==1)=decide (kn=1):=by rw[Bool.eq_iff_iff];simp
    generalize decide (kn=1)=d0 at e0 X2
    cases d0 <;> (go_wp2_with fail;go_meet;exact⟨congrArg Value.bool (by rw[X2.out];rfl),Hwb.out⟩)
 case rest =>
 obtain⟨rfl,Hwc1⟩:=hcut;generalize hwc:wc=wc1 at *;clear hwc
 cases x2 with
 | true =>
  have HF:Hid (R=false):=by
   show _=_;rw[HR.out];simp
  go_wp2_with fail
  go_ret;exact⟨zab HF.out.symm,zaa HB0.out Hwc1.out⟩
 | false =>
 go_upto_region 6 with fail
 go_cut [47] (λs47 wx=>s47=.bool x3/\Hid (Below w0.heap.size w0 wx))
 case first =>
  obtain⟨⟨b0,b1,b2,b3⟩,k0,k1,k2,k3,k4,k5,k6,k7,k8,k9,k10,k11⟩:=HC.out wc1 Hwc1.out;go_wp2_with fail
  refine Calls.mono (HH.out _).2.1 ?_;rintro e wa ⟨rfl,hba⟩;have Hwa:Hid (Below w0.heap.size w0 wa):=zaa Hwc1.out hba;clear hba b0 b1 b2 b3 k0 k1 k2 k3 k4 k5 k6 k7 k8 k9 k10 k11;obtain⟨⟨b0,b1,b2,b3⟩,k0,k1,k2,k3,k4,k5,k6,k7,k8,k9,k10,k11⟩:=HC.out wa Hwa.out
  cases p2 with
  | true=>(go_wp2_with fail;go_meet;exact⟨congrArg Value.bool (by rw[X3.out];rfl),Hwa.out⟩)
  | false =>
   go_wp2_with fail
   refine Calls.mono (HH.out _).2.2.1 ?_;rintro e wb ⟨rfl,hbb⟩;have Hwb:Hid (Below w0.heap.size w0 wb):=zaa Hwa.out hbb;clear hbb b0 b1 b2 b3 k0 k1 k2 k3 k4 k5 k6 k7 k8 k9 k10 k11;obtain⟨⟨b0,b1,b2,b3⟩,k0,k1,k2,k3,k4,k5,k6,k7,k8,k9,k10,k11⟩:=HC.out wb Hwb.out
   cases p4 with
   | true=>(go_wp2_with fail;go_meet;exact⟨congrArg Value.bool (by rw[X3.out];rfl),Hwb.out⟩)
   | false =>
    go_wp2_with fail
    refine Calls.mono (HH.out _).2.2.2.1 ?_;rintro e wd ⟨rfl,hbd⟩;have Hwd:Hid (Below w0.heap.size w0 wd):=zaa Hwb.out hbd;clear hbd b0 b1 b2 b3 k0 k1 k2 k3 k4 k5 k6 k7 k8 k9 k10 k11;obtain⟨⟨b0,b1,b2,b3⟩,k0,k1,k2,k3,k4,k5,k6,k7,k8,k9,k10,k11⟩:=HC.out wd Hwd.out
    (go_wp2_with fail;go_meet;exact⟨congrArg Value.bool (by rw[X3.out];rfl),Hwd.out⟩)
 case rest =>
 obtain⟨rfl,Hwc2⟩:=hcut;generalize hwc:wc=wc2 at *;clear hwc
 cases x3 with
 | true =>
  have HF:Hid (R=false):=by
   show _=_;rw[HR.out];simp
  go_wp2_with fail
  go_ret;exact⟨zab HF.out.symm,zaa HB0.out Hwc2.out⟩
 | false =>
 go_upto_region 8 with fail
 go_cut [72] (λs72 wx=>s72=.bool x4/\Hid (Below w0.heap.size w0 wx))
 case first =>
  obtain⟨⟨b0,b1,b2,b3⟩,k0,k1,k2,k3,k4,k5,k6,k7,k8,k9,k10,k11⟩:=HC.out wc2 Hwc2.out;go_wp2_with fail
  refine Calls.mono (HH.out _).2.2.1 ?_;rintro e wa ⟨rfl,hba⟩;have Hwa:Hid (Below w0.heap.size w0 wa):=zaa Hwc2.out hba;clear hba b0 b1 b2 b3 k0 k1 k2 k3 k4 k5 k6 k7 k8 k9 k10 k11;obtain⟨⟨b0,b1,b2,b3⟩,k0,k1,k2,k3,k4,k5,k6,k7,k8,k9,k10,k11⟩:=HC.out wa Hwa.out
  cases p4 with
  | false=>(go_wp2_with fail;go_meet;exact⟨congrArg Value.bool (by rw[X4.out];rfl),Hwa.out⟩)
  | true =>
   have e3:decide (0<x.mx)=decide (0<x.mx):=rfl;generalize hd3:decide (0<x.mx)=d3 at e3 X4;clear e3;have e0:decide (0<x.co.length)=decide (x.co≠[]):=by rw[Bool.eq_iff_iff];simp[List.length_pos_iff]
   have e1:decide (0<x.ls.length)=decide (x.ls≠[]):=by rw[Bool.eq_iff_iff];simp[List.length_pos_iff]
   have e2:decide (0<x.cl.length)=decide (x.cl≠[]):=by rw[Bool.eq_iff_iff];simp[List.length_pos_iff]
   generalize decide (x.co≠[])=d0 at e0 X4;generalize decide (x.ls≠[])=d1 at e1 X4;generalize decide (x.cl≠[])=d2 at e2 X4
   cases d3 <;> cases d0 <;> cases d1 <;> cases d2 <;> (go_wp2_with fail;go_meet;exact⟨congrArg Value.bool (by rw[X4.out];rfl),Hwa.out⟩)
 case rest =>
 obtain⟨rfl,Hwc3⟩:=hcut;generalize hwc:wc=wc3 at *;clear hwc
 cases x4 with
 | true =>
  have HF:Hid (R=false):=by
   show _=_;rw[HR.out];simp
  go_wp2_with fail
  go_ret;exact⟨zab HF.out.symm,zaa HB0.out Hwc3.out⟩
 | false =>
 go_upto_region 10 with fail
 go_cut [85] (λs85 wx=>s85=.bool x5/\Hid (Below w0.heap.size w0 wx))
 case first =>
  obtain⟨⟨b0,b1,b2,b3⟩,k0,k1,k2,k3,k4,k5,k6,k7,k8,k9,k10,k11⟩:=HC.out wc3 Hwc3.out;go_wp2_with fail
  refine Calls.mono (HH.out _).2.2.1 ?_;rintro e wa ⟨rfl,hba⟩;have Hwa:Hid (Below w0.heap.size w0 wa):=zaa Hwc3.out hba;clear hba b0 b1 b2 b3 k0 k1 k2 k3 k4 k5 k6 k7 k8 k9 k10 k11;obtain⟨⟨b0,b1,b2,b3⟩,k0,k1,k2,k3,k4,k5,k6,k7,k8,k9,k10,k11⟩:=HC.out wa Hwa.out
  cases p4 with
  | true=>(go_wp2_with fail;go_meet;exact⟨congrArg Value.bool (by rw[X5.out];rfl),Hwa.out⟩)
  | false =>
   generalize hd3:decide (2<=kn)=d3 at X5;have e0:((x.co.length:Int)==0)=decide (x.co=[]):=zb1 _;generalize decide (x.co=[])=d0 at e0 X5
   cases d3 <;> cases d0 <;> (go_wp2_with fail;go_meet;exact⟨congrArg Value.bool (by rw[X5.out];rfl),Hwa.out⟩)
 case rest =>
 obtain⟨rfl,Hwc4⟩:=hcut;generalize hwc:wc=wc4 at *;clear hwc
 cases x5 with
 | true =>
  have HF:Hid (R=false):=by
   show _=_;rw[HR.out];simp
  go_wp2_with fail
  go_ret;exact⟨zab HF.out.symm,zaa HB0.out Hwc4.out⟩
 | false =>
 go_upto_region 12 with fail
 go_cut [95] (λs95 wx=>s95=.bool x6/\Hid (Below w0.heap.size w0 wx))
 case first =>
  obtain⟨⟨b0,b1,b2,b3⟩,k0,k1,k2,k3,k4,k5,k6,k7,k8,k9,k10,k11⟩:=HC.out wc4 Hwc4.out;have e0:(kn==3)=decide (kn=3):=by rw[Bool.eq_iff_iff];simp
  generalize decide (kn=3)=d0 at e0 X6
  cases d0 with
  | false=>(go_wp2_with fail;go_meet;exact⟨congrArg Value.bool (by rw[X6.out];rfl),Hwc4.out⟩)
  | true =>
   go_wp2_with fail
   refine Calls.mono (HMt.out wc4 Hwc4.out) ?_;rintro e wa ⟨mv,rfl,hm,hba⟩;have Hwa:Hid (Below w0.heap.size w0 wa):=zaa Hwc4.out hba;obtain⟨va,vc,hv,_,_⟩:=hm.is.shape;subst hv;clear hm hba;have e1:(((zat g x.ow).length:Int) != 1)=decide ((zat g x.ow).length≠1):=by rw[Bool.eq_iff_iff];simp;omega
   generalize decide ((zat g x.ow).length≠1)=d1 at e1 X6
   cases d1 <;> (go_wp2_with fail;go_meet;exact⟨congrArg Value.bool (by rw[X6.out];rfl),Hwa.out⟩)
 case rest =>
 obtain⟨rfl,Hwc5⟩:=hcut;generalize hwc:wc=wc5 at *;clear hwc
 cases x6 with
 | true =>
  have HF:Hid (R=false):=by
   show _=_;rw[HR.out];simp
  go_wp2_with fail
  go_ret;exact⟨zab HF.out.symm,zaa HB0.out Hwc5.out⟩
 | false =>
 obtain⟨⟨b0,b1,b2,b3⟩,k0,k1,k2,k3,k4,k5,k6,k7,k8,k9,k10,k11⟩:=HC.out wc5 Hwc5.out;go_wp2_with fail
 refine Calls.mono (HH.out _).2.2.1 ?_;rintro e wa ⟨rfl,hba⟩;have Hwa:Hid (Below w0.heap.size w0 wa):=zaa Hwc5.out hba;clear hba b0 b1 b2 b3 k0 k1 k2 k3 k4 k5 k6 k7 k8 k9 k10 k11;obtain⟨⟨b0,b1,b2,b3⟩,k0,k1,k2,k3,k4,k5,k6,k7,k8,k9,k10,k11⟩:=HC.out wa Hwa.out
 cases p4 with
 | false =>
  have HF:Hid (R=true):=by
   show _=_;rw[HR.out];rfl
  go_wp2_with fail
  go_ret;exact⟨zab HF.out.symm,zaa HB0.out Hwa.out⟩
 | true =>
  have HF:Hid (R=(decide (2<=kn)||ab)):=by
   show _=_;rw[HR.out];rfl
  generalize hd3:decide (2<=kn)=d3 at HF
  cases d3 with
  | true =>
   go_wp2_with fail
   go_ret;exact⟨zab (by rw[HF.out];rfl),zaa HB0.out Hwa.out⟩
  | false =>
   rw[HOw.out]at k1;rw[HTa.out]at b0;have ct:=HTy.out wa Hwa.out;unfold maxLen at hh2;go_wp2_with fail
   go_ret;refine⟨zab ?_,zaa HB0.out Hwa.out⟩;have hqt:(tf / 4).tmod 2=(if ab=true then 1 else 0):=HQ.out
   rw[Int.tmod_eq_emod_of_nonneg (by omega)]at hqt
   rw[HF.out,hqt]
   cases ab <;> rfl
def zcK (b n:Nat):Nat:=if n<=b then n else b+1
def CnB (b n m:Nat):Prop:=n=m∨(b<n/\b<m)
theorem zop (b m:Nat):CnB b (zcK b m) m:=by
 unfold CnB zcK
 split
 ·exact Or.inl rfl
 ·exact Or.inr ⟨by omega,by omega⟩
theorem CnB.add {b n m a c:Nat} (h:CnB b n m) (k:CnB b a c):CnB b (n+a) (m+c):=by unfold CnB at *;omega
theorem CnB.more {b n m:Nat} (h:CnB b n m) (hb:b<n) {M:Nat} (hM:m<=M):CnB b n M:=by unfold CnB at *;omega
theorem CnB.cut {b n m:Nat} (h:CnB b n m):zcK b m=if b<n then b+1 else n:=by unfold CnB at h;unfold zcK;split <;> split <;> omega
theorem CnB.lt {b n m:Nat} (h:CnB b n m):b<n↔b<m:=by unfold CnB at h;omega
theorem zrU (b m:Nat):zcK b m<=b+1:=by unfold zcK;split <;> omega
theorem zoO {g:Img} {t:Int} (i:Nat):(zlY g t i).length<=(zde g t).length:=by
 rw[<- zlg (g:=g) (t:=t) (i:=g.fs.length) (Nat.le_refl _)];unfold zlY;rw[List.take_of_length_le (Nat.le_refl g.fs.length)];have h:g.fs=g.fs.take i ++ g.fs.drop i:=(List.take_append_drop i g.fs).symm;have:(g.fs.filter (zdf t)).flatMap (λx=>zbl g x.t)=((g.fs.take i).filter (zdf t)).flatMap (λx=>zbl g x.t) ++ ((g.fs.drop i).filter (zdf t)).flatMap (λx=>zbl g x.t):=by
  rw[<- List.flatMap_append,<- List.filter_append,<- h]
 rw[this,List.length_append];omega
theorem zfy {g:Img} {t:Ty} {b:Nat} {w:World} (hg:Im w g) (hw:zcP t=true) (hb:1<=b):Ans 72 #[zao g,.agg #[.int .i64 t.1,.int .i64 t.2.1,.int .i64 t.2.2.1,.bool t.2.2.2],.int .i64 (b:Int)] w (.int .i64 (zcK b (zft t).length)):=by
 obtain⟨w0,HW0,HB0,HC,HI⟩:=zaO hg t;obtain⟨⟨c0,c1,c2,c3⟩,d0,d1,d2,d3⟩:=HC.out w0 (Below.refl _ _);have HWh:Hid (Ans 97 #[.agg #[.int .i64 t.1,.int .i64 t.2.1,.int .i64 t.2.2.1,.bool t.2.2.2]] w0 (.bool (zcP t))):=zeh t w0;have HR1:Hid (t.1=1->zcK b (zft t).length=0):=λh=>by unfold zft zcK;rw[if_pos h];simp
 have HR2:Hid (t.1≠1->zcK b (zft t).length=1):=λh=>by unfold zft zcK;rw[if_neg h];simp <;> omega
 rw[hw]at HWh;clear HI hg hw HC;unfold zao;generalize zcK b (zft t).length=R at *;obtain⟨k,i,d,r⟩:=t;simp only at *;by_cases h1:k=1
 ·subst h1;have HR:Hid (R=0):=HR1.out rfl;go_enter Tryz.func72,Tryz.ntmps72;go_wp2_with (rw[<- HW0.out])
  go_ret;exact⟨zak (by rw[HR.out];rfl),HB0.out⟩
 ·have HR:Hid (R=1):=HR2.out h1;have e1:(k==1)=false:=by simpa using h1
  clear h1;go_enter Tryz.func72,Tryz.ntmps72;go_wp2_with (rw[<- HW0.out])
  refine Calls.mono HWh.out ?_;rintro e w1 ⟨rfl,hb1⟩;have HB1:Hid (Below w.heap.size w w1):=zaa HB0.out hb1;clear c0 c1 c2 c3 d0 d1 d2 d3 hb1 HWh;go_wp2_with fail
  go_ret;exact⟨zak (by rw[HR.out];rfl),HB1.out⟩
set_option maxRecDepth 20000 in
theorem zgm {g:Img} {t:Int} {b:Nat} {w:World} (hg:Im w g) (hk:zag g t=1) (hb:1<=b) (hb2:b<=100)
 (IH:∀ y W,Im W g->y∈zbP g t->Ans 72 #[zao g,.agg #[.int .i64 y.1,.int .i64 y.2.1,.int .i64 y.2.2.1,.bool y.2.2.2],.int .i64 (b:Int)] W (.int .i64 (zcK b (zbl g y).length))) :
 Ans 72 #[zao g,.agg #[.int .i64 6,.int .i64 t,.int .i64 0,.bool false],.int .i64 (b:Int)] w (.int .i64 (zcK b (orI (zde g t)).length)):=by
 obtain⟨w0,HW0,HB0,HC,HI⟩:=zaO hg (6,t,0,false);have hfl:=hg.fs.len;unfold maxLen at hfl;have HWh:Hid (Ans 97 #[.agg #[.int .i64 6,.int .i64 t,.int .i64 0,.bool false]] w0 (.bool false)):=zeh (6,t,0,false) w0;have HFs:Hid (∀ W,Below w0.heap.size w0 W->Es fdE W (.slice g.fa g.fs.length g.fc) g.fs):=λW hW=>(HI.out W hW).fs
 have HC4:Hid (∀ W,Below w0.heap.size w0 W->Im4 W w.heap.size g):=λW hW=>(HC.out W hW).1
 have HD:Hid (∀ W,Below w0.heap.size w0 W->W.cell? ⟨w.heap.size+1,1,none⟩=some (.int .i64 t)):=λW hW=>(HC.out W hW).2.2.1
 have HCe:Hid (∀ W (i:Nat) (h:i<g.fs.length),Below w0.heap.size w0 W->zdf t g.fs[i]=true->Ans 72 #[zao g,.agg #[.int .i64 g.fs[i].t.1,.int .i64 g.fs[i].t.2.1,.int .i64 g.fs[i].t.2.2.1,.bool g.fs[i].t.2.2.2],.int .i64 (b:Int)] W (.int .i64 (zcK b (zbl g g.fs[i].t).length))):=λW i h hW ho=>IH _ W (HI.out W hW) (zrd h ho)
 have HMo:Hid (∀ i,(zlY g t i).length<=(zde g t).length):=zoO;have HR:Hid (∀ n,CnB b n (zde g t).length->zcK b (orI (zde g t)).length=if n=0 then 1 else if b<n then b+1 else n):=λn h=>by
  unfold orI;by_cases h0:zde g t=[]
  ·rw[if_pos h0];rw[h0]at h;have hn:n=0:=by unfold CnB at h;simp at h;omega
   rw[if_pos hn];unfold zcK;simp <;> omega
  ·have hp:0<(zde g t).length:=List.length_pos_iff.2 h0;have hn0:¬ n=0:=by unfold CnB at h;omega
   rw[if_neg h0,h.cut];exact (if_neg hn0).symm
 obtain⟨⟨c0,c1,c2,c3⟩,d0,d1,d2,d3⟩:=HC.out w0 (Below.refl _ _);unfold zao at HCe ⊢;unfold Im4 at HC4;simp only at *;generalize g.fa=fa at *;generalize zcK b (orI (zde g t)).length=R at *;clear hg HC HI IH;go_enter Tryz.func72,Tryz.ntmps72;go_wp2_with (rw[<- HW0.out])
 refine Calls.mono HWh.out ?_;rintro e w1 ⟨rfl,hb1⟩;have HB1:Hid (Below w0.heap.size w0 w1):=hb1;clear hb1 HWh c0 c1 c2 c3 d0 d1 d2 d3;go_wp2_with fail
 go_loopw [7,8] (λnv z wr=>∃ i n:Nat,i<=g.fs.length/\z=.int .i64 i/\nv=.int .i64 n/\Hid (CnB b n (zlY g t i).length)/\n<=2 * b+1/\Hid (Below w1.heap.size w1 wr)) (λ_ z _=>g.fs.length - (intOf z).toNat)
 case atStart=>exact⟨0,0,Nat.zero_le _,rfl,rfl,Or.inl rfl,by omega,Below.refl _ _⟩
 case round =>
  obtain⟨i,n,hi,rfl,rfl,HN,hn2,HB⟩:=hrel;have HB01:Hid (Below w0.heap.size w0 wr):=zaa HB1.out HB.out;by_cases hgo:i<g.fs.length/\n<=b
  ·obtain⟨hil,hnb⟩:=hgo;have hii:(i:Int)<(g.fs.length:Int):=by omega
   have hni:(n:Int)<=(b:Int):=by omega
   obtain⟨tb,off,hla,_,hel⟩:=(HFs.out w0 (Below.refl _ _)).elAll (by intro e;rw[e]at hil;simp at hil)
   subst hla;have HEl:Hid (∀ W,Below w0.heap.size w0 W->El fdE W tb (off+i * 7) g.fs[i]):=λW hW=>hel W hW i hil
   have HT:Hid (zlY g t (i+1)=zlY g t i ++ (if zdf t g.fs[i]=true then zbl g g.fs[i].t else [])):=zoe hil
   have HCq:Hid (zdf t g.fs[i]=true->∀ W,Below w0.heap.size w0 W->Ans 72 #[.agg #[.slice g.ta g.ts.length g.tc,.slice (some ⟨tb,off,none⟩) g.fs.length g.fc,.slice g.ma g.ms.length g.mc,.int .i64 g.en],.agg #[.int .i64 g.fs[i].t.1,.int .i64 g.fs[i].t.2.1,.int .i64 g.fs[i].t.2.2.1,.bool g.fs[i].t.2.2.2],.int .i64 (b:Int)] W (.int .i64 (zcK b (zbl g g.fs[i].t).length))):=λho W hW=>HCe.out W i hil hW ho
   clear hel;generalize g.fs[i]=x at *;have HK:Hid (∀ W,Below w1.heap.size w1 W->(W.cell? ⟨w.heap.size,0,none⟩=some (.slice g.ta g.ts.length g.tc)/\W.cell? ⟨w.heap.size,1,none⟩=some (.slice (some ⟨tb,off,none⟩) g.fs.length g.fc)/\W.cell? ⟨w.heap.size,2,none⟩=some (.slice g.ma g.ms.length g.mc)/\W.cell? ⟨w.heap.size,3,none⟩=some (.int .i64 g.en))/\W.cell? ⟨w.heap.size+1,1,none⟩=some (.int .i64 t)/\W.cell? ⟨tb,off+i * 7,none⟩=some (.string x.nm)/\W.cell? ⟨tb,off+i * 7+1,none⟩=some (.int .i64 x.ow)/\W.cell? ⟨tb,off+i * 7+2,none⟩=some (.int .i64 x.t.1)/\W.cell? ⟨tb,off+i * 7+3,none⟩=some (.int .i64 x.t.2.1)/\W.cell? ⟨tb,off+i * 7+4,none⟩=some (.int .i64 x.t.2.2.1)/\W.cell? ⟨tb,off+i * 7+5,none⟩=some (.bool x.t.2.2.2)/\W.cell? ⟨tb,off+i * 7+6,none⟩=some (.bool x.st)):=λW hW=>⟨HC4.out W (zaa HB1.out hW),HD.out W (zaa HB1.out hW),(HEl.out W (zaa HB1.out hW)).cells_F⟩
   obtain⟨⟨c0,c1,c2,c3⟩,d1,k0,k1,k2,k3,k4,k5,k6⟩:=HK.out wr HB.out;have HF1:Hid ((x.ow==t)=false->zdf t x=false):=zkk;have HF2:Hid (x.st=true->zdf t x=false):=zjp;have HF3:Hid ((x.ow==t)=true->x.st=false->zdf t x=true):=znA
   cases hob:(x.ow==t) with
   | false =>
    have HT2:Hid (CnB b n (zlY g t (i+1)).length):=by show CnB _ _ _;rw[HT.out,HF1.out hob];simpa using HN.out
    clear HT HF1 HF2 HF3;go_wp2_with fail
    go_quiet (fail)
    go_wp2_with fail
    go_roundw
    case rel=>exact⟨i+1,n,by omega,by go_num,rfl,HT2.out,by omega,Below.drewN HB.out _⟩
    case measure=>simp[intOf];omega
   | true =>
    cases hst:x.st with
    | true =>
     have HT2:Hid (CnB b n (zlY g t (i+1)).length):=by show CnB _ _ _;rw[HT.out,HF2.out hst];simpa using HN.out
     rw[hst]at k6;clear HT HF1 HF2 HF3 hst;go_wp2_with fail
     go_quiet (fail)
     go_wp2_with fail
     go_roundw
     case rel=>exact⟨i+1,n,by omega,by go_num,rfl,HT2.out,by omega,Below.drewN HB.out _⟩
     case measure=>simp[intOf];omega
    | false =>
     have hown:zdf t x=true:=HF3.out hob hst;have HT2:Hid (CnB b (n+zcK b (zbl g x.t).length) (zlY g t (i+1)).length):=by
      show CnB _ _ _;rw[HT.out,hown,if_pos rfl,List.length_append];exact HN.out.add (zop _ _)
     have hcl:zcK b (zbl g x.t).length<=b+1:=zrU _ _;have HCr:Hid (∀ W,Below w0.heap.size w0 W->Ans 72 #[.agg #[.slice g.ta g.ts.length g.tc,.slice (some ⟨tb,off,none⟩) g.fs.length g.fc,.slice g.ma g.ms.length g.mc,.int .i64 g.en],.agg #[.int .i64 x.t.1,.int .i64 x.t.2.1,.int .i64 x.t.2.2.1,.bool x.t.2.2.2],.int .i64 (b:Int)] W (.int .i64 (zcK b (zbl g x.t).length))):=HCq.out hown;rw[hst]at k6 HK;clear HT HF1 HF2 HF3 hst hown HCq;generalize zcK b (zbl g x.t).length=C at *;go_wp2_with fail
     go_quiet (fail)
     have HB4:Hid (Below w1.heap.size w1 (wr.drewN nq)):=Below.drewN HB.out nq;clear c0 c1 c2 c3 d1 k0 k1 k2 k3 k4 k5 k6
     revert HB4
     generalize wr.drewN nq=w4;intro HB4;obtain⟨⟨c0,c1,c2,c3⟩,d1,k0,k1,k2,k3,k4,k5,k6⟩:=HK.out w4 HB4.out;go_wp2_with fail
     go_region_held3 (λW:World=>(W.cell? ⟨w.heap.size,0,none⟩=some (.slice g.ta g.ts.length g.tc)/\W.cell? ⟨w.heap.size,1,none⟩=some (.slice (some ⟨tb,off,none⟩) g.fs.length g.fc)/\W.cell? ⟨w.heap.size,2,none⟩=some (.slice g.ma g.ms.length g.mc)/\W.cell? ⟨w.heap.size,3,none⟩=some (.int .i64 g.en))/\W.cell? ⟨w.heap.size+1,1,none⟩=some (.int .i64 t)/\W.cell? ⟨tb,off+i * 7,none⟩=some (.string x.nm)/\W.cell? ⟨tb,off+i * 7+1,none⟩=some (.int .i64 x.ow)/\W.cell? ⟨tb,off+i * 7+2,none⟩=some (.int .i64 x.t.1)/\W.cell? ⟨tb,off+i * 7+3,none⟩=some (.int .i64 x.t.2.1)/\W.cell? ⟨tb,off+i * 7+4,none⟩=some (.int .i64 x.t.2.2.1)/\W.cell? ⟨tb,off+i * 7+5,none⟩=some (.bool x.t.2.2.2)/\W.cell? ⟨tb,off+i * 7+6,none⟩=some (.bool false))
      (first | (exact HK.out _ (zaa HB4.out hBc)) | (exact HK.out _ (zaa HB4.out (zad _))))
      ((go_at_call 72;refine (HCr.out _ (zaa HB1.out (zaa HB4.out (zad _)))).mono ?_;rintro e w3 ⟨rfl,hb3⟩;have hBc:Below w4.heap.size w4 w3:=zaa (zad _) hb3))
     rename_i hheld
     clear hheld;have HB5:Hid (Below w1.heap.size w1 w3):=zaa HB4.out hBc;clear hb3 hBc c0 c1 c2 c3 d1 k0 k1 k2 k3 k4 k5 k6 HK HCr;go_wp2_with fail
     go_roundw
     case rel=>exact⟨i+1,n+C,by omega,by go_num,by simp[IntKind.wrap,IntKind.bits,IntKind.signed];omega,HT2.out,by omega,HB5.out⟩
     case measure=>simp[intOf];omega
  ·have HN2:Hid (CnB b n (zde g t).length):=by
    show CnB _ _ _;by_cases h1:i<g.fs.length
    ·have h2:b<n:=by
      rcases Nat.lt_or_ge b n with h | h
      ·exact h
      ·exact absurd ⟨h1,h⟩ hgo
     exact HN.out.more h2 (HMo.out i)
    ·have:=HN.out
     rwa [zlg (by omega)]at this
   have HRn:Hid (R=if n=0 then 1 else if b<n then b+1 else n):=HR.out n HN2.out
   obtain⟨c0,c1,c2,c3⟩:=HC4.out wr HB01.out;have HBe:Hid (Below w.heap.size w wr):=zaa HB0.out HB01.out;clear HN HN2 HB HB01;by_cases hn0:n=0
   ·subst hn0;have hii:¬ (i:Int)<(g.fs.length:Int):=by omega
    have hbi:¬ (b:Int)<1:=by omega
    have hbj:¬ (1:Int)>(b:Int):=by omega
    have HR1:Hid (R=1):=HRn.out;clear hgo;go_wp2_with fail
    go_ret;exact⟨zak (by rw[HR1.out];rfl),HBe.out⟩
   ·have hnz:¬ (n:Int)=0:=by omega
    by_cases hbn:b<n
    ·have hbi:(b:Int)<(n:Int):=by omega
     have hnb:¬ (n:Int)<=(b:Int):=by omega
     have HR1:Hid (R=b+1):=by show _=_;rw[HRn.out,if_neg hn0,if_pos hbn]
     have h16:(b:Int)+1<=102:=by omega
     by_cases hil:i<g.fs.length
     ·have hii:(i:Int)<(g.fs.length:Int):=by omega
      clear hgo hn0;go_wp2_with fail
      go_ret;exact⟨zak (by rw[HR1.out];simp[IntKind.wrap,IntKind.bits,IntKind.signed];try omega),HBe.out⟩
     ·have hii:¬ (i:Int)<(g.fs.length:Int):=by omega
      clear hgo hn0;go_wp2_with fail
      go_ret;exact⟨zak (by rw[HR1.out];simp[IntKind.wrap,IntKind.bits,IntKind.signed];try omega),HBe.out⟩
    ·have hbi:¬ (b:Int)<(n:Int):=by omega
     have hii:¬ (i:Int)<(g.fs.length:Int):=by omega
     have HR1:Hid (R=n):=by show _=_;rw[HRn.out,if_neg hn0,if_neg hbn]
     clear hgo hn0;go_wp2_with fail
     go_ret;exact⟨zak (by rw[HR1.out]),HBe.out⟩
theorem zf7 {g:Img} (U:WU g) {b:Nat} (hb:1<=b) (hb2:b<=100):∀ (k:Nat) (t:Ty) (w:World),Im w g->zaw g t=true->dpB g k t=true->Ans 72 #[zao g,.agg #[.int .i64 t.1,.int .i64 t.2.1,.int .i64 t.2.2.1,.bool t.2.2.2],.int .i64 (b:Int)] w (.int .i64 (zcK b (zbl g t).length))
 | k,t,w,hg,hu,hd=>by
  cases hw:zcP t with
  | true=>rw[znX hw];exact zfy hg hw hb
  | false =>
   obtain⟨v1,v2,v3,v4,v5⟩:=zd1 hu hw
   cases k with
   | zero=>unfold dpB at hd;rw[hw]at hd;cases hd
   | succ k =>
    have h1:(zbP g t.2.1).all (dpB g k)=true:=by
     unfold dpB at hd;rw[hw]at hd;simpa using hd
    rw[List.all_eq_true]at h1;rw[zoR U.used (ValA.of U.wel) hu hw];have e:t=(6,t.2.1,0,false):=by
     obtain⟨a,b,c,d⟩:=t;simp only at v1 v2 v3;subst v1 v2 v3;rfl
    have:=zgm hg v4 hb hb2 (λy W hW hy=>zf7 U hb hb2 k y W hW (U.used.hld hy) (h1 y hy))
    rw[e];exact this
theorem zh9 {g:Img} (U:WU g) {b:Nat} (hb:1<=b) (hb2:b<=100) {t:Ty} {w:World} (hg:Im w g) (hu:zaw g t=true):Ans 72 #[zao g,.agg #[.int .i64 t.1,.int .i64 t.2.1,.int .i64 t.2.2.1,.bool t.2.2.2],.int .i64 (b:Int)] w (.int .i64 (zcK b (zbl g t).length)):=
 zf7 U hb hb2 g.ts.length t w hg hu (zoF U.used (ValA.of U.wel) hu)
abbrev zxz:Oper:=⟨some 7,.load 26 (.tmp 3),26,"slots.go:41",#[],none⟩
abbrev zv0:Oper:=⟨some 8,.call ⟨.value (.func 14),#[.tmp 7],#[26]⟩,4,"slots.go:41",#[⟨0,.data⟩],none⟩
abbrev zwA:Oper:=⟨some 9,.unOp .not 4 (.tmp 8),4,"slots.go:41",#[⟨1,.data⟩],none⟩
abbrev zxG:Oper:=⟨some 10,.move (.tmp 9),4,"slots.go:41",#[⟨2,.data⟩,⟨1,.chain⟩],none⟩
abbrev zwV:Oper:=⟨some 11,.load 26 (.tmp 3),26,"slots.go:41",#[⟨3,.guard⟩],some (3,false)⟩
abbrev zws:Oper:=⟨some 12,.move (.tmp 2),3,"slots.go:41",#[⟨3,.guard⟩],some (3,false)⟩
abbrev zwr:Oper:=⟨some 13,.call ⟨.value (.func 31),#[.tmp 11,.tmp 12],#[26,3]⟩,4,"slots.go:41",#[⟨4,.data⟩,⟨5,.data⟩,⟨3,.chain⟩,⟨3,.guard⟩],some (3,false)⟩
abbrev zv7:Oper:=⟨some 14,.unOp .not 4 (.tmp 13),4,"slots.go:41",#[⟨6,.data⟩,⟨3,.guard⟩],some (3,false)⟩
abbrev zwn:Oper:=⟨some 15,.pick (.tmp 10) (.const (.bool true)) (.tmp 14),4,"slots.go:41",#[⟨3,.data⟩,⟨7,.data⟩],none⟩
abbrev zxD:Oper:=⟨some 16,.move (.tmp 15),4,"slots.go:41",#[⟨8,.data⟩,⟨6,.chain⟩],none⟩
abbrev zvk:Oper:=⟨some 17,.load 26 (.tmp 3),26,"slots.go:41",#[⟨9,.guard⟩],some (9,false)⟩
abbrev zuh:Oper:=⟨some 18,.move (.tmp 1),3,"slots.go:41",#[⟨9,.guard⟩],some (9,false)⟩
abbrev zty:Oper:=⟨some 19,.call ⟨.value (.func 16),#[.tmp 17,.tmp 18],#[26,3]⟩,3,"slots.go:41",#[⟨10,.data⟩,⟨11,.data⟩,⟨9,.chain⟩,⟨9,.guard⟩],some (9,false)⟩
abbrev ztY:Oper:=⟨some 20,.binOp .neq 3 (.tmp 19) (.const (.int .i64 0)) 3,4,"slots.go:41",#[⟨12,.data⟩,⟨9,.guard⟩],some (9,false)⟩
abbrev ztS:Oper:=⟨some 21,.pick (.tmp 16) (.const (.bool true)) (.tmp 20),4,"slots.go:41",#[⟨9,.data⟩,⟨13,.data⟩],none⟩
abbrev zu3:Oper:=⟨some 22,.move (.tmp 21),4,"slots.go:41",#[⟨14,.data⟩,⟨12,.chain⟩],none⟩
abbrev zvq:Oper:=⟨some 23,.load 26 (.tmp 3),26,"slots.go:41",#[⟨15,.guard⟩],some (15,false)⟩
abbrev zuZ:Oper:=⟨some 24,.move (.tmp 1),3,"slots.go:41",#[⟨15,.guard⟩],some (15,false)⟩
abbrev ztD:Oper:=⟨some 25,.fieldAddr 26 (.tmp 3) 2,0,"slots.go:41",#[⟨15,.guard⟩],some (15,false)⟩
abbrev zvy:Oper:=⟨some 26,.load 24 (.tmp 25),24,"slots.go:41",#[⟨18,.data⟩,⟨15,.guard⟩],some (15,false)⟩
abbrev zt8:Oper:=⟨some 27,.move (.tmp 2),3,"slots.go:41",#[⟨15,.guard⟩],some (15,false)⟩
abbrev zvv:Oper:=⟨some 28,.indexAddr 24 (.tmp 26) (.tmp 27),0,"slots.go:41",#[⟨19,.data⟩,⟨20,.data⟩,⟨15,.guard⟩],some (15,false)⟩
abbrev zuR:Oper:=⟨some 29,.fieldAddr 51 (.tmp 28) 1,0,"slots.go:41",#[⟨21,.data⟩,⟨15,.guard⟩],some (15,false)⟩
abbrev zu8:Oper:=⟨some 30,.load 3 (.tmp 29),3,"slots.go:41",#[⟨22,.data⟩,⟨15,.guard⟩],some (15,false)⟩
abbrev zue:Oper:=⟨some 31,.call ⟨.value (.func 32),#[.tmp 23,.tmp 24,.tmp 30],#[26,3,3]⟩,4,"slots.go:41",#[⟨16,.data⟩,⟨17,.data⟩,⟨23,.data⟩,⟨15,.chain⟩,⟨15,.guard⟩],some (15,false)⟩
abbrev zum:Oper:=⟨some 32,.unOp .not 4 (.tmp 31),4,"slots.go:41",#[⟨24,.data⟩,⟨15,.guard⟩],some (15,false)⟩
abbrev zvs:Oper:=⟨some 33,.pick (.tmp 22) (.const (.bool true)) (.tmp 32),4,"slots.go:41",#[⟨15,.data⟩,⟨25,.data⟩],none⟩
set_option maxRecDepth 20000 in
theorem zf2 {g:Img} {t:Int} {k:Nat} {w:World} (hg:Im w g) (hf:zbc g=true) (hk:k<g.ms.length) (ht:zag g t=0) (hwf:Wf t) (hb:zmn g t g.ms[k].ow=true):Ans 13 #[zao g,.int .i64 t,.int .i64 k] w (.int .i64 (zaL g t (k:Int))):=by
 obtain⟨w0,tb,off,hma,h1,h2,HW0,HB0,HK,HI,HG⟩:=zaJ hg hk;have hnm:zbT g (k:Int):=zai.2 (by omega)
 have hw:=(Fin_.of hf).wel;have hi:=(Wel.of hw).im;have HFw:Hid (∀ W,Below w0.heap.size w0 W->Ans 14 #[zao g] W (.bool true)):=λW hW=>by rw[<- hf];exact zbY (HI.out W hW)
 have HIm:Hid (∀ W,Below w0.heap.size w0 W->Ans 31 #[zao g,.int .i64 k] W (.bool true)):=λW hW=>by
  have:=zfA (k:Int) (HI.out W hW);rw[show zam (k:Int) g.ms.length=true from hnm]at this;exact this
 have HKn:Hid (∀ W,Below w0.heap.size w0 W->Ans 16 #[zao g,.int .i64 t] W (.int .i64 0)):=λW hW=>by rw[<- ht];exact zaQ _ (HI.out W hW) (FlOk.of hi)
 have HBe:Hid (∀ W,Below w0.heap.size w0 W->Ans 32 #[zao g,.int .i64 t,.int .i64 g.ms[k].ow] W (.bool true)):=λW hW=>by rw[<- hb];exact znG (HI.out W hW) hi hwf
 have HDn:Hid (∀ W,Below w0.heap.size w0 W->Ans 33 #[zao g,.int .i64 t,.int .i64 k] W (.int .i64 (zaL g t (k:Int)))):=λW hW=>zfW (HI.out W hW) hw hnm ht hwf (by rw[za2 hk];exact hb)
 have hki:(k:Int)<(g.ms.length:Int):=by omega
 unfold maxLen at h2;unfold zao at HFw HIm HKn HBe HDn ⊢;rw[hma]at HFw HIm HKn HBe HDn ⊢;clear hg hf hnm hw hi ht hwf hb hma HI HG;generalize zaL g t (k:Int)=R at *;generalize g.ms[k]=x at *;go_enter Tryz.func13,Tryz.ntmps13;go_wp2_with (rw[<- HW0.out])
 refine wp_region_held_drew (S:=(λW=>(W.cell? ⟨w.heap.size,0,none⟩=some (.slice g.ta g.ts.length g.tc)/\W.cell? ⟨w.heap.size,1,none⟩=some (.slice g.fa g.fs.length g.fc)/\W.cell? ⟨w.heap.size,2,none⟩=some (.slice (some ⟨tb,off,none⟩) g.ms.length g.mc)/\W.cell? ⟨w.heap.size,3,none⟩=some (.int .i64 g.en))/\MtA W tb (off+k * 12) x)) (by kernel_rfl) (HK.out _ (zad _)) (λyb=>?_)
 refine tY 0 zxz (.agg #[.slice g.ta g.ts.length g.tc,.slice g.fa g.fs.length g.fc,.slice (some ⟨tb,off,none⟩) g.ms.length g.mc,.int .i64 g.en]) yb ?_;refine wpAnyH_ready (rs:=[1]) (by kernel_rfl) (by simp) ?_
 refine AllReadyH.cons (o:=zv0) rfl (λK hK=>?_) AllReadyH.nil
 go_simp
 refine (HFw.out _ (zad _)).mono ?_;rintro e w1 ⟨rfl,hb1⟩;have hB1:Below w0.heap.size w0 w1:=zaa (zad _) hb1
 try go_wp2_with fail
 refine hK.out _ _ (HK.out _ hB1) (λyb=>?_)
 clear hK K
 try simp only[Act.put,sA,s0,sS]
 refine tY 2 zwA (.bool false) yb ?_;refine tY 3 zxG (.bool false) yb ?_;refine tY 4 zwV (.agg #[.slice g.ta g.ts.length g.tc,.slice g.fa g.fs.length g.fc,.slice (some ⟨tb,off,none⟩) g.ms.length g.mc,.int .i64 g.en]) yb ?_;refine tY 5 zws (.int .i64 (k:Int)) yb ?_;refine wpAnyH_ready (rs:=[6]) (by kernel_rfl) (by simp) ?_
 refine AllReadyH.cons (o:=zwr) rfl (λK hK=>?_) AllReadyH.nil
 go_simp
 refine (HIm.out _ hB1).mono ?_;rintro e w2 ⟨rfl,hb2⟩;have hB2:Below w0.heap.size w0 w2:=zaa hB1 hb2
 try go_wp2_with fail
 refine hK.out _ _ (HK.out _ hB2) (λyb=>?_)
 clear hK K
 try simp only[Act.put,sA,s0,sS]
 refine tY 7 zv7 (.bool false) yb ?_;refine tY 8 zwn (.bool false) yb ?_;refine tY 9 zxD (.bool false) yb ?_;refine tY 10 zvk (.agg #[.slice g.ta g.ts.length g.tc,.slice g.fa g.fs.length g.fc,.slice (some ⟨tb,off,none⟩) g.ms.length g.mc,.int .i64 g.en]) yb ?_;refine tY 11 zuh (.int .i64 t) yb ?_;refine wpAnyH_ready (rs:=[12]) (by kernel_rfl) (by simp) ?_
 refine AllReadyH.cons (o:=zty) rfl (λK hK=>?_) AllReadyH.nil
 go_simp
 refine (HKn.out _ hB2).mono ?_;rintro e w3 ⟨rfl,hb3⟩;have hB3:Below w0.heap.size w0 w3:=zaa hB2 hb3
 try go_wp2_with fail
 refine hK.out _ _ (HK.out _ hB3) (λyb=>?_)
 clear hK K
 try simp only[Act.put,sA,s0,sS]
 refine tY 13 ztY (.bool false) yb ?_;refine tY 14 ztS (.bool false) yb ?_;refine tY 15 zu3 (.bool false) yb ?_;refine tY 16 zvq (.agg #[.slice g.ta g.ts.length g.tc,.slice g.fa g.fs.length g.fc,.slice (some ⟨tb,off,none⟩) g.ms.length g.mc,.int .i64 g.en]) yb ?_;refine tY 17 zuZ (.int .i64 t) yb ?_;refine tY 18 ztD (.pointer (some ⟨w.heap.size,2,none⟩)) yb ?_;refine tY 19 zvy (.slice (some ⟨tb,off,none⟩) g.ms.length g.mc) yb ?_;refine tY 20 zt8 (.int .i64 (k:Int)) yb ?_;refine tY 21 zvv (.pointer (some ⟨tb,off+k * 12,none⟩)) yb ?_;refine tY 22 zuR (.pointer (some ⟨tb,off+k * 12+1,none⟩)) yb ?_;refine tY 23 zu8 (.int .i64 x.ow) yb ?_;refine wpAnyH_ready (rs:=[24]) (by kernel_rfl) (by simp) ?_
 refine AllReadyH.cons (o:=zue) rfl (λK hK=>?_) AllReadyH.nil
 go_simp
 refine (HBe.out _ hB3).mono ?_;rintro e w4 ⟨rfl,hb4⟩;have hB4:Below w0.heap.size w0 w4:=zaa hB3 hb4
 try go_wp2_with fail
 refine hK.out _ _ (HK.out _ hB4) (λyb=>?_)
 clear hK K
 try simp only[Act.put,sA,s0,sS]
 refine tY 25 zum (.bool false) yb ?_;refine tY 26 zvs (.bool false) yb ?_;refine wpAnyH_done (by kernel_rfl) ?_ _
 have HB4:Hid (Below w0.heap.size w0 w4):=hB4;clear hb1 hB1 hb2 hB2 hb3 hB3 hb4 hB4;obtain⟨⟨c0,c1,c2,c3⟩,_⟩:=HK.out w4 HB4.out;go_wp2_with fail
 refine Calls.mono (HDn.out w4 HB4.out) ?_;rintro e w5 ⟨rfl,hb5⟩;have HB5:Hid (Below w0.heap.size w0 w5):=zaa HB4.out hb5;clear hb5 c0 c1 c2 c3;go_wp2_with fail
 go_ret;exact⟨rfl,zaa HB0.out HB5.out⟩
end Go.Proofs.YtkedhjdipnhgdaaGreat
