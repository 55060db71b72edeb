import Derived.Test.YtkedhjdipnhgdaaGreatR17
namespace Go.Proofs.YtkedhjdipnhgdaaGreat
set_option maxHeartbeats 16000000
set_option linter.all false
open RowKit
attribute [local go_sem ↓] wp_at_zero wp_at_succ
def zqB (g:Img):Array Value:=#[.slice g.ta g.ts.length g.tc,.slice g.fa g.fs.length g.fc,.slice g.ma g.ms.length g.mc,.int .i64 g.en]
theorem zmR {g:Img} {w:World} (hg:Im w g) :
 Calls Tryz.prog 86 #[imV g] w λe w'=>e=.returned (.bool (imB g))/\Below w.heap.size w w':=by
 obtain⟨w0,hw0⟩:∃ W,W=(w.alloc (.cells (zqB g) 26)).alloc (.cells (szC g.ts.length g.fs.length g.ms.length) 117):=⟨_,rfl⟩;have HW0:Hid (w0=_):=hw0;obtain⟨hb0,hat⟩:=zan hw0;have HB0:Hid (Below w.heap.size w w0):=hb0;have HAT:Hid (∀ W,Below w0.heap.size w0 W->At W w.heap.size (zqB g) 26/\At W (w.heap.size+1) (szC g.ts.length g.fs.length g.ms.length) 117):=hat;have htl:=hg.ts.len;have hfl:=hg.fs.len;have hml:=hg.ms.len;unfold maxLen at htl hfl hml;obtain⟨hA1,hA2⟩:=hat w0 (Below.refl _ _);have c1:=hA1.cell;have c2:=hA2.cell;obtain⟨rT,hT⟩:∃ r,r=g.ts.all (tdB g.ts.length):=⟨_,rfl⟩;obtain⟨rF,hF⟩:∃ r,r=g.fs.all (fdB g.ts.length):=⟨_,rfl⟩;obtain⟨rf,hf⟩:∃ r,r=zdH (g.fs.map (·.ow)):=⟨_,rfl⟩;obtain⟨rM,hM⟩:∃ r,r=g.ms.all (mdB g.ts.length g.fs.length g.ms.length):=⟨_,rfl⟩;obtain⟨rm,hm⟩:∃ r,r=zdH (g.ms.map (·.ow)):=⟨_,rfl⟩;have HF:Hid (imB g=(decide (g.ts.length<=32)&&decide (g.fs.length<=64)&&decide (g.ms.length<=64)&&rT&&(rF&&rf)&&(rM&&rm)&&(decide (g.en = -1)||(decide (0<=g.en)&&decide (g.en<g.ms.length))))):=by show _=_;rw[hT,hF,hf,hM,hm];rfl
 have HTs:Hid (∀ W,Below w0.heap.size w0 W->Calls Tryz.prog 102 #[.slice g.ta g.ts.length g.tc,.func (.func 103) #[szV g.ts.length g.fs.length g.ms.length] #[]] W λe w'=>e=.returned (.bool rT)/\Below W.heap.size W w'):=λW hW=>by
  rw[hT];refine zmP (hg.ts.later (zaa hb0 hW)) ⟨zah Tryz.func103 (by kernel_rfl) rfl,λW2 hW2 x hx=>?_⟩
  simpa using zmC g.ts.length g.fs.length g.ms.length x ((hg.tok x hx).later (zaa (zaa hb0 hW) hW2))
 have HFs:Hid (∀ W,Below w0.heap.size w0 W->Calls Tryz.prog 104 #[.slice g.fa g.fs.length g.fc,.func (.func 105) #[szV g.ts.length g.fs.length g.ms.length] #[]] W λe w'=>e=.returned (.bool rF)/\Below W.heap.size W w'):=λW hW=>by
  rw[hF];refine zmM (hg.fs.later (zaa hb0 hW)) ⟨zah Tryz.func105 (by kernel_rfl) rfl,λW2 hW2 x hx=>?_⟩
  simpa using zgt g.ts.length g.fs.length g.ms.length x W2
 have HSf:Hid (∀ W,Below w0.heap.size w0 W->Calls Tryz.prog 106 #[.slice g.fa g.fs.length g.fc,.func (.func 107) #[] #[]] W λe w'=>e=.returned (.bool rf)/\Below W.heap.size W w'):=λW hW=>by
  rw[hf];exact zke (hg.fs.later (zaa hb0 hW))
 have HMs:Hid (∀ W,Below w0.heap.size w0 W->Calls Tryz.prog 108 #[.slice g.ma g.ms.length g.mc,.func (.func 109) #[szV g.ts.length g.fs.length g.ms.length] #[]] W λe w'=>e=.returned (.bool rM)/\Below W.heap.size W w'):=λW hW=>by
  rw[hM];refine zmA (hg.ms.later (zaa hb0 hW)) ⟨zah Tryz.func109 (by kernel_rfl) rfl,λW2 hW2 x hx=>?_⟩
  simpa using zh5 g.ts.length g.fs.length g.ms.length x ((hg.mok x hx).later (zaa (zaa hb0 hW) hW2))
 have HSm:Hid (∀ W,Below w0.heap.size w0 W->Calls Tryz.prog 110 #[.slice g.ma g.ms.length g.mc,.func (.func 111) #[] #[]] W λe w'=>e=.returned (.bool rm)/\Below W.heap.size W w'):=λW hW=>by
  rw[hm];exact zk1 (hg.ms.later (zaa hb0 hW))
 unfold zqB at c1 HW0;unfold szC at c2 HW0;unfold szV at HTs HFs HMs;clear hw0 hb0 hat hA1 hA2 hg hT hF hf hM hm;unfold imV;go_enter Tryz.func86,Tryz.ntmps86;by_cases h32:32<g.ts.length
 ·have i1:(32:Int)<(g.ts.length:Int):=by omega
  go_wp2_with (rw[<- HW0.out])
  go_ret;exact⟨zab (by rw[HF.out,decide_eq_false (show ¬ g.ts.length<=32 by omega)];rfl),HB0.out⟩
 have i1:¬ (32:Int)<(g.ts.length:Int):=by omega
 have d1:decide (g.ts.length<=32)=true:=decide_eq_true (by omega)
 by_cases h64:64<g.fs.length
 ·have i2:(64:Int)<(g.fs.length:Int):=by omega
  go_wp2_with (rw[<- HW0.out])
  go_ret;exact⟨zab (by rw[HF.out,decide_eq_false (show ¬ g.fs.length<=64 by omega)];simp),HB0.out⟩
 have i2:¬ (64:Int)<(g.fs.length:Int):=by omega
 have d2:decide (g.fs.length<=64)=true:=decide_eq_true (by omega)
 by_cases h6m:64<g.ms.length
 ·have i3:(64:Int)<(g.ms.length:Int):=by omega
  go_wp2_with (rw[<- HW0.out])
  go_ret;exact⟨zab (by rw[HF.out,decide_eq_false (show ¬ g.ms.length<=64 by omega)];simp),HB0.out⟩
 have i3:¬ (64:Int)<(g.ms.length:Int):=by omega
 have d3:decide (g.ms.length<=64)=true:=decide_eq_true (by omega)
 have HG:Hid (imB g=(rT&&(rF&&rf)&&(rM&&rm)&&(decide (g.en = -1)||(decide (0<=g.en)&&decide (g.en<g.ms.length))))):=by show _=_;rw[HF.out,d1,d2,d3];simp
 clear HF d1 d2 d3 h32 h64 h6m c1 c2;obtain⟨hA1,hA2⟩:=HAT.out w0 (Below.refl _ _);have c1:=hA1.cell;have c2:=hA2.cell;unfold zqB at c1;unfold szC at c2;clear hA1 hA2;have H0:=HTs.out w0 (Below.refl _ _);go_wp2_with (rw[<- HW0.out])
 refine Calls.mono H0 ?_;rintro e w1 ⟨rfl,hb⟩;have HB1:Hid (Below w0.heap.size w0 w1):=hb;clear H0 c1 c2 hb;obtain⟨hA1,hA2⟩:=HAT.out w1 HB1.out;have c1:=hA1.cell;have c2:=hA2.cell;unfold zqB at c1;unfold szC at c2;clear hA1 hA2
 cases rT with
 | false =>
  go_wp2_with fail
  go_ret;exact⟨zab (by rw[HG.out];simp),zaa HB0.out HB1.out⟩
 | true =>
  have H1:=HFs.out w1 HB1.out;go_wp2_with fail
  refine Calls.mono H1 ?_;rintro e w2 ⟨rfl,hb⟩;have HB2:Hid (Below w0.heap.size w0 w2):=zaa HB1.out hb;clear H1 c1 c2 hb;obtain⟨hA1,hA2⟩:=HAT.out w2 HB2.out;have c1:=hA1.cell;have c2:=hA2.cell;unfold zqB at c1;unfold szC at c2;clear hA1 hA2
  cases rF with
  | false =>
   go_wp2_with fail
   go_ret;exact⟨zab (by rw[HG.out];simp),zaa HB0.out HB2.out⟩
  | true =>
   have H2:=HSf.out w2 HB2.out;go_wp2_with fail
   refine Calls.mono H2 ?_;rintro e w3 ⟨rfl,hb⟩;have HB3:Hid (Below w0.heap.size w0 w3):=zaa HB2.out hb;clear H2 c1 c2 hb;obtain⟨hA1,hA2⟩:=HAT.out w3 HB3.out;have c1:=hA1.cell;have c2:=hA2.cell;unfold zqB at c1;unfold szC at c2;clear hA1 hA2
   cases rf with
   | false =>
    go_wp2_with fail
    go_ret;exact⟨zab (by rw[HG.out];simp),zaa HB0.out HB3.out⟩
   | true =>
    have H3:=HMs.out w3 HB3.out;go_wp2_with fail
    refine Calls.mono H3 ?_;rintro e w4 ⟨rfl,hb⟩;have HB4:Hid (Below w0.heap.size w0 w4):=zaa HB3.out hb;clear H3 c1 c2 hb;obtain⟨hA1,hA2⟩:=HAT.out w4 HB4.out;have c1:=hA1.cell;have c2:=hA2.cell;unfold zqB at c1;unfold szC at c2;clear hA1 hA2
    cases rM with
    | false =>
     go_wp2_with fail
     go_ret;exact⟨zab (by rw[HG.out];simp),zaa HB0.out HB4.out⟩
    | true =>
     have H4:=HSm.out w4 HB4.out;go_wp2_with fail
     refine Calls.mono H4 ?_;rintro e w5 ⟨rfl,hb⟩;have HB5:Hid (Below w0.heap.size w0 w5):=zaa HB4.out hb;clear H4 c1 c2 hb;obtain⟨hA1,hA2⟩:=HAT.out w5 HB5.out;have c1:=hA1.cell;have c2:=hA2.cell;unfold zqB at c1;unfold szC at c2;clear hA1 hA2
     cases rm with
     | false =>
      go_wp2_with fail
      go_ret;exact⟨zab (by rw[HG.out];simp),zaa HB0.out HB5.out⟩
     | true =>
      have HG2:Hid (imB g=(decide (g.en = -1)||(decide (0<=g.en)&&decide (g.en<g.ms.length)))):=by show _=_;rw[HG.out];simp
      clear HG HTs HFs HSf HMs HSm;by_cases he:g.en = -1
      ·go_wp2_with fail
       go_ret;exact⟨zab (by rw[HG2.out];simp[he]),zaa HB0.out HB5.out⟩
      ·have e1:(g.en == -1)=false:=by simpa using he
       have hd:decide (g.en = -1)=false:=by simpa using he
       go_wp2_with fail
       refine (zaD _ _ _).mono ?_;rintro e wz ⟨rfl,hz⟩;subst wz;go_wp2;go_ret;exact⟨zab (by rw[HG2.out,hd];simp),zaa HB0.out HB5.out⟩
def imA (g:Img):Array Value:=#[.slice g.ta g.ts.length g.tc,.slice g.fa g.fs.length g.fc,.slice g.ma g.ms.length g.mc,.int .i64 g.en]
theorem zs4 {x:Ins} (h:zpG x=0) (hp:opP x.1=5∨opP x.1=6∨opP x.1=7):0<=x.2.1:=by
 unfold zpG zge at h
 split at h
 ·split at h
  ·rename_i hf
   unfold zfY at hf;simp only[Bool.and_eq_true,decide_eq_true_eq]at hf;have:=hf.1.1;unfold bLo at this
   rcases hp with e | e | e <;> rw[e]at this <;> simpa using this
  ·omega
 ·omega
theorem zq6 {x:Ins} (h:zpG x=0) (hp:opP x.1=8):za9 1 x.2.2=true:=by
 unfold zpG zge at h
 split at h
 ·split at h
  ·rename_i hf
   unfold zfY at hf;rw[if_pos hp]at hf;simp only[Bool.and_eq_true]at hf;exact hf.2
  ·omega
 ·omega
def cdB (n nf nm:Nat) (x:MD):Bool:=decide (x.co.length<=160)&&x.co.all (zfz n nf nm x.co.length)&&(zjA x.co.length x.cl&&x.cl.all (zgb n))
set_option maxRecDepth 100000 in
theorem zdV (g:Img) (x:MD) {w:World} (hx:x.ok w) (hm1:g.ts.length<=maxLen) (hm2:g.fs.length<=maxLen) (hm3:g.ms.length<=maxLen) :
 Calls Tryz.prog 206 #[mdV x,imV g] w λe w'=>e=.returned (.bool (cdB g.ts.length g.fs.length g.ms.length x))/\Below w.heap.size w w':=by
 obtain⟨w0,hw0⟩:∃ W,W=(w.alloc (.cells (mdA x) 51)).alloc (.cells (imA g) 26):=⟨_,rfl⟩;have HW0:Hid (w0=_):=hw0;obtain⟨hb0,hat⟩:=zan hw0;have HB0:Hid (Below w.heap.size w w0):=hb0;have HAT:Hid (∀ W,Below w0.heap.size w0 W->At W w.heap.size (mdA x) 51/\At W (w.heap.size+1) (imA g) 26):=hat;have HXc:Hid (∀ W,Below w0.heap.size w0 W->Es zcv W (.slice x.ca x.co.length x.cc) x.co):=λW hW=>hx.co.later (zaa hb0 hW)
 have HXk:Hid (∀ W,Below w0.heap.size w0 W->Es zci W (.slice x.ka x.cl.length x.kc) x.cl):=λW hW=>hx.cl.later (zaa hb0 hW)
 have hlc:=hx.co.len;have hlk:=hx.cl.len;unfold maxLen at hlc hlk hm1 hm2 hm3;obtain⟨hA1,hA2⟩:=hat w0 (Below.refl _ _);have c1:=hA1.cell;have c2:=hA2.cell;have HF:Hid (cdB g.ts.length g.fs.length g.ms.length x=(decide (x.co.length<=160)&&x.co.all (zfz g.ts.length g.fs.length g.ms.length x.co.length)&&(zjA x.co.length x.cl&&x.cl.all (zgb g.ts.length)))):=rfl;unfold mdA at c1 HW0;unfold imA at c2 HW0;clear hw0 hb0 hat hA1 hA2 hx;unfold mdV imV;go_enter Tryz.func206,Tryz.ntmps206;by_cases h160:160<x.co.length
 ·have i1:(160:Int)<(x.co.length:Int):=by omega
  go_wp2_with (rw[<- HW0.out])
  go_ret;exact⟨zab (by rw[HF.out,decide_eq_false (show ¬ x.co.length<=160 by omega)];simp),HB0.out⟩
 have i1:¬ (160:Int)<(x.co.length:Int):=by omega
 have HG:Hid (cdB g.ts.length g.fs.length g.ms.length x=(x.co.all (zfz g.ts.length g.fs.length g.ms.length x.co.length)&&(zjA x.co.length x.cl&&x.cl.all (zgb g.ts.length)))):=by show _=_;rw[HF.out,decide_eq_true (show x.co.length<=160 by omega)];simp
 clear HF;go_wp2_with (rw[<- HW0.out])
 clear c1 c2;go_loopw [5] (λz wr=>∃ q:Nat,q<=x.co.length/\z=.int .i64 q/\Below w0.heap.size w0 wr/\Hid ((x.co.take q).all (zfz g.ts.length g.fs.length g.ms.length x.co.length)=true)) (λz _=>x.co.length - (intOf z).toNat)
 case atStart=>exact⟨0,Nat.zero_le _,rfl,Below.refl _ _,by show _=_;simp⟩
 case round =>
  obtain⟨q,hq,rfl,hB,HA⟩:=hrel;have HBr:Hid (Below w0.heap.size w0 wr):=hB;obtain⟨hA1,hA2⟩:=HAT.out wr hB;have c1:=hA1.cell;have c2:=hA2.cell;unfold mdA at c1;unfold imA at c2;clear hA1 hA2;by_cases hql:q<x.co.length
  ·obtain⟨b,off,hfa,hb,h6,h7,hc⟩:=(HXc.out wr hB).at hql;obtain⟨k0,k1,k2,k3,k4,k5⟩:=(show El zcv wr b (off+q * 6) x.co[q] from hc q hql).cells_I
   have HY:Hid (zfz g.ts.length g.fs.length g.ms.length x.co.length x.co[q]=true->(x.co.take (q+1)).all (zfz g.ts.length g.fs.length g.ms.length x.co.length)=true):=λh=>zbw hql HA.out h
   have HN:Hid (zfz g.ts.length g.fs.length g.ms.length x.co.length x.co[q]=false->cdB g.ts.length g.fs.length g.ms.length x=false):=λh=>by rw[HG.out,zdr hql h];rfl
   generalize x.co[q]=y at *;unfold maxLen at h7;rw[hfa]at c1;clear hfa;obtain⟨wA,hwA⟩:∃ W,W=wr.alloc (.cells (zf3 y) 65):=⟨_,rfl⟩;have HWA:Hid (wA=_):=hwA;have hbA:Below wr.heap.size wr wA:=by rw[hwA];exact zac _ _ _
   have HBA:Hid (Below w0.heap.size w0 wA):=zaa hB hbA;have hAA:At wA wr.heap.size (zf3 y) 65:=by rw[hwA];exact At.made _ _ _
   have HAA:Hid (∀ W,Below wA.heap.size wA W->At W wr.heap.size (zf3 y) 65):=λW hW=>hAA.later hW
   have HFi:Hid (Calls Tryz.prog 226 #[.agg #[.int .i64 y.1,.int .i64 y.2.1,.int .i64 y.2.2.1,.int .i64 y.2.2.2.1,.int .i64 y.2.2.2.2.1,.bool y.2.2.2.2.2]] wA λe w'=>e=.returned (.int .i64 (zpG y))/\Below wA.heap.size wA w'):=zix _ _ _ _ _ _ wA
   have cA:=hAA.cell;unfold zf3 at cA HWA;clear hc hwA hbA hAA hB;go_wp2_with (rw[<- HWA.out])
   refine Calls.mono HFi.out ?_;rintro e w1 ⟨rfl,hb1⟩;have HB1:Hid (Below w0.heap.size w0 w1):=zaa HBA.out hb1;have HBA1:Hid (Below wA.heap.size wA w1):=hb1;have d0:=(HAA.out w1 hb1).cell;unfold zf3 at d0;clear c1 c2 k0 k1 k2 k3 k4 k5 cA HFi hb1;by_cases hfit:zpG y=0
   ·rw[hfit];have HFit:Hid (zpG y=0):=hfit;clear hfit;have HOf:Hid (Calls Tryz.prog 48 #[.int .i64 y.1] w1 λe w'=>∃ s q z,e=.returned (.tuple #[.agg #[.string s,.int .i64 (opP y.1),.int .i64 q],.int .i64 z])/\Below w1.heap.size w1 w'):=zjr y.1 w1
    go_wp2_with fail
    refine Calls.mono HOf.out ?_;rintro e w2 ⟨s,q2,z,rfl,hb2⟩;obtain⟨wB,hwB⟩:∃ W,W=w2.alloc (.cells #[.string s,.int .i64 (opP y.1),.int .i64 q2] 81):=⟨_,rfl⟩;have HWB:Hid (wB=_):=hwB;have hbB:Below w2.heap.size w2 wB:=by rw[hwB];exact zac _ _ _
    have hAB:At wB w2.heap.size #[.string s,.int .i64 (opP y.1),.int .i64 q2] 81:=by rw[hwB];exact At.made _ _ _
    have HBB:Hid (Below w0.heap.size w0 wB):=zaa (zaa HB1.out hb2) hbB;have d1:=(HAA.out wB (zaa (zaa HBA1.out hb2) hbB)).cell;have d2:=hAB.cell;obtain⟨hA1,hA2⟩:=HAT.out wB HBB.out;have c1:=hA1.cell;have c2:=hA2.cell;unfold mdA at c1;unfold imA at c2;unfold zf3 at d1;clear hA1 hA2 hb2 hwB hbB hAB d0;have HI:Hid (∀ r:Bool,ztc g.ts.length g.fs.length g.ms.length x.co.length y=r->zfz g.ts.length g.fs.length g.ms.length x.co.length y=r):=λr hr=>by unfold zfz;rw[HFit.out,hr];simp
    have HH:Hid (ztc g.ts.length g.fs.length g.ms.length x.co.length y=if opP y.1=5 then zam y.2.1 x.co.length else if opP y.1=6 then zam y.2.1 g.ms.length else if opP y.1=7 then zam y.2.1 g.fs.length else if opP y.1=8 then zcj g.ts.length y.2.2 else true):=rfl
    have HLo:Hid (opP y.1=5∨opP y.1=6∨opP y.1=7->0<=y.2.1):=zs4 HFit.out;have HTy:Hid (opP y.1=8->zgV g.ts.length y.2.2=zcj g.ts.length y.2.2):=λh=>zo4 (.inl rfl) (zq6 HFit.out h)
    generalize opP y.1=p at *;by_cases h5:p=5
    ·subst h5;have hlo:=HLo.out (.inl rfl);by_cases hge:(x.co.length:Int)<=y.2.1
     ·have hn:=HN.out (HI.out false (by rw[HH.out];simp[zam];omega))
      go_wp2_with (rw[<- HWB.out])
      go_ret;exact⟨zab hn.symm,zaa HB0.out HBB.out⟩
     ·have HY2:Hid _:=HY.out (HI.out true (by rw[HH.out];simp[zam];omega))
      clear HY HN;go_wp2_with (rw[<- HWB.out])
      go_roundw
      case rel=>exact⟨q+1,by omega,by go_num,HBB.out,HY2.out⟩
      case measure=>simp[intOf];omega
    have e5:(p==5)=false:=by simpa using h5
    by_cases h6':p=6
    ·subst h6';have hlo:=HLo.out (.inr (.inl rfl));by_cases hge:(g.ms.length:Int)<=y.2.1
     ·have hn:=HN.out (HI.out false (by rw[HH.out];simp[zam];omega))
      go_wp2_with (rw[<- HWB.out])
      go_ret;exact⟨zab hn.symm,zaa HB0.out HBB.out⟩
     ·have HY2:Hid _:=HY.out (HI.out true (by rw[HH.out];simp[zam];omega))
      clear HY HN;go_wp2_with (rw[<- HWB.out])
      go_roundw
      case rel=>exact⟨q+1,by omega,by go_num,HBB.out,HY2.out⟩
      case measure=>simp[intOf];omega
    have e6:(p==6)=false:=by simpa using h6'
    by_cases h7':p=7
    ·subst h7';have hlo:=HLo.out (.inr (.inr rfl));by_cases hge:(g.fs.length:Int)<=y.2.1
     ·have hn:=HN.out (HI.out false (by rw[HH.out];simp[zam];omega))
      go_wp2_with (rw[<- HWB.out])
      go_ret;exact⟨zab hn.symm,zaa HB0.out HBB.out⟩
     ·have HY2:Hid _:=HY.out (HI.out true (by rw[HH.out];simp[zam];omega))
      clear HY HN;go_wp2_with (rw[<- HWB.out])
      go_roundw
      case rel=>exact⟨q+1,by omega,by go_num,HBB.out,HY2.out⟩
      case measure=>simp[intOf];omega
    have e7:(p==7)=false:=by simpa using h7'
    by_cases h8':p=8
    ·subst h8';have HOw:Hid (Calls Tryz.prog 205 #[.agg #[.int .i64 y.2.2.1,.int .i64 y.2.2.2.1,.int .i64 y.2.2.2.2.1,.bool y.2.2.2.2.2],.int .i64 g.ts.length] wB λe w'=>e=.returned (.bool (zgV g.ts.length y.2.2))/\Below wB.heap.size wB w'):=zfZ y.2.2 g.ts.length wB
     rw[HTy.out rfl]at HOw;go_wp2_with (rw[<- HWB.out])
     refine Calls.mono HOw.out ?_;rintro e w3 ⟨rfl,hb3⟩;have HB3:Hid (Below w0.heap.size w0 w3):=zaa HBB.out hb3;clear hb3 c1 c2 d1 d2 HOw
     cases hr:zcj g.ts.length y.2.2 with
     | false =>
      have hn:=HN.out (HI.out false (by rw[HH.out];simpa using hr))
      go_wp2_with fail
      go_ret;exact⟨zab hn.symm,zaa HB0.out HB3.out⟩
     | true =>
      have HY2:Hid _:=HY.out (HI.out true (by rw[HH.out];simpa using hr))
      clear HY HN;go_wp2_with fail
      go_roundw
      case rel=>exact⟨q+1,by omega,by go_num,HB3.out,HY2.out⟩
      case measure=>simp[intOf];omega
    have e8:(p==8)=false:=by simpa using h8'
    have HY2:Hid _:=HY.out (HI.out true (by rw[HH.out,if_neg h5,if_neg h6',if_neg h7',if_neg h8']))
    clear HY HN;go_wp2_with (rw[<- HWB.out])
    go_roundw
    case rel=>exact⟨q+1,by omega,by go_num,HBB.out,HY2.out⟩
    case measure=>simp[intOf];omega
   ·have e0:(zpG y != 0)=true:=by simpa using hfit
    have hn:=HN.out (by unfold zfz;rw[decide_eq_false hfit];rfl)
    go_wp2_with fail
    go_ret;exact⟨zab hn.symm,zaa HB0.out HB1.out⟩
  ·have HG2:Hid (cdB g.ts.length g.fs.length g.ms.length x=(zjA x.co.length x.cl&&x.cl.all (zgb g.ts.length))):=by show _=_;rw[HG.out,zbQ hql HA.out];rfl
   clear HA hB;go_wp2_with fail
   clear c1 c2;go_loopw [9] (λz wr2=>∃ q:Nat,q<=x.cl.length/\z=.int .i64 q/\Below w0.heap.size w0 wr2/\Hid ((x.cl.take q).all (zgb g.ts.length)=true)) (λz _=>x.cl.length - (intOf z).toNat)
   case atStart=>exact⟨0,Nat.zero_le _,rfl,HBr.out,by show _=_;simp⟩
   case round =>
    obtain⟨q,hq,rfl,hB,HA⟩:=hrel;have HBs:Hid (Below w0.heap.size w0 wr):=hB;obtain⟨hA1,hA2⟩:=HAT.out wr hB;have c1:=hA1.cell;have c2:=hA2.cell;unfold mdA at c1;unfold imA at c2;clear hA1 hA2;by_cases hql2:q<x.cl.length
    ·obtain⟨b,off,hfa,hb,h6,h7,hc⟩:=(HXk.out wr hB).at hql2;obtain⟨k0,k1,k2,k3,k4,k5,k6,k7,k8,k9⟩:=(show El zci wr b (off+q * 10) x.cl[q] from hc q hql2).ten
     have HY:Hid (zgb g.ts.length x.cl[q]=true->(x.cl.take (q+1)).all (zgb g.ts.length)=true):=λh=>zbw hql2 HA.out h
     have HN:Hid (zgb g.ts.length x.cl[q]=false->cdB g.ts.length g.fs.length g.ms.length x=false):=λh=>by rw[HG2.out,zdr hql2 h];simp
     generalize x.cl[q]=y at *;obtain⟨k,tf,tt,hf,ht,fi,t0,t1,t2,t3⟩:=y;unfold maxLen at h7;rw[hfa]at c1;clear hfa;dsimp only at k0 k1 k2 k3 k4 k5 k6 k7 k8 k9;have hz:∀ W:World,(binOp .eql 47 (.agg #[.int .i64 t0,.int .i64 t1,.int .i64 t2,.bool t3]) (.agg #[.int .i64 0,.int .i64 0,.int .i64 0,.bool false])).run Tryz.prog W=.ok (.bool (zeo t0 t1 t2 t3)) W:=λW=>by
      rw[zoi];cases t3 <;> rfl
     obtain⟨wA,hwA⟩:∃ W,W=wr.alloc (.cells (clC ⟨k,tf,tt,hf,ht,fi,t0,t1,t2,t3⟩).toArray 85):=⟨_,rfl⟩;have HWA:Hid (wA=_):=hwA;have hbA:Below wr.heap.size wr wA:=by rw[hwA];exact zac _ _ _
     have HBA:Hid (Below w0.heap.size w0 wA):=zaa hB hbA;have hAA:At wA wr.heap.size (clC ⟨k,tf,tt,hf,ht,fi,t0,t1,t2,t3⟩).toArray 85:=by rw[hwA];exact At.made _ _ _
     have cA:=hAA.cell;have HAA:Hid (∀ W,Below wA.heap.size wA W->At W wr.heap.size (clC ⟨k,tf,tt,hf,ht,fi,t0,t1,t2,t3⟩).toArray 85):=λW hW=>hAA.later hW
     obtain⟨hA1,hA2⟩:=HAT.out wA HBA.out;have d2:=hA2.cell;unfold imA at d2;unfold clC at cA HWA;clear hc hwA hbA hAA hB hA1 hA2;have HCt:Hid (zgb g.ts.length ⟨k,tf,tt,hf,ht,fi,t0,t1,t2,t3⟩=if k=1 then mB 1 g.ts.length (t0,t1,t2,t3) else zeo t0 t1 t2 t3):=rfl
     by_cases h1:k=1
     ·subst h1;have HMy:Hid (Calls Tryz.prog 179 #[.agg #[.int .i64 t0,.int .i64 t1,.int .i64 t2,.bool t3],.int .i64 1,.int .i64 g.ts.length] wA λe w'=>e=.returned (.bool (mB 1 g.ts.length (t0,t1,t2,t3)))/\Below wA.heap.size wA w'):=zb4 (p:=1) (.inl rfl) (t0,t1,t2,t3) g.ts.length wA
      go_wp2_with (rw[<- HWA.out])
      refine Calls.mono HMy.out ?_;rintro e w1 ⟨rfl,hb1⟩;have HB1:Hid (Below w0.heap.size w0 w1):=zaa HBA.out hb1;have dA:=(HAA.out w1 hb1).cell;unfold clC at dA;clear c1 c2 k0 k1 k2 k3 k4 k5 k6 k7 k8 k9 cA d2 HMy hb1
      cases hm:mB 1 g.ts.length (t0,t1,t2,t3) with
      | false =>
       have hn:=HN.out (by rw[HCt.out];simp[hm])
       go_wp2_with fail
       go_ret;exact⟨zab hn.symm,zaa HB0.out HB1.out⟩
      | true =>
       have HY2:Hid _:=HY.out (by rw[HCt.out];simp[hm])
       clear HY HN;go_wp2_with fail
       go_roundw
       case rel=>exact⟨q+1,by omega,by go_num,HB1.out,HY2.out⟩
       case measure=>simp[intOf];omega
     ·have e1:(k==1)=false:=by simpa using h1
      have e1':(k != 1)=true:=by simpa using h1
      cases hz0:zeo t0 t1 t2 t3 with
      | false =>
       rw[hz0]at hz;have hn:=HN.out (by rw[HCt.out,if_neg h1,hz0])
       go_wp2_with (rw[<- HWA.out])
       go_ret
       first | exact⟨zab hn.symm,zaa HB0.out HBA.out⟩ | exact⟨rfl,zaa HB0.out HBA.out⟩
      | true =>
       rw[hz0]at hz;have HY2:Hid _:=HY.out (by rw[HCt.out,if_neg h1,hz0])
       clear HY HN;go_wp2_with (rw[<- HWA.out])
       go_roundw
       case rel=>exact⟨q+1,by omega,by go_num,HBA.out,HY2.out⟩
       case measure=>simp[intOf];omega
    ·have HG3:Hid (cdB g.ts.length g.fs.length g.ms.length x=zjA x.co.length x.cl):=by show _=_;rw[HG2.out,zbQ hql2 HA.out];simp
     have HRg:Hid (Calls Tryz.prog 227 #[.int .i64 x.co.length,.slice x.ka x.cl.length x.kc] wr λe w'=>e=.returned (.bool (zjA x.co.length x.cl))/\Below wr.heap.size wr w'):=by
      refine (zn7 (x.co.length:Int) (HXk.out wr hB)).mono ?_;rintro e w' ⟨r,rfl,hr,hb⟩;refine⟨zab ?_,hb⟩;unfold zjA;rw[Bool.eq_iff_iff];exact hr.trans (@decide_eq_true_iff (zdD (x.co.length:Int) x.cl) (by unfold zdD;exact inferInstance)).symm
     clear HA hB;go_wp2_with fail
     refine Calls.mono HRg.out ?_;rintro e w1 ⟨rfl,hb1⟩;have HB1:Hid (Below w0.heap.size w0 w1):=zaa HBs.out hb1;clear hb1 c1 c2 HRg;go_wp2;go_ret;exact⟨zab HG3.out.symm,zaa HB0.out HB1.out⟩
def rmB (n nf nm:Nat) (x:MD):Bool:=zaP x.nm.data.toList&&zb7 x.fl 31&&zb7 x.mx 12&&decide (x.ps.length<=6)&&decide (x.ls.length<=12)&&mB 3 n x.rt&&(x.ps.all (mB 2 n)&&(x.ls.all (mB 2 n)&&cdB n nf nm x))
theorem zrw (p n:Nat) (l:List Ty):l.all (mB p n)=(l.all (za9 p)&&l.all (zcj n)):=by
 induction l with
 | nil=>rfl
 | cons t r ih=>rw[List.all_cons,List.all_cons,List.all_cons,ih];unfold mB;cases za9 p t <;> cases zcj n t <;> simp
theorem zmF (n nf nm:Nat) (x:MD):mdB n nf nm x=(zam x.ow n&&rmB n nf nm x):=by
 have h1:decide (zdS x.ps x.rt=0)=(decide (x.ps.length<=6)&&(za9 3 x.rt&&x.ps.all (za9 2))):=by
  unfold zdS;by_cases h:6<x.ps.length
  ·rw[if_pos h];simp;omega
  ·rw[if_neg h,decide_eq_true (show x.ps.length<=6 by omega)]
   cases za9 3 x.rt <;> cases x.ps.all (za9 2) <;> simp
 have h2:decide (zfr x.ls=0)=(decide (x.ls.length<=12)&&x.ls.all (za9 2)):=by
  unfold zfr;by_cases h:12<x.ls.length
  ·rw[if_pos h];simp;omega
  ·rw[if_neg h,decide_eq_true (show x.ls.length<=12 by omega)]
   cases x.ls.all (za9 2) <;> simp
 unfold mdB rmB cdB;rw[h1,h2,zrw,zrw];unfold mB;generalize zaP x.nm.data.toList=a1;generalize zam x.ow n=a2;generalize zb7 x.fl 31=a3;generalize zb7 x.mx 12=a4;generalize decide (x.ps.length<=6)=a5;generalize za9 3 x.rt=a6;generalize x.ps.all (za9 2)=a7;generalize zcj n x.rt=a8;generalize x.ps.all (zcj n)=a9;generalize decide (x.ls.length<=12)=b1;generalize x.ls.all (za9 2)=b2;generalize x.ls.all (zcj n)=b3;generalize (decide (x.co.length<=160)&&x.co.all (zfz n nf nm x.co.length))=b4;generalize (zjA x.co.length x.cl&&x.cl.all (zgb n))=b5
 cases a1 <;> cases a2 <;> cases a3 <;> cases a4 <;> cases a5 <;> cases a6 <;> cases a7 <;> cases a8 <;> cases a9 <;> simp[Bool.and_assoc,Bool.and_comm,Bool.and_left_comm]
set_option maxRecDepth 100000 in
theorem zc2 (g:Img) (x:MD) {w:World} (hx:x.ok w) (hnm:x.nm.size<=maxLen) (hm1:g.ts.length<=maxLen) (hm2:g.fs.length<=maxLen) (hm3:g.ms.length<=maxLen) :
 Calls Tryz.prog 180 #[mdV x,imV g] w λe w'=>e=.returned (.bool (rmB g.ts.length g.fs.length g.ms.length x))/\Below w.heap.size w w':=by
 obtain⟨w0,hw0⟩:∃ W,W=(w.alloc (.cells (mdA x) 51)).alloc (.cells (imA g) 26):=⟨_,rfl⟩;have HW0:Hid (w0=_):=hw0;obtain⟨hb0,hat⟩:=zan hw0;have HB0:Hid (Below w.heap.size w w0):=hb0;have HAT:Hid (∀ W,Below w0.heap.size w0 W->At W w.heap.size (mdA x) 51/\At W (w.heap.size+1) (imA g) 26):=hat;have HXp:Hid (∀ W,Below w0.heap.size w0 W->Es tyE W (.slice x.pa x.ps.length x.pc) x.ps):=λW hW=>hx.ps.later (zaa hb0 hW)
 have HXl:Hid (∀ W,Below w0.heap.size w0 W->Es tyE W (.slice x.la x.ls.length x.lc) x.ls):=λW hW=>hx.ls.later (zaa hb0 hW)
 have HCd:Hid (∀ W,Below w0.heap.size w0 W->Calls Tryz.prog 206 #[.agg (mdA x),.agg (imA g)] W λe w'=>e=.returned (.bool (cdB g.ts.length g.fs.length g.ms.length x))/\Below W.heap.size W w'):=λW hW=>zdV g x (hx.later (zaa hb0 hW)) hm1 hm2 hm3
 have hlp:=hx.ps.len;have hll:=hx.ls.len;unfold maxLen at hlp hll hm1 hm2 hm3;obtain⟨hA1,hA2⟩:=hat w0 (Below.refl _ _);have c1:=hA1.cell;have c2:=hA2.cell;have HF:Hid (rmB g.ts.length g.fs.length g.ms.length x=(zaP x.nm.data.toList&&zb7 x.fl 31&&zb7 x.mx 12&&decide (x.ps.length<=6)&&decide (x.ls.length<=12)&&mB 3 g.ts.length x.rt&&(x.ps.all (mB 2 g.ts.length)&&(x.ls.all (mB 2 g.ts.length)&&cdB g.ts.length g.fs.length g.ms.length x)))):=rfl;have HFn:Hid (Calls Tryz.prog 178 #[.string x.nm] w0 λe w'=>e=.returned (.bool (zaP x.nm.data.toList))/\w'=w0):=zdc x.nm hnm w0
 have HMr:Hid (Calls Tryz.prog 179 #[.agg #[.int .i64 x.rt.1,.int .i64 x.rt.2.1,.int .i64 x.rt.2.2.1,.bool x.rt.2.2.2],.int .i64 3,.int .i64 g.ts.length] w0 λe w'=>e=.returned (.bool (mB 3 g.ts.length x.rt))/\Below w0.heap.size w0 w'):=zb4 (p:=3) (.inr (.inr rfl)) x.rt g.ts.length w0
 unfold mdA at c1 HW0 HCd;unfold imA at c2 HW0 HCd;clear hw0 hb0 hat hA1 hA2 hx hnm;unfold mdV imV;go_enter Tryz.func180,Tryz.ntmps180;go_wp2_with (rw[<- HW0.out])
 refine Calls.mono HFn.out ?_;rintro e wz ⟨rfl,hz⟩;subst wz
 cases hfi:zaP x.nm.data.toList with
 | false =>
  go_wp2_with fail
  go_ret;exact⟨zab (by rw[HF.out,hfi];simp),HB0.out⟩
 | true =>
 by_cases h1:x.fl<0
 ·have hq:zb7 x.fl 31=false:=by unfold zb7;simp;omega
  go_wp2_with fail
  go_ret;exact⟨zab (by rw[HF.out,hq];simp),HB0.out⟩
 by_cases h2:31<x.fl
 ·have hq:zb7 x.fl 31=false:=by unfold zb7;simp;omega
  go_wp2_with fail
  go_ret;exact⟨zab (by rw[HF.out,hq];simp),HB0.out⟩
 have hw1:zb7 x.fl 31=true:=by unfold zb7;simp;omega
 by_cases h3:x.mx<0
 ·have hq:zb7 x.mx 12=false:=by unfold zb7;simp;omega
  go_wp2_with fail
  go_ret;exact⟨zab (by rw[HF.out,hq];simp),HB0.out⟩
 by_cases h4:12<x.mx
 ·have hq:zb7 x.mx 12=false:=by unfold zb7;simp;omega
  go_wp2_with fail
  go_ret;exact⟨zab (by rw[HF.out,hq];simp),HB0.out⟩
 have hw2:zb7 x.mx 12=true:=by unfold zb7;simp;omega
 by_cases h5:6<x.ps.length
 ·have h5':(6:Int)<(x.ps.length:Int):=by omega
  have hq:decide (x.ps.length<=6)=false:=by simp;omega
  go_wp2_with fail
  go_ret;exact⟨zab (by rw[HF.out,hq];simp),HB0.out⟩
 have h5':¬ (6:Int)<(x.ps.length:Int):=by omega
 by_cases h6:12<x.ls.length
 ·have h6':(12:Int)<(x.ls.length:Int):=by omega
  have hq:decide (x.ls.length<=12)=false:=by simp;omega
  go_wp2_with fail
  go_ret;exact⟨zab (by rw[HF.out,hq];simp),HB0.out⟩
 have h6':¬ (12:Int)<(x.ls.length:Int):=by omega
 have HG:Hid (rmB g.ts.length g.fs.length g.ms.length x=(mB 3 g.ts.length x.rt&&(x.ps.all (mB 2 g.ts.length)&&(x.ls.all (mB 2 g.ts.length)&&cdB g.ts.length g.fs.length g.ms.length x)))):=by
  show _=_;rw[HF.out,hfi,hw1,hw2,decide_eq_true (show x.ps.length<=6 by omega),decide_eq_true (show x.ls.length<=12 by omega)];simp
 clear hfi hw1 hw2 HF;go_wp2_with fail
 refine Calls.mono HMr.out ?_;rintro e w1 ⟨rfl,hb1⟩;have HB1:Hid (Below w0.heap.size w0 w1):=hb1;clear c1 c2 HMr hb1;obtain⟨hA1,hA2⟩:=HAT.out w1 HB1.out;have c1:=hA1.cell;have c2:=hA2.cell;unfold mdA at c1;unfold imA at c2;clear hA1 hA2
 cases hmr:mB 3 g.ts.length x.rt with
 | false =>
  go_wp2_with fail
  go_ret;exact⟨zab (by rw[HG.out,hmr];rfl),zaa HB0.out HB1.out⟩
 | true =>
 have HG1:Hid (rmB g.ts.length g.fs.length g.ms.length x=(x.ps.all (mB 2 g.ts.length)&&(x.ls.all (mB 2 g.ts.length)&&cdB g.ts.length g.fs.length g.ms.length x))):=by show _=_;rw[HG.out,hmr];rfl
 clear hmr HG;go_wp2_with fail
 clear c1 c2;go_loopw [6] (λz wr=>∃ q:Nat,q<=x.ps.length/\z=.int .i64 q/\Below w0.heap.size w0 wr/\Hid ((x.ps.take q).all (mB 2 g.ts.length)=true)) (λz _=>x.ps.length - (intOf z).toNat)
 case atStart=>exact⟨0,Nat.zero_le _,rfl,HB1.out,by show _=_;simp⟩
 case round =>
  obtain⟨q,hq,rfl,hB,HA⟩:=hrel;have HBr:Hid (Below w0.heap.size w0 wr):=hB;obtain⟨hA1,hA2⟩:=HAT.out wr hB;have c1:=hA1.cell;have c2:=hA2.cell;unfold mdA at c1;unfold imA at c2;clear hA1 hA2;by_cases hql:q<x.ps.length
  ·obtain⟨b,off,hfa,hb,h6x,h7,hc⟩:=(HXp.out wr hB).at hql;obtain⟨k0,k1,k2,k3⟩:=(show El tyE wr b (off+q * 4) x.ps[q] from hc q hql).cells_Y
   have HY:Hid (mB 2 g.ts.length x.ps[q]=true->(x.ps.take (q+1)).all (mB 2 g.ts.length)=true):=λh=>zbw hql HA.out h
   have HN:Hid (mB 2 g.ts.length x.ps[q]=false->rmB g.ts.length g.fs.length g.ms.length x=false):=λh=>by rw[HG1.out,zdr hql h];rfl
   have HMy:Hid (Calls Tryz.prog 179 #[.agg #[.int .i64 x.ps[q].1,.int .i64 x.ps[q].2.1,.int .i64 x.ps[q].2.2.1,.bool x.ps[q].2.2.2],.int .i64 2,.int .i64 g.ts.length] wr λe w'=>e=.returned (.bool (mB 2 g.ts.length x.ps[q]))/\Below wr.heap.size wr w'):=zb4 (p:=2) (.inr (.inl rfl)) x.ps[q] g.ts.length wr
   generalize x.ps[q]=y at *;unfold maxLen at h7;rw[hfa]at c1;clear hfa hc hB;go_wp2_with fail
   refine Calls.mono HMy.out ?_;rintro e w2 ⟨rfl,hb2⟩;have HB2:Hid (Below w0.heap.size w0 w2):=zaa HBr.out hb2;clear c1 c2 k0 k1 k2 k3 HMy hb2
   cases hm:mB 2 g.ts.length y with
   | false =>
    have HN2:Hid _:=HN.out hm;go_wp2_with fail
    go_ret;exact⟨zab HN2.out.symm,zaa HB0.out HB2.out⟩
   | true =>
    have HY2:Hid _:=HY.out hm;clear HY HN;go_wp2_with fail
    go_roundw
    case rel=>exact⟨q+1,by omega,by go_num,HB2.out,HY2.out⟩
    case measure=>simp[intOf];omega
  ·have HG2:Hid (rmB g.ts.length g.fs.length g.ms.length x=(x.ls.all (mB 2 g.ts.length)&&cdB g.ts.length g.fs.length g.ms.length x)):=by show _=_;rw[HG1.out,zbQ hql HA.out];rfl
   clear HA hB;go_wp2_with fail
   clear c1 c2;go_loopw [7] (λz wr2=>∃ q:Nat,q<=x.ls.length/\z=.int .i64 q/\Below w0.heap.size w0 wr2/\Hid ((x.ls.take q).all (mB 2 g.ts.length)=true)) (λz _=>x.ls.length - (intOf z).toNat)
   case atStart=>exact⟨0,Nat.zero_le _,rfl,HBr.out,by show _=_;simp⟩
   case round =>
    obtain⟨q,hq,rfl,hB,HA⟩:=hrel;have HBs:Hid (Below w0.heap.size w0 wr):=hB;obtain⟨hA1,hA2⟩:=HAT.out wr hB;have c1:=hA1.cell;have c2:=hA2.cell;unfold mdA at c1;unfold imA at c2;clear hA1 hA2;by_cases hql2:q<x.ls.length
    ·obtain⟨b,off,hfa,hb,h6x,h7,hc⟩:=(HXl.out wr hB).at hql2;obtain⟨k0,k1,k2,k3⟩:=(show El tyE wr b (off+q * 4) x.ls[q] from hc q hql2).cells_Y
     have HY:Hid (mB 2 g.ts.length x.ls[q]=true->(x.ls.take (q+1)).all (mB 2 g.ts.length)=true):=λh=>zbw hql2 HA.out h
     have HN:Hid (mB 2 g.ts.length x.ls[q]=false->rmB g.ts.length g.fs.length g.ms.length x=false):=λh=>by rw[HG2.out,zdr hql2 h];rfl
     have HMy:Hid (Calls Tryz.prog 179 #[.agg #[.int .i64 x.ls[q].1,.int .i64 x.ls[q].2.1,.int .i64 x.ls[q].2.2.1,.bool x.ls[q].2.2.2],.int .i64 2,.int .i64 g.ts.length] wr λe w'=>e=.returned (.bool (mB 2 g.ts.length x.ls[q]))/\Below wr.heap.size wr w'):=zb4 (p:=2) (.inr (.inl rfl)) x.ls[q] g.ts.length wr
     generalize x.ls[q]=y at *;unfold maxLen at h7;rw[hfa]at c1;clear hfa hc hB;go_wp2_with fail
     refine Calls.mono HMy.out ?_;rintro e w2 ⟨rfl,hb2⟩;have HB2:Hid (Below w0.heap.size w0 w2):=zaa HBs.out hb2;clear c1 c2 k0 k1 k2 k3 HMy hb2
     cases hm:mB 2 g.ts.length y with
     | false =>
      have HN2:Hid _:=HN.out hm;go_wp2_with fail
      go_ret;exact⟨zab HN2.out.symm,zaa HB0.out HB2.out⟩
     | true =>
      have HY2:Hid _:=HY.out hm;clear HY HN;go_wp2_with fail
      go_roundw
      case rel=>exact⟨q+1,by omega,by go_num,HB2.out,HY2.out⟩
      case measure=>simp[intOf];omega
    ·have HG3:Hid (rmB g.ts.length g.fs.length g.ms.length x=cdB g.ts.length g.fs.length g.ms.length x):=by show _=_;rw[HG2.out,zbQ hql2 HA.out];rfl
     have HC2:=HCd.out wr hB;clear HA hB;go_wp2_with fail
     refine Calls.mono HC2 ?_;rintro e w2 ⟨rfl,hb2⟩;have HB2:Hid (Below w0.heap.size w0 w2):=zaa HBs.out hb2;clear hb2 c1 c2 HC2;go_wp2;go_ret;exact⟨zab HG3.out.symm,zaa HB0.out HB2.out⟩
end Go.Proofs.YtkedhjdipnhgdaaGreat
