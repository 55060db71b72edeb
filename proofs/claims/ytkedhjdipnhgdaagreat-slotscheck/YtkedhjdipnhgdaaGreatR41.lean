import Derived.Test.YtkedhjdipnhgdaaGreatR39
namespace Go.Proofs.YtkedhjdipnhgdaaGreat
set_option maxHeartbeats 16000000
set_option linter.all false
open RowKit
attribute [local go_sem ↓] wp_at_zero wp_at_succ
theorem zsK {g:Img} {t:Int} (hl:g.ts.length<=32) (h:zag g t=1):zaw g (6,t,0,false)=true:=by
 have hn:=zai.1 (zbk (g:=g) (t:=t) (by rw[h];decide))
 have hp:plainT (6,t,0,false)=true:=by
  unfold plainT zaB;simp;omega
 rw[zeS hp rfl];simpa using h
theorem WU.six {g:Img} (U:WU g) {t:Int} (h:zag g t=1):zaw g (6,t,0,false)=true:=zsK (zax U.im).1 h
theorem gt8 {l c:List Ty} (h:Cut l c):decide ((8:Int)<(l.length:Int))=decide (8<c.length):=by
 have:=h.lt8;rw[Bool.eq_iff_iff];simp;omega
theorem zxW {l c:List Ty} (h:Cut l c):decide ((32:Int)<(l.length:Int))=decide (32<c.length):=by
 have:=h.lt32;rw[Bool.eq_iff_iff];simp;omega
theorem zhC {g:Img} {t:Int} {w:World} (hg:Im w g) (U:WU g) (hwf:Wf t) (hn:zam t g.ts.length=true):Ans 65 #[zao g,.int .i64 t] w (.bool (zbZ g t)):=by
 obtain⟨w0,HW0,HB0,HG,HC,HI,c0,c1,c2,c3⟩:=zaG hg;have HK:Hid (Ans 16 #[zao g,.int .i64 t] w0 (.int .i64 (zag g t))):=zaQ t (HI.out w0 (Below.refl _ _)) (FlOk.of U.im);have HCe:Hid (∀ W,Below w0.heap.size w0 W->zag g t=1->Calls Tryz.prog 89 #[zao g,.agg #[.int .i64 6,.int .i64 t,.int .i64 0,.bool false]] W λe w'=>∃ v,e=.returned v/\∃ l,OwnE tyE w' W.heap.size 47 v l/\Cut l (zbl g (6,t,0,false))/\l.length<=2000/\Below W.heap.size W w'):=λW hW h1=>zeU U.used U.wel (HI.out W hW) (U.six h1)
 have HOb:Hid (∀ W,Below w0.heap.size w0 W->Calls Tryz.prog 90 #[zao g,.int .i64 t] W λe w'=>∃ v,e=.returned v/\∃ l,OwnE tyE w' W.heap.size 47 v l/\Cut l (znm g t)/\l.length<=10000000/\Below W.heap.size W w'):=λW hW=>zhR (HI.out W hW) U hwf
 have HR:Hid (zbZ g t=if zag g t=1 then decide (8<(zbl g (6,t,0,false)).length) else if zag g t=0 then decide (32<(znm g t).length) else false):=rfl
 have HCl:Hid (∀ W,Below w0.heap.size w0 W->Im4 W w.heap.size g):=HC.out;have hk4:zag g t=0∨zag g t=2∨zag g t=1∨zag g t=3:=by unfold zag;rw[if_pos hn];exact zbp _
 unfold zao at HK HCe HOb ⊢;clear hg U hwf hn;generalize zbZ g t=R at *;generalize zbl g (6,t,0,false)=C1 at *;generalize znm g t=C2 at *;generalize zag g t=kn at *;go_enter Tryz.func65,Tryz.ntmps65;go_wp2_with (rw[<- HW0.out])
 refine Calls.mono HK.out ?_;rintro e w1 ⟨rfl,hb1⟩;have HB1:Hid (Below w0.heap.size w0 w1):=hb1;clear hb1 c0 c1 c2 c3 HK;obtain⟨c0,c1,c2,c3⟩:=HCl.out w1 HB1.out
 rcases hk4 with rfl | rfl | rfl | rfl
 ·go_wp2_with fail
  refine Calls.mono (HOb.out w1 HB1.out) ?_;rintro e w2 ⟨v,rfl,l,ho,hc,hl,hb2⟩;have HB2:Hid (Below w0.heap.size w0 w2):=zaa HB1.out hb2;have HR2:Hid (R=decide ((32:Int)<(l.length:Int))):=by show _=_;rw[HR.out,zxW hc];rfl
  obtain⟨a,c,rfl,_,_⟩:=ho.shape;clear ho hc hb2;go_wp2
  all_goals go_ret
  all_goals exact⟨zab (by rw[HR2.out]),zaa HB0.out HB2.out⟩
 ·have HR2:Hid (R=false):=HR.out;go_wp2;go_ret;exact⟨zab HR2.out.symm,zaa HB0.out HB1.out⟩
 ·go_wp2_with fail
  refine Calls.mono (HCe.out w1 HB1.out (by trivial)) ?_
  rintro e w2 ⟨v,rfl,l,ho,hc,hl,hb2⟩;have HB2:Hid (Below w0.heap.size w0 w2):=zaa HB1.out hb2;have HR2:Hid (R=decide ((8:Int)<(l.length:Int))):=by show _=_;rw[HR.out,gt8 hc];rfl
  obtain⟨a,c,rfl,_,_⟩:=ho.shape;clear ho hc hb2;go_wp2
  all_goals go_ret
  all_goals exact⟨zab (by rw[HR2.out]),zaa HB0.out HB2.out⟩
 ·have HR2:Hid (R=false):=HR.out;go_wp2;go_ret;exact⟨zab HR2.out.symm,zaa HB0.out HB1.out⟩
theorem zph {g:Img} (h:zaY g=false):zb8 g=(0,17):=by unfold zb8;rw[h];rfl
theorem zl5 {g:Img} (h:zaY g=true) {i:Nat} (hi:i<g.fs.length) (ha:∀ x∈g.fs.take i,zaw g x.t=true) (hu:zaw g g.fs[i].t=false):zb8 g=((i:Int),10):=by
 unfold zb8;rw[h,if_neg (by decide),zf9 hi (λx hx=>by rw[ha x hx];rfl) (by rw[hu];rfl)]
theorem znL {g:Img} (h:zaY g=true) (U:AllU g) {i:Nat} (hi:i<g.ts.length) (ha:∀ j<i,zbZ g (j:Int)=false) (hu:zbZ g (i:Int)=true):zb8 g=((i:Int),20):=by
 unfold zb8;have h1:g.fs.findIdx? (λx=>!zaw g x.t)=none:=zbU.2 (λx hx=>by rw[U x hx];rfl)
 have h2:(List.range g.ts.length).findIdx? (λt:Nat=>zbZ g (t:Int))=some i:=zf9 (by simpa using hi) (λx hx=>by
  rw[List.take_range,List.mem_range]at hx;exact ha x (by omega)) (by simpa using hu)
 rw[h,if_neg (by decide),h1,h2]
theorem zrt {g:Img} (h:zaY g=true) (U:AllU g) (ha:∀ j<g.ts.length,zbZ g (j:Int)=false):zb8 g=(0,0):=by
 unfold zb8;have h1:g.fs.findIdx? (λx=>!zaw g x.t)=none:=zbU.2 (λx hx=>by rw[U x hx];rfl)
 have h2:(List.range g.ts.length).findIdx? (λt:Nat=>zbZ g (t:Int))=none:=zbU.2 (λx hx=>ha x (by simpa using hx))
 rw[h,if_neg (by decide),h1,h2]
theorem zbr {a b c d:Int} (h:(c,d)=(a,b)):Ending.returned (.tuple #[.int .i64 a,.int .i64 b])=.returned (.tuple #[.int .i64 c,.int .i64 d]):=by cases h;rfl
set_option maxRecDepth 20000 in
theorem zjX {g:Img} {w:World} (hg:Im w g) :
 Ans 34 #[zao g] w (.tuple #[.int .i64 (zb8 g).1,.int .i64 (zb8 g).2]):=by
 obtain⟨w0,HW0,HB0,HG,HC,HI,c0,c1,c2,c3⟩:=zaG hg;have htl:=hg.ts.len;have hfl:=hg.fs.len;unfold maxLen at htl hfl;have HCk:Hid (Ans 63 #[zao g] w0 (.tuple #[.int .i64 (zcg g).1,.int .i64 (zcg g).2])):=ze8 (HI.out w0 (Below.refl _ _));have HFs:Hid (∀ W,Below w0.heap.size w0 W->Es fdE W (.slice g.fa g.fs.length g.fc) g.fs):=λW hW=>(HI.out W hW).fs
 have HC4:Hid (∀ W,Below w0.heap.size w0 W->Im4 W w.heap.size g):=HC.out;have HUw:Hid (∀ W t,Below w0.heap.size w0 W->zaY g=true->Ans 64 #[zao g,.agg #[.int .i64 t.1,.int .i64 t.2.1,.int .i64 t.2.2.1,.bool t.2.2.2]] W (.bool (zaw g t))):=λW t hW hw=>zd7 t (HI.out W hW) (Wel.of hw).im
 have HTo:Hid (∀ W (i:Nat),Below w0.heap.size w0 W->zaY g=true->AllU g->i<g.ts.length->Ans 65 #[zao g,.int .i64 i] W (.bool (zbZ g (i:Int)))):=λW i hW hw hu hi=>by
  have hn:zam (i:Int) g.ts.length=true:=by rw[zai];omega
  exact zhC (HI.out W hW) ⟨hw,hu⟩ (zeG (by have:=(zax (Wel.of hw).im).1;omega) hn) hn
 have HWl:Hid (zaY g=decide ((zcg g).2=0)):=rfl;have HL1:Hid (zaY g=false->zb8 g=(0,17)):=zph;have HL2:Hid (zaY g=true->∀ (i:Nat) (hi:i<g.fs.length),(∀ x∈g.fs.take i,zaw g x.t=true)->zaw g g.fs[i].t=false->zb8 g=((i:Int),10)):=λh i hi=>zl5 h hi
 have HL3:Hid (zaY g=true->AllU g->∀ i:Nat,i<g.ts.length->(∀ j<i,zbZ g (j:Int)=false)->zbZ g (i:Int)=true->zb8 g=((i:Int),20)):=λh U i hi=>znL h U hi
 have HL4:Hid (zaY g=true->AllU g->(∀ j<g.ts.length,zbZ g (j:Int)=false)->zb8 g=(0,0)):=zrt;unfold zao at HCk HUw HTo ⊢;unfold Im4 at HC4;generalize g.fa=fa at *;clear hg HC;generalize (zcg g).1=k1 at *;generalize (zcg g).2=k2 at *;go_enter Tryz.func34,Tryz.ntmps34;go_wp2_with (rw[<- HW0.out])
 refine Calls.mono HCk.out ?_;rintro e w1 ⟨rfl,hb1⟩;have HB1:Hid (Below w0.heap.size w0 w1):=hb1;clear hb1 c0 c1 c2 c3 HCk;obtain⟨c0,c1,c2,c3⟩:=HC4.out w1 HB1.out;by_cases hk:k2=0
 ·subst hk;have HW:Hid (zaY g=true):=by show _=_;rw[HWl.out];rfl
  go_wp2_with fail
  clear c0 c1 c2 c3;go_loopw [6,7,19] (λ_ _ z wr=>∃ i:Nat,i<=g.fs.length/\z=.int .i64 i/\Hid (∀ x∈g.fs.take i,zaw g x.t=true)/\Hid (Below w0.heap.size w0 wr)) (λ_ _ z _=>g.fs.length - (intOf z).toNat)
  case atStart=>exact⟨0,Nat.zero_le _,rfl,(show ∀ x∈_,_ from by simp),HB1.out⟩
  case round =>
   obtain⟨i,hi,rfl,HA,HB⟩:=hrel;by_cases hil:i<g.fs.length
   ·have hii:(i:Int)<(g.fs.length:Int):=by omega
    obtain⟨tb,off,cap,hla,_,_,htb,hc⟩:=(HFs.out wr HB.out).parts (by intro e;rw[e]at hil;simp at hil)
    simp only[Value.slice.injEq]at hla;obtain⟨hla, -,hlc2⟩:=hla;subst hla;obtain⟨k0,k1,k2,k3,k4,k5,k6⟩:=(show El fdE wr tb (off+i * 7) g.fs[i] from hc i hil).cells_F
    have HBad:Hid (zaw g g.fs[i].t=false->zb8 g=((i:Int),10)):=HL2.out HW.out i hil HA.out;have HGood:Hid (zaw g g.fs[i].t=true->∀ x∈g.fs.take (i+1),zaw g x.t=true):=λh x hx=>by
     rw[List.take_succ_eq_append_getElem hil]at hx
     rcases List.mem_append.1 hx with hx | hx
     ·exact HA.out x hx
     ·simp at hx;subst hx;exact h
    have HUq:Hid (∀ W,Below w0.heap.size w0 W->Ans 64 #[.agg #[.slice g.ta g.ts.length g.tc,.slice (some ⟨tb,off,none⟩) g.fs.length g.fc,.slice g.ma g.ms.length g.mc,.int .i64 g.en],.agg #[.int .i64 g.fs[i].t.1,.int .i64 g.fs[i].t.2.1,.int .i64 g.fs[i].t.2.2.1,.bool g.fs[i].t.2.2.2]] W (.bool (zaw g g.fs[i].t))):=λW hW=>HUw.out W _ hW HW.out
    clear hc hlc2;generalize g.fs[i]=x at *;obtain⟨wA,hwA⟩:∃ W,W=wr.alloc (.cells #[.string x.nm,.int .i64 x.ow,.int .i64 x.t.1,.int .i64 x.t.2.1,.int .i64 x.t.2.2.1,.bool x.t.2.2.2,.bool x.st] 62):=⟨_,rfl⟩;have HWA:Hid (wA=_):=hwA;have hbA:Below wr.heap.size wr wA:=by rw[hwA];exact zac _ _ _
    have hAA:At wA wr.heap.size #[.string x.nm,.int .i64 x.ow,.int .i64 x.t.1,.int .i64 x.t.2.1,.int .i64 x.t.2.2.1,.bool x.t.2.2.2,.bool x.st] 62:=by rw[hwA];exact At.made _ _ _
    have HBA:Hid (Below w0.heap.size w0 wA):=zaa HB.out hbA;obtain⟨c0,c1,c2,c3⟩:=HC4.out wA HBA.out;have a2:=hAA.cell 2;have a3:=hAA.cell 3;have a4:=hAA.cell 4;have a5:=hAA.cell 5;simp at a2 a3 a4 a5;clear hwA hbA hAA;go_wp2_with (rw[<- HWA.out])
    refine Calls.mono (HUq.out wA HBA.out) ?_;rintro e w2 ⟨rfl,hb2⟩;have HB2:Hid (Below w0.heap.size w0 w2):=zaa HBA.out hb2;clear hb2 c0 c1 c2 c3 a2 a3 a4 a5 k0 k1 k2 k3 k4 k5 k6 HUq HWA
    cases hu:zaw g x.t with
    | false =>
     have HR:Hid _:=HBad.out hu;clear hu HBad HGood;go_wp2_with fail
     go_ret2
     exact⟨zbr HR.out,zaa HB0.out HB2.out⟩
    | true =>
     have HR:Hid _:=HGood.out hu;clear hu HBad HGood;go_wp2_with fail
     go_roundw
     case rel=>exact⟨i+1,by omega,by go_num,HR.out,HB2.out⟩
     case measure=>simp[intOf];omega
   ·have hii:¬ (i:Int)<(g.fs.length:Int):=by omega
    have HU:Hid (AllU g):=λx hx=>HA.out x (by rw[List.take_of_length_le (by omega)];exact hx)
    obtain⟨c0,c1,c2,c3⟩:=HC4.out wr HB.out;have HBs:Hid (Below w0.heap.size w0 wr):=HB.out;clear HA HB;go_wp2_with fail
    clear c0 c1 c2 c3;go_loopw [8,34] (λ_ z wx=>∃ q:Nat,q<=g.ts.length/\z=.int .i64 q/\Hid (∀ j<q,zbZ g (j:Int)=false)/\Hid (Below w0.heap.size w0 wx)) (λ_ z _=>g.ts.length - (intOf z).toNat)
    case atStart=>exact⟨0,Nat.zero_le _,rfl,(show ∀ j<0,_ from by simp),HBs.out⟩
    case round =>
     clear HBs;obtain⟨q,hq,rfl,HA,HB⟩:=hrel;by_cases hql:q<g.ts.length
     ·have hqi:(q:Int)<(g.ts.length:Int):=by omega
      have HBad:Hid (zbZ g (q:Int)=true->zb8 g=((q:Int),20)):=HL3.out HW.out HU.out q hql HA.out;have HGood:Hid (zbZ g (q:Int)=false->∀ j<q+1,zbZ g (j:Int)=false):=λh j hj=>by
       by_cases e:j=q
       ·subst e;exact h
       ·exact HA.out j (by omega)
      have HTq:Hid _:=HTo.out wr q HB.out HW.out HU.out hql;obtain⟨c0,c1,c2,c3⟩:=HC4.out wr HB.out;go_wp2_with fail
      refine Calls.mono HTq.out ?_;rintro e w2 ⟨rfl,hb2⟩;have HB2:Hid (Below w0.heap.size w0 w2):=zaa HB.out hb2;clear hb2 c0 c1 c2 c3 HTq
      cases hu:zbZ g (q:Int) with
      | true =>
       have HR:Hid _:=HBad.out hu;clear hu HBad HGood;go_wp2_with fail
       go_ret2
       exact⟨zbr HR.out,zaa HB0.out HB2.out⟩
      | false =>
       have HR:Hid _:=HGood.out hu;clear hu HBad HGood;go_wp2_with fail
       go_roundw
       case rel=>exact⟨q+1,by omega,by go_num,HR.out,HB2.out⟩
       case measure=>simp[intOf];omega
     ·have hqi:¬ (q:Int)<(g.ts.length:Int):=by omega
      have HR:Hid _:=HL4.out HW.out HU.out (λj hj=>HA.out j (by omega))
      go_wp2_with fail
      go_ret2
      exact⟨zbr HR.out,zaa HB0.out HB.out⟩
 ·have hkb:(k2 != 0)=true:=by simpa using hk
  have HR:Hid _:=HL1.out (by rw[HWl.out];simpa using hk)
  clear hk;go_wp2_with fail
  go_ret2
  exact⟨zbr HR.out,zaa HB0.out HB1.out⟩
theorem zrX {g:Img}:((zb8 g).2==0)=zbc g:=by unfold zbc;rw[Bool.eq_iff_iff];simp
theorem znh {g:Img} (t:Ty) {w:World} (hg:Im w g):Ans 67 #[zao g,.agg #[.int .i64 t.1,.int .i64 t.2.1,.int .i64 t.2.2.1,.bool t.2.2.2]] w (.bool (zaY g&&zaw g t)):=by
 obtain⟨w0,HW0,HB0,HC,HI⟩:=zaO hg t;have HCk:Hid (Ans 63 #[zao g] w0 (.tuple #[.int .i64 (zcg g).1,.int .i64 (zcg g).2])):=ze8 (HI.out w0 (Below.refl _ _));have HUw:Hid (∀ W,Below w0.heap.size w0 W->zaY g=true->Ans 64 #[zao g,.agg #[.int .i64 t.1,.int .i64 t.2.1,.int .i64 t.2.2.1,.bool t.2.2.2]] W (.bool (zaw g t))):=λW hW hw=>zd7 t (HI.out W hW) (Wel.of hw).im
 have HWl:Hid (zaY g=decide ((zcg g).2=0)):=rfl;obtain⟨⟨c0,c1,c2,c3⟩,d0,d1,d2,d3⟩:=HC.out w0 (Below.refl _ _);unfold zao at HCk HUw ⊢;clear hg;generalize (zcg g).1=k1 at *;generalize (zcg g).2=k2 at *;generalize zaw g t=F at *;go_enter Tryz.func67,Tryz.ntmps67;go_wp2_with (rw[<- HW0.out])
 refine Calls.mono HCk.out ?_;rintro e w1 ⟨rfl,hb1⟩;have HB1:Hid (Below w0.heap.size w0 w1):=hb1;clear hb1 c0 c1 c2 c3 d0 d1 d2 d3 HCk;obtain⟨⟨c0,c1,c2,c3⟩,d0,d1,d2,d3⟩:=HC.out w1 HB1.out;by_cases hk:k2=0
 ·subst hk;have HW:Hid (zaY g=true):=by show _=_;rw[HWl.out];rfl
  go_wp2_with fail
  refine Calls.mono (HUw.out w1 HB1.out HW.out) ?_;rintro e w2 ⟨rfl,hb2⟩;have HB2:Hid (Below w0.heap.size w0 w2):=zaa HB1.out hb2;clear hb2 c0 c1 c2 c3 d0 d1 d2 d3;go_wp2
  all_goals go_ret
  all_goals exact⟨zab (by rw[HW.out,Bool.true_and]),zaa HB0.out HB2.out⟩
 ·have hkb:(k2==0)=false:=by simpa using hk
  have HW:Hid (zaY g=false):=by show _=_;rw[HWl.out];simpa using hk
  clear hk;go_wp2
  all_goals go_ret
  all_goals exact⟨zab (by rw[HW.out,Bool.false_and]),zaa HB0.out HB1.out⟩
theorem zbY {g:Img} {w:World} (hg:Im w g):Ans 14 #[zao g] w (.bool (zbc g)):=by
 obtain⟨w0,HW0,HB0,HG,HC,HI,c0,c1,c2,c3⟩:=zaG hg;have HCk:Hid (Ans 34 #[zao g] w0 (.tuple #[.int .i64 (zb8 g).1,.int .i64 (zb8 g).2])):=zjX (HI.out w0 (Below.refl _ _));have HF:Hid (((zb8 g).2==0)=zbc g):=zrX;unfold zao at HCk ⊢;clear hg HC;generalize (zb8 g).1=k1 at *;generalize (zb8 g).2=k2 at *;go_enter Tryz.func14,Tryz.ntmps14;go_wp2_with (rw[<- HW0.out])
 refine Calls.mono HCk.out ?_;rintro e w1 ⟨rfl,hb1⟩;have HB1:Hid (Below w0.heap.size w0 w1):=hb1;clear hb1 c0 c1 c2 c3 HCk;go_wp2
 all_goals go_ret
 all_goals exact⟨zab (by rw[<- HF.out]),zaa HB0.out HB1.out⟩
theorem zfA {g:Img} (m:Int) {w:World} (hg:Im w g):Ans 31 #[zao g,.int .i64 m] w (.bool (zam m g.ms.length)):=by
 obtain⟨w0,HW0,HB0,HG,HC,HI,c0,c1,c2,c3⟩:=zaG hg;have htl:=hg.ms.len;unfold maxLen at htl;unfold zao;clear hg HC HI HG;go_enter Tryz.func31,Tryz.ntmps31;go_wp2_with (rw[<- HW0.out])
 all_goals go_ret
 all_goals refine⟨zab ?_,HB0.out⟩
 all_goals (unfold zam;rw[Bool.eq_iff_iff];simp;try omega)
theorem zjP {g:Img} {m:Int} {mv:Value} {L:List Int} {w:World} (hL:Is w mv L):Ans 84 #[tbV g mv,.int .i64 m] w (.int .i64 (ixI L m)):=by
 obtain⟨w0,hw0⟩:∃ W,W=w.alloc (.cells (tbC g mv) 68):=⟨_,rfl⟩;have HW0:Hid (w0=_):=hw0;have hb0:Below w.heap.size w w0:=by rw[hw0];exact zac _ _ _
 have HB0:Hid (Below w.heap.size w w0):=hb0;have hat:At w0 w.heap.size (tbC g mv) 68:=by rw[hw0];exact At.made _ _ _
 have HIx:Hid (Calls Tryz.prog 82 #[mv,.int .i64 m] w0 λe w'=>e=.returned (.int .i64 (ixI L m))/\w'=w0):=zjf (hL.later hb0) m
 obtain⟨ma,mc,hmv,_,_⟩:=hL.shape;subst hmv;obtain⟨c0,c1,c2,c3,c4⟩:=Tb5.of hat;unfold tbC at HW0;clear hw0 hb0 hat hL;generalize ixI L m=R at *;unfold tbV;go_enter Tryz.func84,Tryz.ntmps84;go_wp2_with (rw[<- HW0.out])
 refine Calls.mono HIx.out ?_;rintro e w1 ⟨rfl,hz⟩;subst hz;clear c0 c1 c2 c3 c4 HIx;go_wp2_with fail
 go_ret;exact⟨rfl,HB0.out⟩
theorem zaJ {w:World} {g:Img} (hg:Im w g) {k:Nat} (hk:k<g.ms.length):∃ w0 tb off,g.ma=some ⟨tb,off,none⟩/\g.ms.length<=g.mc/\g.mc<=maxLen/\Hid (w0=w.alloc (.cells #[.slice g.ta g.ts.length g.tc,.slice g.fa g.fs.length g.fc,.slice (some ⟨tb,off,none⟩) g.ms.length g.mc,.int .i64 g.en] 26))/\Hid (Below w.heap.size w w0) /\
 Hid (∀ W,Below w0.heap.size w0 W->(W.cell? ⟨w.heap.size,0,none⟩=some (.slice g.ta g.ts.length g.tc)/\W.cell? ⟨w.heap.size,1,none⟩=some (.slice g.fa g.fs.length g.fc)/\W.cell? ⟨w.heap.size,2,none⟩=some (.slice (some ⟨tb,off,none⟩) g.ms.length g.mc)/\W.cell? ⟨w.heap.size,3,none⟩=some (.int .i64 g.en))/\MtA W tb (off+k * 12) g.ms[k])/\Hid (∀ W,Below w0.heap.size w0 W->Im W g)/\Hid (GB w0 w.heap.size g):=by
 obtain⟨w0,HW0,HB0,HG,HC,HI,_⟩:=zaG hg;obtain⟨tb,off,hma,h1,h2,hc⟩:=(HI.out w0 (Below.refl _ _)).mth hk;refine⟨w0,tb,off,hma,h1,h2, ?_,HB0,λW hW=>⟨?_,hc W hW k hk⟩,HI,HG⟩
 ·have:=HW0.out;rw[hma]at this;exact this
 ·have:=HC.out W hW;unfold Im4 at this;rw[hma]at this;exact this
set_option maxRecDepth 20000 in
theorem zhY {g:Img} {m:Int} {w:World} (hg:Im w g) (hw:zaY g=true) (hm:zbT g m):Ans 61 #[zao g,.int .i64 m] w (.int .i64 (zmD g m)):=by
 obtain⟨k,hk,rfl⟩:=zbE hm;obtain⟨w0,tb,off,hma,h1,h2,HW0,HB0,HK,HI,HG⟩:=zaJ hg hk;have hn:=zgH (Wel.of hw).im hm;have HTb:Hid (∀ W,Below w0.heap.size w0 W->Calls Tryz.prog 30 #[zao g,.int .i64 g.ms[k].ow] W λe w'=>∃ v,e=.returned (tbV g v)/\OwnI w' W.heap.size v (zaH g g.ms[k].ow)/\Below W.heap.size W w'):=λW hW=>zb9 hw (by rw[za2 hk]at hn;exact hn) (HI.out W hW)
 have HSl:Hid (∀ W v,Is W v (zaH g g.ms[k].ow)->Ans 84 #[tbV g v,.int .i64 k] W (.int .i64 (zmD g (k:Int)))):=λW v hv=>by
  have:=zjP (g:=g) (m:=(k:Int)) hv;unfold zmD;rw[za2 hk];exact this
 have hki:(k:Int)<(g.ms.length:Int):=by omega
 obtain⟨⟨c0,c1,c2,c3⟩,_⟩:=HK.out w0 (Below.refl _ _);unfold maxLen at h2;unfold zao at HTb ⊢;unfold tbV at HTb HSl;rw[hma]at HTb HSl ⊢;clear hg hw hm hn hma HI HG;generalize zaH g g.ms[k].ow=T at *;generalize zmD g (k:Int)=R at *;generalize g.ms[k]=x at *;go_enter Tryz.func61,Tryz.ntmps61;go_wp2_with (rw[<- HW0.out])
 go_region_held3 (λW:World=>(W.cell? ⟨w.heap.size,0,none⟩=some (.slice g.ta g.ts.length g.tc)/\W.cell? ⟨w.heap.size,1,none⟩=some (.slice g.fa g.fs.length g.fc)/\W.cell? ⟨w.heap.size,2,none⟩=some (.slice (some ⟨tb,off,none⟩) g.ms.length g.mc)/\W.cell? ⟨w.heap.size,3,none⟩=some (.int .i64 g.en))/\MtA W tb (off+k * 12) x)
  (first | (exact HK.out _ hB2) | (exact HK.out _ hB1) | (exact HK.out _ (zad _)))
  (first | (go_at_call 30;refine (HTb.out _ (zad _)).mono ?_;rintro e w1 ⟨v,rfl,ho1,hz1⟩;have hB1:Below w0.heap.size w0 w1:=zaa (zad _) hz1;obtain⟨va,vc,hv,_,_⟩:=ho1.is.shape;subst hv) | (go_at_call 84;refine (HSl.out _ _ ho1.is).mono ?_;rintro e w2 ⟨rfl,hz2⟩;have hB2:Below w0.heap.size w0 w2:=zaa hB1 hz2))
 rename_i hheld
 clear hheld;have HB2:Hid (Below w0.heap.size w0 w2):=hB2;clear hz1 hz2 hB1 hB2 ho1 c0 c1 c2 c3;go_wp2_with fail
 go_ret;exact⟨rfl,zaa HB0.out HB2.out⟩
theorem zgs (W:World) (x0 x1 x2 x3:Value) (va:Option Addr) (n vc:Nat):(Instr.field 68 (.agg #[x0,x1,x2,x3,.slice va n vc]) 1).run Tryz.prog W=.ok (.slice va n vc) W:=by
 simp[Instr.field,run_underlying Tryz.underlying68,go_sem]
 rfl
def zq7 (g:Img) (t:Int):List Int:=if zbc g=true then (if zag g t=0 then zaH g t else []) else []
theorem zkj {g:Img} {t:Int} {w:World} (hg:Im w g):Calls Tryz.prog 12 #[zao g,.int .i64 t] w λe w'=>∃ v,e=.returned v/\OwnI w' w.heap.size v (zq7 g t)/\Below w.heap.size w w':=by
 obtain⟨w0,HW0,HB0,HG,HC,HI,c0,c1,c2,c3⟩:=zaG hg;have HFw:Hid (Ans 14 #[zao g] w0 (.bool (zbc g))):=zbY (HI.out w0 (Below.refl _ _));have HKn:Hid (∀ W,Below w0.heap.size w0 W->zbc g=true->Ans 16 #[zao g,.int .i64 t] W (.int .i64 (zag g t))):=λW hW hf=>zaQ t (HI.out W hW) (FlOk.of (Wel.of (Fin_.of hf).wel).im)
 have HTb:Hid (∀ W,Below w0.heap.size w0 W->zbc g=true->zag g t=0->Calls Tryz.prog 30 #[zao g,.int .i64 t] W λe w'=>∃ v,e=.returned (tbV g v)/\OwnI w' W.heap.size v (zaH g t)/\Below W.heap.size W w'):=λW hW hf hk=>zb9 (Fin_.of hf).wel (zbk (by rw[hk];decide)) (HI.out W hW)
 have HR:Hid (zq7 g t=if zbc g=true then (if zag g t=0 then zaH g t else []) else []):=rfl
 have HCl:Hid (∀ W,Below w0.heap.size w0 W->Im4 W w.heap.size g):=HC.out;unfold zao at HFw HKn HTb ⊢;unfold tbV at HTb;clear hg HI HC HG;generalize zq7 g t=R at *;generalize zaH g t=T at *;generalize zbc g=b1 at *;generalize zag g t=kn at *;have hfl:=zgs;go_enter Tryz.func12,Tryz.ntmps12;go_wp2_with (rw[<- HW0.out])
 refine Calls.mono HFw.out ?_;rintro e w1 ⟨rfl,hb1⟩;have HB1:Hid (Below w0.heap.size w0 w1):=hb1;clear hb1 c0 c1 c2 c3 HFw;obtain⟨c0,c1,c2,c3⟩:=HCl.out w1 HB1.out
 cases b1 with
 | false =>
  have HR2:Hid (R=[]):=by show _=_;rw[HR.out];rfl
  go_wp2_with fail
  go_ret;exact⟨_,rfl,by rw[HR2.out];exact OwnI.nil _ _,zaa HB0.out HB1.out⟩
 | true =>
  go_wp2_with fail
  refine Calls.mono (HKn.out w1 HB1.out (by trivial)) ?_
  rintro e w2 ⟨rfl,hb2⟩;have HB2:Hid (Below w0.heap.size w0 w2):=zaa HB1.out hb2;clear hb2 c0 c1 c2 c3;obtain⟨c0,c1,c2,c3⟩:=HCl.out w2 HB2.out;by_cases hk:kn=0
  ·subst hk;have HR2:Hid (R=T):=by show _=_;rw[HR.out];rfl
   go_wp2_with fail
   refine Calls.mono (HTb.out w2 HB2.out (by trivial) (by trivial)) ?_
   rintro e w3 ⟨v,rfl,ho,hb3⟩;obtain⟨va,vc,hv,_,_⟩:=ho.is.shape;subst hv;have HB3:Hid (Below w0.heap.size w0 w3):=zaa HB2.out hb3;have HO:Hid (OwnI w3 w2.heap.size (.slice va T.length vc) T):=ho;clear hb3 ho c0 c1 c2 c3;go_wp2_with fail
   go_ret;exact⟨_,rfl,by rw[HR2.out];exact HO.out.mono (Nat.le_trans HB0.out.size HB2.out.size),zaa HB0.out HB3.out⟩
  ·have hkb:(kn != 0)=true:=by simpa using hk
   have HR2:Hid (R=[]):=by show _=_;rw[HR.out,if_pos (by trivial),if_neg hk]
   clear hk;go_wp2_with fail
   go_ret;exact⟨_,rfl,by rw[HR2.out];exact OwnI.nil _ _,zaa HB0.out HB2.out⟩
end Go.Proofs.YtkedhjdipnhgdaaGreat
