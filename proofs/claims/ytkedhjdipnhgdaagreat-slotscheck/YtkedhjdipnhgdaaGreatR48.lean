import Derived.Test.YtkedhjdipnhgdaaGreatR47
import Derived.Test.YtkedhjdipnhgdaaGreatR40
import Derived.Test.YtkedhjdipnhgdaaGreatR46
namespace Go.Proofs.YtkedhjdipnhgdaaGreat
set_option maxHeartbeats 16000000
set_option linter.all false
open Go.RowKit Go.Maps
attribute [local go_sem ↓] wp_at_zero wp_at_succ
theorem zlw {g:Img} (h:imB g=true):g.en = -1∨∃ q:Nat,q<g.ms.length/\g.en=(q:Int):=by
 unfold imB at h;simp only[Bool.and_eq_true,Bool.or_eq_true,decide_eq_true_iff]at h
 rcases h.2 with h | h
 ·exact Or.inl h
 ·have:=zai.1 h;exact Or.inr ⟨g.en.toNat,by omega,by omega⟩
theorem zxh {g:Img} (hi:imB g=true) {q:Nat} (hq:q<g.ms.length):za9 3 g.ms[q].rt=true:=by
 have h:=(zdy hi hq).1;unfold zdS at h
 split at h
 ·simp at h
 ·split at h
  ·rename_i h2;exact h2.1
  ·simp at h
theorem At.setZ {w:World} {g:Nat} {a b:Value} {t:TypeId} (h:At w g #[a,b] t) (x y:Value):At ((w.setCell ⟨g,0,none⟩ x).setCell ⟨g,1,none⟩ y) g #[x,y] t:=by
 have:=(h.set 0 x).set 1 y;simpa using this
theorem zdQ {B g:Nat} {w w1:World} (h:Below B w w1) (hg:B<=g) (x y:Value):Below B w ((w1.setCell ⟨g,0,none⟩ x).setCell ⟨g,1,none⟩ y):=(h.setCell hg _).setCell hg _
def spZ:Array Value:=#[.int .i64 0,.int .i64 0]
structure Chk (w:World) (g:Img) (mm:Nat) (W:World):Prop where
 bel:Below w.heap.size w W
 im:Im W g
 im4:Im4 W w.heap.size g
 sp:At W (w.heap.size+1) spZ 31
 us:Us5 W (mm+1) g mm
theorem zsV {w w0 w1 wb:World} {g:Img} (hg:Im w g) (hw0:w0=(w.alloc (.cells (imC g) 26)).alloc (.cells spZ 31)) (h1:Below w0.heap.size w0 w1)
 (hwb:wb=(w1.alloc (.map #[] 0)).alloc (.cells (usA g w1.heap.size) 54)) :
 w.heap.size+1<w1.heap.size/\UM wb w1.heap.size g 0/\∀ W,Bm w1.heap.size wb W->Chk w g w1.heap.size W:=by
 obtain⟨hb0,hat⟩:=zan hw0;have hb1:=zaa hb0 h1;have hsz:w0.heap.size=w.heap.size+2:=by subst hw0;simp
 have hs1:=h1.size;have hbb:Below w1.heap.size w1 wb:=by
  subst hwb;exact zbN ((Below.refl _ _).alloc (Nat.le_refl _) _) _
 have hUA:At wb (w1.heap.size+1) (usA g w1.heap.size) 54:=by
  subst hwb;have:=At.made (w1.alloc (.map #[] 0)) (usA g w1.heap.size) 54;simpa using this
 refine⟨by omega, ?_,λW hW=>?_⟩
 ·refine⟨0,.map [], ?_,Nat.le_refl _,λt _ h=>?_⟩
  ·subst hwb;exact (World.ownsMap_made w1 Tryz.prog 47 (unitElem (H:=Unit))).alloc _
  ·simp[Maps.has]at h
 ·have hbw:Below w.heap.size w W:=Bm.below (zaa hb1 hbb) (Nat.le_refl _) (by omega) hW
  obtain⟨a1,a2⟩:=hat wb (zaa h1 hbb);have b1:=a1.bm hW (by omega)
  have b2:=a2.bm hW (by omega)
  exact⟨hbw,hg.later hbw,⟨b1.cell 0,b1.cell 1,b1.cell 2,b1.cell 3⟩,b2,Us5.of (hUA.bm hW (by omega))⟩
set_option maxRecDepth 20000 in
theorem zfj {g:Img} {w:World} (hg:Im w g):Ans 7 #[zao g] w (.tuple #[.agg #[.int .i64 (zb3 g).1,.int .i64 (zb3 g).2.1],.int .i64 (zb3 g).2.2]):=by
 have hmm:=@run_makeMap Tryz.prog;obtain⟨w0,hw0⟩:∃ W,W=(w.alloc (.cells (imC g) 26)).alloc (.cells spZ 31):=⟨_,rfl⟩;have HW0:Hid (w0=_):=hw0;obtain⟨hb0,hat⟩:=zan hw0;have HB0:Hid (Below w.heap.size w w0):=hb0;have HFw:Hid (Ans 14 #[zao g] w0 (.bool (zbc g))):=zbY (hg.later hb0);have HBx:Hid (∀ w1,Below w0.heap.size w0 w1->_):=λw1 h1=>zsV (wb:=_) hg hw0 h1 rfl
 have HZ:Hid (∀ W,Below w0.heap.size w0 W->Im4 W w.heap.size g/\At W (w.heap.size+1) spZ 31):=λW hW=>by
  obtain⟨a1,a2⟩:=hat W hW;exact⟨⟨a1.cell 0,a1.cell 1,a1.cell 2,a1.cell 3⟩,a2⟩
 have HWn:Hid (∀ W mm c k,zbc g=true->Below w.heap.size w W->w.heap.size<=mm->UM W mm g c->c<=500000->∀ hk:k<g.ms.length,Calls Tryz.prog 15 #[usV g mm,.int .i64 (k:Nat)] W λe w'=>e=.returned (.int .i64 (za8 g g.ms[k]))/\Bm mm W w'/\UM w' mm g (c+200)):=λW mm c k hf hW hl hU hc hk=>zjQ (Fin_.of hf).wel hg hW hl hU hc hk
 have HKn:Hid (zbc g=true->∀ W t,Below w.heap.size w W->Ans 16 #[zao g,.int .i64 t] W (.int .i64 (zag g t))):=λhf W t hW=>zaQ t (hg.later hW) (FlOk.of (Wel.of (Fin_.of hf).wel).im)
 have HCl:Hid (zbc g=true->∀ W (i:Nat),Below w.heap.size w W->zag g (i:Int)=0->Ans 17 #[zao g,.int .i64 (i:Int)] W (.bool (zaf (flI g (i:Int)) 4||zev g (i:Int)))):=λhf W i hW hk=>zjI (hg.later hW) (Fin_.of hf).wel hk (zeG (n:=g.ts.length) (by have:=(zax (Wel.of (Fin_.of hf).wel).im).1;omega) (zbk (by rw[hk];decide)))
 have HMt:Hid (zbc g=true->∀ W u,Below w.heap.size w W->Calls Tryz.prog 18 #[zao g,.int .i64 u] W λe w'=>∃ v,e=.returned v/\OwnI w' W.heap.size v (zat g u)/\Below W.heap.size W w'):=λhf W u hW=>zbI (hg.later hW) (Wel.of (Fin_.of hf).wel).im
 have HMb:Hid (zbc g=true->∀ W q (hq:q<g.ms.length),Ans 19 #[mdV g.ms[q]] W (.bool (ziB g.ms[q]))):=λhf W q hq=>zi4 (zav (Wel.of (Fin_.of hf).wel).im hq) (zxh (Wel.of (Fin_.of hf).wel).im hq) W
 have HEn:Hid (zbc g=true->g.en = -1∨∃ q:Nat,q<g.ms.length/\g.en=(q:Int)):=λhf=>zlw (Wel.of (Fin_.of hf).wel).im
 have HLn:Hid (zbc g=true->g.ts.length<=32/\g.fs.length<=64/\g.ms.length<=64):=λhf=>zax (Wel.of (Fin_.of hf).wel).im
 have HR0:Hid (zbc g=false->zb3 g=(0,0,17)):=zob;have HR1:Hid (zbc g=true->∀ (i:Nat) (hi:i<g.ms.length),(∀ j (hj:j<i),za8 g g.ms[j]=0)->za8 g g.ms[i]≠0->zb3 g=(1,(i:Int),za8 g g.ms[i])):=λh i hi=>zo8 h hi
 have HR2:Hid (zbc g=true->(∀ j (hj:j<g.ms.length),za8 g g.ms[j]=0)->∀ i:Nat,i<g.ts.length->(∀ j<i,zcz g (j:Int)=false)->zcz g (i:Int)=true->zb3 g=(0,(i:Int),18)):=λh ha i hi=>zpI h ha hi
 have HR3:Hid (zbc g=true->(∀ j (hj:j<g.ms.length),za8 g g.ms[j]=0)->(∀ j<g.ts.length,zcz g (j:Int)=false)->∀ i:Nat,i<g.ts.length->(∀ j<i,zep g (j:Int)=false)->zep g (i:Int)=true->zb3 g=(0,(i:Int),8)):=λh ha hb i hi=>zo0 h ha hb hi
 have HR4:Hid (zbc g=true->(∀ j (hj:j<g.ms.length),za8 g g.ms[j]=0)->(∀ j<g.ts.length,zcz g (j:Int)=false)->(∀ j<g.ts.length,zep g (j:Int)=false)->zb3 g=if zhE g=false then (1,g.en,11) else (0,0,0)):=λh ha hb hc=>zpH h ha hb hc
 have HMq:Hid (∀ (q:Nat) (hq:q<g.ms.length),∃ mb moff,g.ma=some ⟨mb,moff,none⟩/\g.ms.length<=g.mc/\g.mc<=maxLen/\∀ W,Below w.heap.size w W->∀ k (hk:k<g.ms.length),MtA W mb (moff+k * 12) g.ms[k]):=λq hq=>hg.mth hq
 generalize zb3 g=R at *;unfold imC spZ at HW0;unfold zao at HFw HKn HCl HMt ⊢;unfold usA at HBx;unfold usV at HWn;clear hw0 hb0 hat hg;obtain⟨⟨c0,c1,c2,c3⟩,hz⟩:=HZ.out w0 (Below.refl _ _);go_enter Tryz.func7,Tryz.ntmps7;go_wp2_with (rw[<- HW0.out])
 refine Calls.mono HFw.out ?_;rintro e w1 ⟨rfl,hb1⟩;have HB1:Hid (Below w0.heap.size w0 w1):=hb1;clear hb1 hz c0 c1 c2 c3 HFw
 rcases Bool.eq_false_or_eq_true (zbc g) with hfi | hfi
 rotate_left
 ·rw[hfi];have HR:Hid (R=(0,0,17)):=HR0.out hfi;clear hfi;obtain⟨_,hz⟩:=HZ.out w1 HB1.out;have d0:=hz.cell;have dm:=hz.melt;have HFc:=(At.setZ (show At w1 (w.heap.size+1) #[.int .i64 0,.int .i64 0] 31 from hz) (.int .i64 0) (.int .i64 0)).cell
  unfold spZ at d0;clear hz;go_wp2_with fail
  exact bodyPost_ret (v:=.tuple #[.agg #[.int .i64 0,.int .i64 0],.int .i64 17]) (by simp[results,Tryz.results7,go_sem,HFc]) rfl ⟨by rw[HR.out],zdQ (zaa HB0.out HB1.out) (by omega) _ _⟩
 ·rw[hfi];have HF:Hid (zbc g=true):=hfi;clear hfi;obtain⟨hlt,hU,hCk⟩:=HBx.out w1 HB1.out;obtain⟨wb,hwb⟩:∃ W,W=(w1.alloc (.map #[] 0)).alloc (.cells #[.slice g.ta g.ts.length g.tc,.slice g.fa g.fs.length g.fc,.slice g.ma g.ms.length g.mc,.int .i64 g.en,.map (some w1.heap.size)] 54):=⟨_,rfl⟩;rw[<- hwb]at hU hCk;have HWb:Hid (wb=_):=hwb;have HLt:Hid (w.heap.size+1<w1.heap.size):=hlt;obtain⟨⟨c0,c1,c2,c3⟩,hz⟩:=HZ.out w1 HB1.out;have HCk:Hid (∀ W,Bm w1.heap.size wb W->Chk w g w1.heap.size W):=hCk;have HU:Hid (UM wb w1.heap.size g 0):=hU;obtain⟨_,_,⟨e0,e1,e2,e3⟩,_,_⟩:=hCk wb (Bm.refl _ _);clear hlt hU hCk hwb hz;have HC4:Hid (∀ W,Bm w1.heap.size wb W->Im4 W w.heap.size g):=λW hW=>(HCk.out W hW).im4
  have HKw:Hid (∀ W t,Bm w1.heap.size wb W->Ans 16 #[.agg #[.slice g.ta g.ts.length g.tc,.slice g.fa g.fs.length g.fc,.slice g.ma g.ms.length g.mc,.int .i64 g.en],.int .i64 t] W (.int .i64 (zag g t))):=λW t hW=>HKn.out HF.out W t (HCk.out W hW).bel
  have HCw:Hid (∀ W (i:Nat),Bm w1.heap.size wb W->zag g (i:Int)=0->Ans 17 #[.agg #[.slice g.ta g.ts.length g.tc,.slice g.fa g.fs.length g.fc,.slice g.ma g.ms.length g.mc,.int .i64 g.en],.int .i64 (i:Int)] W (.bool (zaf (flI g (i:Int)) 4||zev g (i:Int)))):=λW i hW hk=>HCl.out HF.out W i (HCk.out W hW).bel hk
  have HMw:Hid (∀ W u,Bm w1.heap.size wb W->Calls Tryz.prog 18 #[.agg #[.slice g.ta g.ts.length g.tc,.slice g.fa g.fs.length g.fc,.slice g.ma g.ms.length g.mc,.int .i64 g.en],.int .i64 u] W λe w'=>∃ v,e=.returned v/\OwnI w' W.heap.size v (zat g u)/\Below W.heap.size W w'):=λW u hW=>HMt.out HF.out W u (HCk.out W hW).bel
  have HWw:Hid (∀ W c k,Bm w1.heap.size wb W->UM W w1.heap.size g c->c<=500000->∀ hk:k<g.ms.length,Calls Tryz.prog 15 #[.agg #[.slice g.ta g.ts.length g.tc,.slice g.fa g.fs.length g.fc,.slice g.ma g.ms.length g.mc,.int .i64 g.en,.map (some w1.heap.size)],.int .i64 (k:Nat)] W λe w'=>e=.returned (.int .i64 (za8 g g.ms[k]))/\Bm w1.heap.size W w'/\UM w' w1.heap.size g (c+200)):=λW c k hW hU hc hk=>HWn.out W _ c k HF.out (HCk.out W hW).bel (by have:=HLt.out;omega) hU hc hk
  have HMx:Hid (∀ W q (hq:q<g.ms.length),Ans 19 #[mdV g.ms[q]] W (.bool (ziB g.ms[q]))):=HMb.out HF.out;have HFin:Hid (∀ W a b,Bm w1.heap.size wb W->(∀ o,W.cell? ⟨w.heap.size+1,o,none⟩=spZ[o]?)/\(∀ o,W.frozen? ⟨w.heap.size+1,o,none⟩=false)/\(∀ o,((W.setCell ⟨w.heap.size+1,0,none⟩ a).setCell ⟨w.heap.size+1,1,none⟩ b).cell? ⟨w.heap.size+1,o,none⟩=(#[a,b]:Array Value)[o]?)/\Below w.heap.size w ((W.setCell ⟨w.heap.size+1,0,none⟩ a).setCell ⟨w.heap.size+1,1,none⟩ b)):=λW a b hW=>by
   have h:=(HCk.out W hW).sp;refine⟨h.cell,h.melt, ?_,zdQ (HCk.out W hW).bel (by omega) _ _⟩
   exact (At.setZ (show At W (w.heap.size+1) #[.int .i64 0,.int .i64 0] 31 from h) a b).cell
  have hln:=HLn.out HF.out;obtain⟨hn1,hn2,hn3⟩:=hln;clear HLn HWn HKn HCl HMt HMb HBx HZ;go_wp2_with (rw[<- HWb.out])
  clear c0 c1 c2 c3 e0 e1 e2 e3 hmm HW0 HWb;go_loopw [5,6,19] (λ_ _ z wr=>∃ i:Nat,i<=g.ms.length/\z=.int .i64 i/\Hid (Bm w1.heap.size wb wr)/\Hid (UM wr w1.heap.size g (i * 200))/\Hid (∀ j (hj:j<g.ms.length),j<i->za8 g g.ms[j]=0)) (λ_ _ z _=>g.ms.length - (intOf z).toNat)
  case atStart=>exact⟨0,Nat.zero_le _,rfl,Bm.refl _ _,HU.out,(show ∀ j (hj:j<g.ms.length),j<0->_ from λj hj h=>absurd h (by omega))⟩
  case round =>
   obtain⟨i,hil0,rfl,HB,HUr,HA⟩:=hrel;by_cases hil:i<g.ms.length
   ·have hii:(i:Int)<(g.ms.length:Int):=by omega
    have HWi:Hid _:=HWw.out wr (i * 200) i HB.out HUr.out (by omega) hil
    have HBd:Hid (za8 g g.ms[i]≠0->R=(1,(i:Int),za8 g g.ms[i])):=λh=>HR1.out HF.out i hil (λj hj=>HA.out j (by omega) hj) h
    have HGd:Hid (za8 g g.ms[i]=0->∀ j (hj:j<g.ms.length),j<i+1->za8 g g.ms[j]=0):=λh j hj hji=>by
     by_cases hjj:j=i
     ·subst hjj;exact h
     ·exact HA.out j hj (by omega)
    obtain⟨u0,u1,u2,u3,u4⟩:=(HCk.out wr HB.out).us;clear HUr HA;generalize za8 g g.ms[i]=er at *;go_wp2_with fail
    refine Calls.mono HWi.out ?_;rintro e w3 ⟨rfl,hb3,hu3⟩;have HB3:Hid (Bm w1.heap.size wb w3):=HB.out.trans hb3;have HU3:Hid (UM w3 w1.heap.size g ((i+1) * 200)):=hu3.mono (by omega)
    clear hb3 hu3 HWi u0 u1 u2 u3 u4 HB;by_cases he:er=0
    ·subst he;have HA2:Hid _:=HGd.out rfl;go_wp2_with fail
     go_roundw
     case rel=>exact⟨i+1,by omega,by go_num,HB3.out,HU3.out,HA2.out⟩
     case measure=>simp[intOf] <;> omega
    ·have HR:Hid (R=_):=HBd.out he;have heb:(er != 0)=true:=by simpa using he
     obtain⟨d0,dm,HFc,hbf⟩:=HFin.out w3 (.int .i64 1) (.int .i64 i) HB3.out;have HBf:Hid _:=hbf;unfold spZ at d0;clear he hbf HBd HGd;go_wp2_with fail
     exact bodyPost_ret (v:=.tuple #[.agg #[.int .i64 1,.int .i64 i],.int .i64 er]) (by simp[results,Tryz.results7,go_sem,HFc]) rfl ⟨by rw[HR.out],HBf.out⟩
   ·have hii:¬ (i:Int)<(g.ms.length:Int):=by omega
    have HAm:Hid (∀ j (hj:j<g.ms.length),za8 g g.ms[j]=0):=λj hj=>HA.out j hj (by omega)
    obtain⟨e0,e1,e2,e3⟩:=HC4.out wr HB.out;have HBc:Hid (Bm w1.heap.size wb wr):=HB.out;clear HUr HA HB HR1;go_wp2_with fail
    clear e0 e1 e2 e3;obtain⟨wo,hwo⟩:∃ W,W=wr:=⟨_,rfl⟩;subst hwo;go_loopw [7,34] (λ_ z wr=>∃ i:Nat,i<=g.ts.length/\z=.int .i64 i/\Hid (Bm w1.heap.size wb wr)/\Hid (∀ j<i,zcz g (j:Int)=false)) (λ_ z _=>g.ts.length - (intOf z).toNat)
    case atStart=>exact⟨0,Nat.zero_le _,rfl,HBc.out,(show ∀ j<0,_ from λj hj=>absurd hj (by omega))⟩
    case round =>
     obtain⟨i,hil0,rfl,HB,HA⟩:=hrel;by_cases hil:i<g.ts.length
     ·have hii:(i:Int)<(g.ts.length:Int):=by omega
      have HKi:Hid (∀ W,Bm w1.heap.size wb W->Ans 16 _ W (.int .i64 (zag g (i:Int)))):=λW hW=>HKw.out W (i:Int) hW
      have HCi:Hid (∀ W,Bm w1.heap.size wb W->zag g (i:Int)=0->Ans 17 _ W (.bool (zaf (flI g (i:Int)) 4||zev g (i:Int)))):=λW hW hk=>HCw.out W i hW hk
      have HBC:Hid (zcz g (i:Int)=(decide (zag g (i:Int)=0)&&!(zaf (flI g (i:Int)) 4||zev g (i:Int)))):=by
       show _=_;unfold zcz;rw[Bool.not_or]
      have HBd:Hid (zcz g (i:Int)=true->R=(0,(i:Int),18)):=λh=>HR2.out HF.out HAm.out i hil HA.out h
      have HGd:Hid (zcz g (i:Int)=false->∀ j<i+1,zcz g (j:Int)=false):=λh j hji=>by
       by_cases hjj:j=i
       ·subst hjj;exact h
       ·exact HA.out j (by omega)
      clear HA;generalize zcz g (i:Int)=bc at *;generalize (zaf (flI g (i:Int)) 4||zev g (i:Int))=cw at *
      generalize zag g (i:Int)=kn at *;by_cases hkn:kn=0
      ·have HKn0:Hid (kn=0):=hkn;subst hkn;obtain⟨e0,e1,e2,e3⟩:=HC4.out wr HB.out;go_wp2_with fail
       refine Calls.mono (HKi.out wr HB.out) ?_;rintro e w3 ⟨rfl,hb3⟩;have hB3:Bm w1.heap.size wb w3:=HB.out.trans (Bm.of hb3);clear e0 e1 e2 e3;obtain⟨e0,e1,e2,e3⟩:=HC4.out w3 hB3;go_wp2_with fail
       refine Calls.mono (HCi.out w3 hB3 (by trivial)) ?_
       rintro e w4 ⟨rfl,hb4⟩;have hB4:Bm w1.heap.size wb w4:=hB3.trans (Bm.of hb4);clear e0 e1 e2 e3;have HB4:Hid (Bm w1.heap.size wb w4):=hB4;clear hB4 hb4 hB3 hb3
       cases cw with
       | true =>
        have HA2:Hid _:=HGd.out (by rw[HBC.out];rfl)
        go_wp2_with fail
        go_roundw
        case rel=>exact⟨i+1,by omega,by go_num,HB4.out,HA2.out⟩
        case measure=>simp[intOf] <;> omega
       | false =>
        have HR:Hid (R=_):=HBd.out (by rw[HBC.out];rfl)
        obtain⟨d0,dm,HFc,hbf⟩:=HFin.out w4 (.int .i64 0) (.int .i64 i) HB4.out;have HBf:Hid _:=hbf;unfold spZ at d0;clear hbf HBd HGd;go_wp2_with fail
        exact bodyPost_ret (v:=.tuple #[.agg #[.int .i64 0,.int .i64 i],.int .i64 18]) (by simp[results,Tryz.results7,go_sem,HFc]) rfl ⟨by rw[HR.out],HBf.out⟩
      ·have hkb:(kn==0)=false:=by simpa using hkn
       have HA2:Hid _:=HGd.out (by rw[HBC.out,decide_eq_false hkn];rfl)
       clear hkn HBd HGd;obtain⟨e0,e1,e2,e3⟩:=HC4.out wr HB.out;go_wp2_with fail
       refine Calls.mono (HKi.out wr HB.out) ?_;rintro e w3 ⟨rfl,hb3⟩;have hB3:Bm w1.heap.size wb w3:=HB.out.trans (Bm.of hb3);clear e0 e1 e2 e3;have HB3:Hid (Bm w1.heap.size wb w3):=hB3;clear hB3 hb3;go_wp2_with fail
       go_roundw
       case rel=>exact⟨i+1,by omega,by go_num,HB3.out,HA2.out⟩
       case measure=>simp[intOf] <;> omega
     ·have hii:¬ (i:Int)<(g.ts.length:Int):=by omega
      have HAc:Hid (∀ j<g.ts.length,zcz g (j:Int)=false):=λj hj=>HA.out j (by omega)
      obtain⟨e0,e1,e2,e3⟩:=HC4.out wr HB.out;have HBe:Hid (Bm w1.heap.size wb wr):=HB.out;clear HA HB HR2 HBc HCw;go_wp2_with fail
      clear e0 e1 e2 e3;obtain⟨wo2,hwo2⟩:∃ W,W=wr:=⟨_,rfl⟩;subst hwo2;go_loopw [8,53] (λ_ z wr=>∃ i:Nat,i<=g.ts.length/\z=.int .i64 i/\Hid (Bm w1.heap.size wb wr)/\Hid (∀ j<i,zep g (j:Int)=false)) (λ_ z _=>g.ts.length - (intOf z).toNat)
      case atStart=>exact⟨0,Nat.zero_le _,rfl,HBe.out,(show ∀ j<0,_ from λj hj=>absurd hj (by omega))⟩
      case round =>
       obtain⟨i,hil0,rfl,HB,HA⟩:=hrel;by_cases hil:i<g.ts.length
       ·have hii:(i:Int)<(g.ts.length:Int):=by omega
        have HKi:Hid (∀ W,Bm w1.heap.size wb W->Ans 16 _ W (.int .i64 (zag g (i:Int)))):=λW hW=>HKw.out W (i:Int) hW
        have HMi:Hid _:=λW hW=>HMw.out W (i:Int) hW
        have HBD:Hid (zep g (i:Int)=(decide (zag g (i:Int)=3)&&decide (zat g (i:Int)=[]))):=rfl;have HBd:Hid (zep g (i:Int)=true->R=(0,(i:Int),8)):=λh=>HR3.out HF.out HAm.out HAc.out i hil HA.out h
        have HGd:Hid (zep g (i:Int)=false->∀ j<i+1,zep g (j:Int)=false):=λh j hji=>by
         by_cases hjj:j=i
         ·subst hjj;exact h
         ·exact HA.out j (by omega)
        clear HA;generalize zep g (i:Int)=bd at *;generalize zat g (i:Int)=M at *;generalize zag g (i:Int)=kn at *;by_cases hkn:kn=3
        ·have HKn0:Hid (kn=3):=hkn;have hml:((M.length:Int)==0)=decide (M=[]):=zb1 _;generalize decide (M=[])=mn at *;subst hkn;obtain⟨e0,e1,e2,e3⟩:=HC4.out wr HB.out;go_wp2_with fail
         refine Calls.mono (HKi.out wr HB.out) ?_;rintro e w3 ⟨rfl,hb3⟩;have hB3:Bm w1.heap.size wb w3:=HB.out.trans (Bm.of hb3);clear e0 e1 e2 e3;obtain⟨e0,e1,e2,e3⟩:=HC4.out w3 hB3;go_wp2_with fail
         refine Calls.mono (HMi.out w3 hB3) ?_;rintro e w4 ⟨v4,rfl,ho4,hb4⟩;have hB4:Bm w1.heap.size wb w4:=hB3.trans (Bm.of hb4);obtain⟨va,vc,hvv,_,_⟩:=ho4.is.shape;subst hvv;clear e0 e1 e2 e3;have HB4:Hid (Bm w1.heap.size wb w4):=hB4;clear hB4 hb4 hB3 hb3 ho4
         cases mn with
         | false =>
          have HA2:Hid _:=HGd.out (by rw[HBD.out];rfl)
          go_wp2_with fail
          go_roundw
          case rel=>exact⟨i+1,by omega,by go_num,HB4.out,HA2.out⟩
          case measure=>simp[intOf] <;> omega
         | true =>
          have HR:Hid (R=_):=HBd.out (by rw[HBD.out];rfl)
          obtain⟨d0,dm,HFc,hbf⟩:=HFin.out w4 (.int .i64 0) (.int .i64 i) HB4.out;have HBf:Hid _:=hbf;unfold spZ at d0;clear hbf HBd HGd;go_wp2_with fail
          exact bodyPost_ret (v:=.tuple #[.agg #[.int .i64 0,.int .i64 i],.int .i64 8]) (by simp[results,Tryz.results7,go_sem,HFc]) rfl ⟨by rw[HR.out],HBf.out⟩
        ·have hkb:(kn==3)=false:=by simpa using hkn
         have HA2:Hid _:=HGd.out (by rw[HBD.out,decide_eq_false hkn];rfl)
         clear hkn HBd HGd;obtain⟨e0,e1,e2,e3⟩:=HC4.out wr HB.out;go_wp2_with fail
         refine Calls.mono (HKi.out wr HB.out) ?_;rintro e w3 ⟨rfl,hb3⟩;have hB3:Bm w1.heap.size wb w3:=HB.out.trans (Bm.of hb3);clear e0 e1 e2 e3;have HB3:Hid (Bm w1.heap.size wb w3):=hB3;clear hB3 hb3;go_wp2_with fail
         go_roundw
         case rel=>exact⟨i+1,by omega,by go_num,HB3.out,HA2.out⟩
         case measure=>simp[intOf] <;> omega
       ·have hii:¬ (i:Int)<(g.ts.length:Int):=by omega
        have HR5:Hid (R=if zhE g=false then (1,g.en,11) else (0,0,0)):=HR4.out HF.out HAm.out HAc.out (λj hj=>HA.out j (by omega))
        obtain⟨e0,e1,e2,e3⟩:=HC4.out wr HB.out;clear HA HR3 HR4 HBe HMw HKw HWw
        rcases HEn.out HF.out with hen | ⟨q,hq,hen⟩
        ·have HEb:Hid (zhE g=true):=by
          show _=_;unfold zhE;rw[hen];rfl
         have HR:Hid (R=(0,0,0)):=by
          show _=_;rw[HR5.out,HEb.out];rfl
         obtain⟨d0,dm,HFc,hbf⟩:=HFin.out wr (.int .i64 0) (.int .i64 0) HB.out;have HBf:Hid _:=hbf;rw[hen]at e3;unfold spZ at d0;clear hbf hen HEb HR5 HEn;go_wp2_with fail
         exact bodyPost_ret (v:=.tuple #[.agg #[.int .i64 0,.int .i64 0],.int .i64 0]) (by simp[results,Tryz.results7,go_sem,HFc]) rfl ⟨by rw[HR.out],HBf.out⟩
        ·have HEb:Hid (zhE g=ziB g.ms[q]):=by
          show _=_;unfold zhE;rw[hen,decide_eq_false (by omega),Bool.false_or,Int.toNat_natCast,List.getElem?_eq_getElem hq]
         have hqi:(q:Int)<(g.ms.length:Int):=by omega
         obtain⟨mb,moff,hma,h3,h4,hcm⟩:=HMq.out q hq;have HMA:Hid (∀ W,Bm w1.heap.size wb W->MtA W mb (moff+q * 12) g.ms[q]):=λW hW=>hcm W (HCk.out W hW).bel q hq
         have HMxq:Hid (∀ W,Ans 19 #[mdV g.ms[q]] W (.bool (ziB g.ms[q]))):=λW=>HMx.out W q hq
         have HR6:Hid (R=if ziB g.ms[q]=false then (1,(q:Int),11) else (0,0,0)):=by
          show _=_;rw[HR5.out,HEb.out,hen]
         obtain⟨k0,k1,k2,k3,k4,k5,k6,k7,k8,k9,k10,k11⟩:=HMA.out wr HB.out;rw[hen]at e3;rw[hma]at e2;have HEn2:Hid (g.en=(q:Int)):=hen;have HMa2:Hid (g.ma=some ⟨mb,moff,none⟩):=hma;unfold maxLen at h4;unfold mdV at HMxq;clear hen hma hcm HEb HR5 HEn HMq HMx;generalize ziB g.ms[q]=bq at *;generalize g.ms[q]=x at *;go_wp2_with fail
         refine Calls.mono (HMxq.out wr) ?_;rintro e w5 ⟨rfl,hb5⟩;have HB5:Hid (Bm w1.heap.size wb w5):=HB.out.trans (Bm.of hb5);clear hb5 e0 e1 e2 e3 k0 k1 k2 k3 k4 k5 k6 k7 k8 k9 k10 k11;obtain⟨e0,e1,e2,e3⟩:=HC4.out w5 HB5.out;rw[HEn2.out]at e3
         cases bq with
         | true =>
          have HR:Hid (R=(0,0,0)):=by
           show _=_;rw[HR6.out,if_neg (by decide)]
          obtain⟨d0,dm,HFc,hbf⟩:=HFin.out w5 (.int .i64 0) (.int .i64 0) HB5.out;have HBf:Hid _:=hbf;unfold spZ at d0;clear hbf;go_wp2_with fail
          exact bodyPost_ret (v:=.tuple #[.agg #[.int .i64 0,.int .i64 0],.int .i64 0]) (by simp[results,Tryz.results7,go_sem,HFc]) rfl ⟨by rw[HR.out],HBf.out⟩
         | false =>
          have HR:Hid (R=(1,(q:Int),11)):=by
           show _=_;rw[HR6.out,if_pos rfl]
          obtain⟨d0,dm,HFc,hbf⟩:=HFin.out w5 (.int .i64 1) (.int .i64 q) HB5.out;have HBf:Hid _:=hbf;unfold spZ at d0;clear hbf;go_wp2_with fail
          exact bodyPost_ret (v:=.tuple #[.agg #[.int .i64 1,.int .i64 q],.int .i64 11]) (by simp[results,Tryz.results7,go_sem,HFc]) rfl ⟨by rw[HR.out],HBf.out⟩
end Go.Proofs.YtkedhjdipnhgdaaGreat

namespace Go.Proofs.YtkedhjdipnhgdaaGreat
set_option maxHeartbeats 16000000
set_option linter.all false
open RowKit
attribute [local go_sem ↓] wp_at_zero wp_at_succ
def mSo (cb:Nat) (nm:ByteArray) (ow:Int):MD:=⟨nm,ow,2,none,0,[],(1,0,0,false),none,0,[],0,some ⟨cb,0,none⟩,1,[(46,0,0,0,0,false)],none,0,[]⟩
def mzA:Array Value:=#[.string ⟨#[]⟩,.int .i64 0,.int .i64 0,.slice none 0 0,.int .i64 0,.int .i64 0,.int .i64 0,.bool false,.slice none 0 0,.int .i64 0,.slice none 0 0,.slice none 0 0]
theorem zpo {w:World} {vb rb cb:Nat} {nm:ByteArray} {ow:Int} (hv:At w vb #[.int .i64 1,.int .i64 0,.int .i64 0,.bool false] 47) (hr:At w rb #[.slice (some ⟨cb,0,none⟩) 1 1] 48) :
 Ans 29 #[.string nm,.int .i64 ow,.pointer (some ⟨vb,0,none⟩),.pointer (some ⟨rb,0,none⟩)] w (mdV (mSo cb nm ow)):=by
 obtain⟨w0,hw0⟩:∃ W,W=w.alloc (.cells mzA 51):=⟨_,rfl⟩;have HW0:Hid (w0=_):=hw0;have hb0:Below w.heap.size w w0:=by rw[hw0];exact zac _ _ _
 have HB0:Hid (Below w.heap.size w w0):=hb0;have hz:At w0 w.heap.size mzA 51:=by rw[hw0];exact At.made _ _ _
 have d0:=hz.cell;have dm:=hz.melt;have HFc:=((show At w0 w.heap.size #[.string ⟨#[]⟩,.int .i64 0,.int .i64 0,.slice none 0 0,.int .i64 0,.int .i64 0,.int .i64 0,.bool false,.slice none 0 0,.int .i64 0,.slice none 0 0,.slice none 0 0] 51 from hz).set12 (.string nm) (.int .i64 ow) (.int .i64 2) (.slice none 0 0) (.int .i64 1) (.int .i64 0) (.int .i64 0) (.bool false) (.slice none 0 0) (.int .i64 0) (.slice (some ⟨cb,0,none⟩) 1 1) (.slice none 0 0)).cell
 have v0:=(hv.later hb0).cell 0;have v1:=(hv.later hb0).cell 1;have v2:=(hv.later hb0).cell 2;have v3:=(hv.later hb0).cell 3;have r0:=(hr.later hb0).cell 0;simp at v0 v1 v2 v3 r0;unfold mzA at d0 HW0;clear hz hv hr hw0 hb0;go_enter Tryz.func29,Tryz.ntmps29;go_wp2_with (rw[<- HW0.out])
 exact bodyPost_ret (v:=mdV (mSo cb nm ow)) (by simp[results,Tryz.results29,go_sem,HFc,mdV,mSo]) rfl ⟨rfl,zeK HB0.out (Nat.le_refl _) _ _ _ _ _ _ _ _ _ _ _ _⟩
def gSo (t m:Option Addr) (cb:Nat):Img:=⟨t,2,[⟨⟨#[65]⟩,0, -1,none,0,[]⟩,⟨⟨#[66]⟩,0,0,none,0,[]⟩],none,0,[],m,3,[mSo cb ⟨#[102]⟩ 0,mSo cb ⟨#[103]⟩ 0,mSo cb ⟨#[103]⟩ 1], -1⟩
theorem zhi (t m:Option Addr) (cb:Nat):zao (gSo t m cb)=.agg #[.slice t 2 2,.slice none 0 0,.slice m 3 3,.int .i64 (-1)]:=by kernel_rfl
theorem ztk (t m:Option Addr) (cb:Nat):zb3 (gSo t m cb)=(0,0,0):=by kernel_rfl
theorem zpi (t m:Option Addr) (cb:Nat):zbc (gSo t m cb)=true:=by kernel_rfl
theorem zsS (t m:Option Addr) (cb:Nat):zq7 (gSo t m cb) 1=[0,2]:=by kernel_rfl
theorem ztC (t m:Option Addr) (cb:Nat):zaL (gSo t m cb) 1 1=2:=by kernel_rfl
theorem ztO (t m:Option Addr) (cb:Nat):zaL (gSo t m cb) 0 1=1:=by kernel_rfl
theorem zva (t m:Option Addr) (cb:Nat):zag (gSo t m cb) 1=0:=by kernel_rfl
theorem zuU (t m:Option Addr) (cb:Nat):zag (gSo t m cb) 0=0:=by kernel_rfl
theorem ztP (t m:Option Addr) (cb:Nat):zmn (gSo t m cb) 1 0=true:=by kernel_rfl
theorem zvm (t m:Option Addr) (cb:Nat):zmn (gSo t m cb) 0 0=true:=by kernel_rfl
theorem At.set4i {w:World} {g:Nat} {c0 c1 c2 c3:Value} {t:TypeId} (h:At w g #[c0,c1,c2,c3] t) (x0 x1 x2 x3:Value):At ((((w.setCell ⟨g,0,none⟩ x0).setCell ⟨g,1,none⟩ x1).setCell ⟨g,2,none⟩ x2).setCell ⟨g,3,none⟩ x3) g #[x0,x1,x2,x3] t:=by
 have:=(((h.set 0 x0).set 1 x1).set 2 x2).set 3 x3;simpa using this
theorem zm9 {w:World} {g k:Nat} (hk:k≠g) (x0 x1 x2 x3:Value):((((w.setCell ⟨g,0,none⟩ x0).setCell ⟨g,1,none⟩ x1).setCell ⟨g,2,none⟩ x2).setCell ⟨g,3,none⟩ x3).heap[k]? =w.heap[k]?:=by
 rw[Below.heap_setCell _ _ _ _ hk,Below.heap_setCell _ _ _ _ hk,Below.heap_setCell _ _ _ _ hk,Below.heap_setCell _ _ _ _ hk]
theorem zvd {w we:World} (h:we=((((w.alloc (.cells #[.slice none 0 0,.slice none 0 0,.slice none 0 0,.int .i64 0] 26)).alloc (.cells #[.int .i64 46,.int .i64 0,.int .i64 0,.int .i64 0,.int .i64 0,.bool false] 65)).alloc (.cells #[.int .i64 1,.int .i64 0,.int .i64 0,.bool false] 47)).alloc (.cells #[.slice (some ⟨w.heap.size+1,0,none⟩) 1 1] 48)).alloc (.cells #[.string ⟨#[65]⟩,.int .i64 0,.int .i64 (-1),.slice none 0 0,.string ⟨#[66]⟩,.int .i64 0,.int .i64 0,.slice none 0 0] 44)) :
 Below w.heap.size w we/\At we w.heap.size #[.slice none 0 0,.slice none 0 0,.slice none 0 0,.int .i64 0] 26/\At we (w.heap.size+1+1) #[.int .i64 1,.int .i64 0,.int .i64 0,.bool false] 47/\At we (w.heap.size+1+1+1) #[.slice (some ⟨w.heap.size+1,0,none⟩) 1 1] 48 /\
  Es zcv we (.slice (some ⟨w.heap.size+1,0,none⟩) 1 1) [(46,0,0,0,0,false)]/\Es tdE we (.slice (some ⟨w.heap.size+1+1+1+1,0,none⟩) 2 2) [⟨⟨#[65]⟩,0, -1,none,0,[]⟩,⟨⟨#[66]⟩,0,0,none,0,[]⟩]/\we.heap.size=w.heap.size+5:=by
 obtain⟨wa,ha⟩:∃ W,W=w.alloc (.cells #[.slice none 0 0,.slice none 0 0,.slice none 0 0,.int .i64 0] 26):=⟨_,rfl⟩;obtain⟨wb,hb⟩:∃ W,W=wa.alloc (.cells #[.int .i64 46,.int .i64 0,.int .i64 0,.int .i64 0,.int .i64 0,.bool false] 65):=⟨_,rfl⟩;obtain⟨wc,hc⟩:∃ W,W=wb.alloc (.cells #[.int .i64 1,.int .i64 0,.int .i64 0,.bool false] 47):=⟨_,rfl⟩;obtain⟨wd,hd⟩:∃ W,W=wc.alloc (.cells #[.slice (some ⟨w.heap.size+1,0,none⟩) 1 1] 48):=⟨_,rfl⟩;have he:we=wd.alloc (.cells #[.string ⟨#[65]⟩,.int .i64 0,.int .i64 (-1),.slice none 0 0,.string ⟨#[66]⟩,.int .i64 0,.int .i64 0,.slice none 0 0] 44):=by rw[h,hd,hc,hb,ha]
 have sa:wa.heap.size=w.heap.size+1:=by rw[ha];simp
 have sb:wb.heap.size=w.heap.size+1+1:=by rw[hb];simp[sa]
 have sc:wc.heap.size=w.heap.size+1+1+1:=by rw[hc];simp[sb]
 have sd:wd.heap.size=w.heap.size+1+1+1+1:=by rw[hd];simp[sc]
 have se:we.heap.size=w.heap.size+5:=by rw[he];simp[sd]
 have ba:Below w.heap.size w wa:=by rw[ha];exact zac _ _ _
 have bb:Below wa.heap.size wa wb:=by rw[hb];exact zac _ _ _
 have bc:Below wb.heap.size wb wc:=by rw[hc];exact zac _ _ _
 have bd:Below wc.heap.size wc wd:=by rw[hd];exact zac _ _ _
 have be:Below wd.heap.size wd we:=by rw[he];exact zac _ _ _
 have aa:At wa w.heap.size #[.slice none 0 0,.slice none 0 0,.slice none 0 0,.int .i64 0] 26:=by rw[ha];exact At.made _ _ _
 have ac:At wc wb.heap.size #[.int .i64 1,.int .i64 0,.int .i64 0,.bool false] 47:=by rw[hc];exact At.made _ _ _
 have ad:At wd wc.heap.size #[.slice (some ⟨w.heap.size+1,0,none⟩) 1 1] 48:=by rw[hd];exact At.made _ _ _
 have eb:Es zcv wb (.slice (some ⟨wa.heap.size,0,none⟩) 1 1) [(46,0,0,0,0,false)]:=by
  rw[hb];exact (OwnE.lit zcv wa 0 65 [(46,0,0,0,0,false)] _ 1 (Nat.zero_le _) rfl rfl (by simp[maxLen])).es
 have ee:Es tdE we (.slice (some ⟨wd.heap.size,0,none⟩) 2 2) [⟨⟨#[65]⟩,0, -1,none,0,[]⟩,⟨⟨#[66]⟩,0,0,none,0,[]⟩]:=by
  rw[he];exact (OwnE.lit tdE wd 0 44 [⟨⟨#[65]⟩,0, -1,none,0,[]⟩,⟨⟨#[66]⟩,0,0,none,0,[]⟩] _ 2 (Nat.zero_le _) rfl rfl (by simp[maxLen])).es
 rw[sa]at eb;rw[sb]at ac;rw[sc]at ad;rw[sd]at ee;have bbe:=zaa bb (zaa bc (zaa bd be));exact⟨zaa ba bbe,aa.later bbe,ac.later (zaa bd be),ad.later be,eb.later (zaa bc (zaa bd be)),ee,se⟩
theorem zvK {w w4 w5:World} {n cb tb:Nat} (h4:Below n w w4) (hn:n=w.heap.size) (hA:At w4 n #[.slice none 0 0,.slice none 0 0,.slice none 0 0,.int .i64 0] 26) (hC:Es zcv w4 (.slice (some ⟨cb,0,none⟩) 1 1) [(46,0,0,0,0,false)]) (hT:Es tdE w4 (.slice (some ⟨tb,0,none⟩) 2 2) [⟨⟨#[65]⟩,0, -1,none,0,[]⟩,⟨⟨#[66]⟩,0,0,none,0,[]⟩])
 (hc:cb≠n) (ht:tb≠n) (h5:w5=w4.alloc (.cells #[.string ⟨#[102]⟩,.int .i64 0,.int .i64 2,.slice none 0 0,.int .i64 1,.int .i64 0,.int .i64 0,.bool false,.slice none 0 0,.int .i64 0,.slice (some ⟨cb,0,none⟩) 1 1,.slice none 0 0,.string ⟨#[103]⟩,.int .i64 0,.int .i64 2,.slice none 0 0,.int .i64 1,.int .i64 0,.int .i64 0,.bool false,.slice none 0 0,.int .i64 0,.slice (some ⟨cb,0,none⟩) 1 1,.slice none 0 0,.string ⟨#[103]⟩,.int .i64 1,.int .i64 2,.slice none 0 0,.int .i64 1,.int .i64 0,.int .i64 0,.bool false,.slice none 0 0,.int .i64 0,.slice (some ⟨cb,0,none⟩) 1 1,.slice none 0 0] 51)) :
 At w5 n #[.slice none 0 0,.slice none 0 0,.slice none 0 0,.int .i64 0] 26/\∀ x0 x1 x2 x3,Im ((((w5.setCell ⟨n,0,none⟩ x0).setCell ⟨n,1,none⟩ x1).setCell ⟨n,2,none⟩ x2).setCell ⟨n,3,none⟩ x3) (gSo (some ⟨tb,0,none⟩) (some ⟨w4.heap.size,0,none⟩) cb)/\Below n w ((((w5.setCell ⟨n,0,none⟩ x0).setCell ⟨n,1,none⟩ x1).setCell ⟨n,2,none⟩ x2).setCell ⟨n,3,none⟩ x3):=by
 have hb5:Below w4.heap.size w4 w5:=by rw[h5];exact zac _ _ _
 have hlt:=hA.lt;have hM:Es mdE w5 (.slice (some ⟨w4.heap.size,0,none⟩) 3 3) [mSo cb ⟨#[102]⟩ 0,mSo cb ⟨#[103]⟩ 0,mSo cb ⟨#[103]⟩ 1]:=by
  rw[h5];exact (OwnE.lit mdE w4 0 51 [mSo cb ⟨#[102]⟩ 0,mSo cb ⟨#[103]⟩ 0,mSo cb ⟨#[103]⟩ 1] _ 3 (Nat.zero_le _) rfl rfl (by simp[maxLen])).es
 refine⟨hA.later hb5,λx0 x1 x2 x3=>⟨?_,zdN (h4.trans (hb5.mono (Nat.le_of_lt hlt))) (Nat.le_refl _) _ _ _ _⟩⟩
 obtain⟨wF,hF⟩:∃ W,W=(((w5.setCell ⟨n,0,none⟩ x0).setCell ⟨n,1,none⟩ x1).setCell ⟨n,2,none⟩ x2).setCell ⟨n,3,none⟩ x3:=⟨_,rfl⟩;rw[<- hF];have hsz:wF.heap.size=w5.heap.size:=by rw[hF];simp
 have hk:∀ k,k≠n->wF.heap[k]? =w5.heap[k]?:=λk hk=>by rw[hF];exact zm9 hk _ _ _ _
 have hC5:Es zcv wF (.slice (some ⟨cb,0,none⟩) 1 1) [(46,0,0,0,0,false)]:=(hC.later hb5).of_block (Nat.le_of_eq hsz.symm) (λk e _=>hk k (by simp[Value.ownBlock]at e;omega))
 have hok:∀ nm ow,(mSo cb nm ow).ok wF:=λnm ow=>⟨Es.nil _ _,Es.nil _ _,hC5,Es.nil _ _⟩
 refine⟨(hT.later hb5).of_block (Nat.le_of_eq hsz.symm) (λk e _=>hk k (by simp[Value.ownBlock]at e;omega)),λx hx=>?_,Es.nil _ _,hM.of_block (Nat.le_of_eq hsz.symm) (λk e _=>hk k (by simp[Value.ownBlock]at e;omega)),λx hx=>?_⟩
 ·simp only[gSo,List.mem_cons,List.not_mem_nil,or_false]at hx
  rcases hx with rfl | rfl <;> exact Es.nil _ _
 ·simp only[gSo,List.mem_cons,List.not_mem_nil,or_false]at hx
  rcases hx with rfl | rfl | rfl <;> exact hok _ _
set_option maxRecDepth 20000 in
theorem zno (w:World):Calls Tryz.prog 10 #[] w λe w'=>∃ t m cb,e=.returned (.agg #[.slice t 2 2,.slice none 0 0,.slice m 3 3,.int .i64 (-1)])/\Im w' (gSo t m cb)/\Below w.heap.size w w':=by
 obtain⟨we,hwe⟩:∃ W,W=((((w.alloc (.cells #[.slice none 0 0,.slice none 0 0,.slice none 0 0,.int .i64 0] 26)).alloc (.cells #[.int .i64 46,.int .i64 0,.int .i64 0,.int .i64 0,.int .i64 0,.bool false] 65)).alloc (.cells #[.int .i64 1,.int .i64 0,.int .i64 0,.bool false] 47)).alloc (.cells #[.slice (some ⟨w.heap.size+1,0,none⟩) 1 1] 48)).alloc (.cells #[.string ⟨#[65]⟩,.int .i64 0,.int .i64 (-1),.slice none 0 0,.string ⟨#[66]⟩,.int .i64 0,.int .i64 0,.slice none 0 0] 44):=⟨_,rfl⟩;obtain⟨hbe,hA,hV,hR,hC,hT,hse⟩:=zvd hwe;have HWe:Hid (we=_):=hwe;have HBe:Hid (Below w.heap.size w we):=hbe;have HM:Hid (∀ W nm ow,Below we.heap.size we W->Ans 29 #[.string nm,.int .i64 ow,.pointer (some ⟨w.heap.size+1+1,0,none⟩),.pointer (some ⟨w.heap.size+1+1+1,0,none⟩)] W (mdV (mSo (w.heap.size+1) nm ow))):=λW nm ow hW=>zpo (hV.later hW) (hR.later hW)
 have HE:Hid (∀ w4 w5,Below we.heap.size we w4->w5=_->_):=λw4 w5 h4 h5=>zvK (n:=w.heap.size) (cb:=w.heap.size+1) (tb:=w.heap.size+1+1+1+1) (zaa hbe h4) rfl (hA.later h4) (hC.later h4) (hT.later h4) (by omega) (by omega) h5
 unfold mdV mSo at HM;clear hwe hbe hA hV hR hC hT hse;go_enter Tryz.func10,Tryz.ntmps10;go_wp2_with (rw[<- HWe.out])
 refine Calls.mono (HM.out we _ _ (Below.refl _ _)) ?_;rintro e w1 ⟨rfl,hb1⟩;have HB1:Hid (Below we.heap.size we w1):=hb1;clear hb1;go_wp2_with fail
 refine Calls.mono (HM.out w1 _ _ HB1.out) ?_;rintro e w2 ⟨rfl,hb2⟩;have HB2:Hid (Below we.heap.size we w2):=zaa HB1.out hb2;clear hb2;go_wp2_with fail
 refine Calls.mono (HM.out w2 _ _ HB2.out) ?_;rintro e w3 ⟨rfl,hb3⟩;have HB3:Hid (Below we.heap.size we w3):=zaa HB2.out hb3;clear hb3;obtain⟨w5,hw5⟩:∃ W,W=w3.alloc (.cells #[.string ⟨#[102]⟩,.int .i64 0,.int .i64 2,.slice none 0 0,.int .i64 1,.int .i64 0,.int .i64 0,.bool false,.slice none 0 0,.int .i64 0,.slice (some ⟨w.heap.size+1,0,none⟩) 1 1,.slice none 0 0,.string ⟨#[103]⟩,.int .i64 0,.int .i64 2,.slice none 0 0,.int .i64 1,.int .i64 0,.int .i64 0,.bool false,.slice none 0 0,.int .i64 0,.slice (some ⟨w.heap.size+1,0,none⟩) 1 1,.slice none 0 0,.string ⟨#[103]⟩,.int .i64 1,.int .i64 2,.slice none 0 0,.int .i64 1,.int .i64 0,.int .i64 0,.bool false,.slice none 0 0,.int .i64 0,.slice (some ⟨w.heap.size+1,0,none⟩) 1 1,.slice none 0 0] 51):=⟨_,rfl⟩;obtain⟨hA5,hEnd⟩:=HE.out w3 w5 HB3.out hw5;have HW5:Hid (w5=_):=hw5;have HEn:Hid _:=hEnd;have d0:=hA5.cell;have dm:=hA5.melt;have HFc:=(At.set4i hA5 (.slice (some ⟨w.heap.size+1+1+1+1,0,none⟩) 2 2) (.slice none 0 0) (.slice (some ⟨w3.heap.size,0,none⟩) 3 3) (.int .i64 (-1))).cell;clear hA5 hEnd hw5;go_wp2_with (rw[<- HW5.out])
 obtain⟨hIm,hBl⟩:=HEn.out (.slice (some ⟨w.heap.size+1+1+1+1,0,none⟩) 2 2) (.slice none 0 0) (.slice (some ⟨w3.heap.size,0,none⟩) 3 3) (.int .i64 (-1));exact bodyPost_ret (v:=.agg #[.slice (some ⟨w.heap.size+1+1+1+1,0,none⟩) 2 2,.slice none 0 0,.slice (some ⟨w3.heap.size,0,none⟩) 3 3,.int .i64 (-1)]) (by simp[results,Tryz.results10,go_sem,HFc]) rfl ⟨_,_,_,rfl,hIm,hBl⟩
end Go.Proofs.YtkedhjdipnhgdaaGreat
