import Derived.Test.YtkedhjdipnhgdaaGreatR50
import Derived.Test.YtkedhjdipnhgdaaGreatR49
import Derived.Test.YtkedhjdipnhgdaaGreatR51
import Derived.Test.YtkedhjdipnhgdaaGreatR48
namespace Go.Proofs.YtkedhjdipnhgdaaGreat
set_option maxHeartbeats 16000000
set_option linter.all false
open RowKit
attribute [local go_sem ↓] wp_at_zero wp_at_succ
theorem zs5 {g:Img} {x:MD} (h:za8 g x=0):zdZ g x=true/\ziM g x=true:=by
 unfold za8 at h
 cases h1:zdZ g x with
 | false=>rw[h1,if_pos rfl]at h;omega
 | true =>
  rw[h1,if_neg (by decide)]at h
  cases h2:ziM g x with
  | false=>rw[h2,if_pos rfl]at h;omega
  | true=>exact⟨rfl,rfl⟩
theorem znN {g:Img} (hw:zaY g=true) (ha:∀ j (hj:j<g.ms.length),za8 g g.ms[j]=0) (t:Int):zcz g t=(decide (zag g t=0)&&(!zaf (flI g t) 4&&!zc1 g t)):=by
 unfold zcz;by_cases hk:zag g t=0
 ·rw[zqv hw hk (λj hj=>(zs5 (ha j hj)).1)]
  rfl
 ·rw[decide_eq_false hk];rfl
theorem zp0 {w:World} {g:Img} (hg:Im w g):∃ w0,Hid (w0=(w.alloc (.cells #[.slice g.ta g.ts.length g.tc,.slice g.fa g.fs.length g.fc,.slice g.ma g.ms.length g.mc,.int .i64 g.en] 26)).alloc (.cells #[.int .i64 0,.int .i64 0] 31))/\Hid (Below w.heap.size w w0)/\Hid (∀ W,Below w0.heap.size w0 W->Im4 W w.heap.size g)/\Hid (∀ W,Below w0.heap.size w0 W->Im W g) /\
 Hid (∀ W x y,Below w0.heap.size w0 W->(∀ o,W.cell? ⟨w.heap.size+1,o,none⟩=(#[.int .i64 0,.int .i64 0]:Array Value)[o]?)/\(∀ o,W.frozen? ⟨w.heap.size+1,o,none⟩=false)/\(∀ o,((W.setCell ⟨w.heap.size+1,0,none⟩ x).setCell ⟨w.heap.size+1,1,none⟩ y).cell? ⟨w.heap.size+1,o,none⟩=(#[x,y]:Array Value)[o]?)/\Below w.heap.size w ((W.setCell ⟨w.heap.size+1,0,none⟩ x).setCell ⟨w.heap.size+1,1,none⟩ y)):=by
 obtain⟨w0,hw0⟩:∃ W,W=(w.alloc (.cells (imC g) 26)).alloc (.cells #[.int .i64 0,.int .i64 0] 31):=⟨_,rfl⟩;obtain⟨hb0,hat⟩:=zan hw0;refine⟨w0,hw0,hb0,λW hW=>?_,λW hW=>hg.later (zaa hb0 hW),λW x y hW=>?_⟩
 ·obtain⟨h1,h2⟩:=hat W hW;exact⟨h1.cell 0,h1.cell 1,h1.cell 2,h1.cell 3⟩
 ·obtain⟨h1,h2⟩:=hat W hW;exact⟨h2.cell,h2.melt,(At.setZ h2 x y).cell,zdQ (zaa hb0 hW) (by omega) _ _⟩
abbrev zu7:Oper:=⟨some 20,.load 26 (.tmp 1),26,"ref.go:183",#[],none⟩
abbrev ztA:Oper:=⟨some 21,.fieldAddr 26 (.tmp 1) 2,0,"ref.go:183",#[],none⟩
abbrev zu6:Oper:=⟨some 22,.load 24 (.tmp 21),24,"ref.go:183",#[⟨1,.data⟩],none⟩
abbrev zt7:Oper:=⟨some 23,.move (.tmp 4),3,"ref.go:183",#[],none⟩
abbrev zuK:Oper:=⟨some 24,.indexAddr 24 (.tmp 22) (.tmp 23),0,"ref.go:183",#[⟨2,.data⟩,⟨3,.data⟩],none⟩
abbrev zuu:Oper:=⟨some 25,.load 51 (.tmp 24),51,"ref.go:183",#[⟨4,.data⟩],none⟩
abbrev zuO:Oper:=⟨some 26,.call ⟨.value (.func 21),#[.tmp 20,.tmp 25],#[26,51]⟩,4,"ref.go:183",#[⟨0,.data⟩,⟨5,.data⟩],none⟩
abbrev zuB:Oper:=⟨some 27,.unOp .not 4 (.tmp 26),4,"ref.go:183",#[⟨6,.data⟩],none⟩
abbrev zuS:Oper:=⟨some 30,.load 26 (.tmp 1),26,"ref.go:186",#[],none⟩
abbrev zvo:Oper:=⟨some 31,.fieldAddr 26 (.tmp 1) 2,0,"ref.go:186",#[],none⟩
abbrev zvc:Oper:=⟨some 32,.load 24 (.tmp 31),24,"ref.go:186",#[⟨1,.data⟩],none⟩
abbrev ztM:Oper:=⟨some 33,.move (.tmp 4),3,"ref.go:186",#[],none⟩
abbrev zvp:Oper:=⟨some 34,.indexAddr 24 (.tmp 32) (.tmp 33),0,"ref.go:186",#[⟨2,.data⟩,⟨3,.data⟩],none⟩
abbrev zuL:Oper:=⟨some 35,.load 51 (.tmp 34),51,"ref.go:186",#[⟨4,.data⟩],none⟩
abbrev ztV:Oper:=⟨some 36,.call ⟨.value (.func 22),#[.tmp 30,.tmp 35],#[26,51]⟩,4,"ref.go:186",#[⟨0,.data⟩,⟨5,.data⟩],none⟩
abbrev zuy:Oper:=⟨some 37,.unOp .not 4 (.tmp 36),4,"ref.go:186",#[⟨6,.data⟩],none⟩
set_option maxRecDepth 20000 in
theorem zfL {g:Img} {w:World} (hg:Im w g) (hnm:g.nmOk):Ans 8 #[zao g] w (.tuple #[.agg #[.int .i64 (zb3 g).1,.int .i64 (zb3 g).2.1],.int .i64 (zb3 g).2.2]):=by
 obtain⟨w0,HW0,HB0,HC,HI,HFin⟩:=zp0 hg;have hwe:zbc g=true->zaY g=true:=λh=>(Fin_.of h).wel
 have him:zbc g=true->imB g=true:=λh=>(Wel.of (hwe h)).im
 have HFi:Hid (Ans 20 #[zao g] w0 (.bool (zbc g))):=zgF (HI.out w0 (Below.refl _ _)) hnm;have HFl:Hid (zbc g=true->∀ W q (hq:q<g.ms.length),Below w0.heap.size w0 W->Ans 21 #[zao g,mdV g.ms[q]] W (.bool (zdZ g g.ms[q]))):=λhf W q hq hW=>zgr (HI.out W hW) (him hf) (zav (him hf) hq) (by
  have:=zgH (him hf) (m:=(q:Int)) (zai.2 (by omega))
  rwa [za2 hq]at this)
 have HTy:Hid (zbc g=true->∀ W q (hq:q<g.ms.length),Below w0.heap.size w0 W->Ans 22 #[zao g,mdV g.ms[q]] W (.bool (ziM g g.ms[q]))):=λhf W q hq hW=>zfK (HI.out W hW) (him hf) ((HI.out W hW).mok _ (List.getElem_mem hq)) (zr9 (him hf) hq) (zrY (him hf) hq)
 have HKn:Hid (zbc g=true->∀ W t,Below w0.heap.size w0 W->Ans 23 #[zao g,.int .i64 t] W (.int .i64 (zag g t))):=λhf W t hW=>zaF t (HI.out W hW) (FlOk.of (him hf))
 have HWh:Hid (zbc g=true->∀ W t,Below w0.heap.size w0 W->zag g t=0->Ans 24 #[zao g,.int .i64 t] W (.bool (zc1 g t))):=λhf W t hW hk=>zfC (HI.out W hW) (hwe hf) hk
 have HMt:Hid (zbc g=true->∀ W u,Below w0.heap.size w0 W->Calls Tryz.prog 25 #[zao g,.int .i64 u] W λe w'=>∃ v,e=.returned v/\OwnI w' W.heap.size v (zat g u)/\Below W.heap.size W w'):=λhf W u hW=>zaU (HI.out W hW) (him hf)
 have HBi:Hid (zbc g=true->∀ W q (hq:q<g.ms.length),Ans 26 #[mdV g.ms[q],.int .i64 1] W (.bool (zaf g.ms[q].fl 1))/\Ans 26 #[mdV g.ms[q],.int .i64 4] W (.bool (zaf g.ms[q].fl 4))):=λhf W q hq=>⟨(zbs g.ms[q] (zav (him hf) hq) W).1,(zbs g.ms[q] (zav (him hf) hq) W).2.2.1⟩
 have HEn:Hid (zbc g=true->g.en = -1∨∃ q:Nat,q<g.ms.length/\g.en=(q:Int)):=λhf=>zlw (him hf)
 have HLn:Hid (zbc g=true->g.ts.length<=32/\g.fs.length<=64/\g.ms.length<=64):=λhf=>zax (him hf)
 have HTf:Hid (zbc g=true->∀ (q:Nat) (hq:q<g.ts.length),(0<=g.ts[q].fl/\g.ts[q].fl<=31)/\(g.ts[q].fl / 4).tmod 2=(if zaf (flI g (q:Int)) 4=true then 1 else 0)):=λhf q hq=>by
  have h:=FlOk.of (him hf) _ (List.getElem_mem hq);refine⟨h, ?_⟩;rw[zek hq];exact zeC (k:=4) h (by omega)
 have HR0:Hid (zbc g=false->zb3 g=(0,0,17)):=zob;have HR1:Hid (zbc g=true->∀ (i:Nat) (hi:i<g.ms.length),(∀ j (hj:j<i),za8 g g.ms[j]=0)->za8 g g.ms[i]≠0->zb3 g=(1,(i:Int),za8 g g.ms[i])):=λh i hi=>zo8 h hi
 have HR2:Hid (zbc g=true->(∀ j (hj:j<g.ms.length),za8 g g.ms[j]=0)->∀ i:Nat,i<g.ts.length->(∀ j<i,zcz g (j:Int)=false)->zcz g (i:Int)=true->zb3 g=(0,(i:Int),18)):=λh ha i hi=>zpI h ha hi
 have HR3:Hid (zbc g=true->(∀ j (hj:j<g.ms.length),za8 g g.ms[j]=0)->(∀ j<g.ts.length,zcz g (j:Int)=false)->∀ i:Nat,i<g.ts.length->(∀ j<i,zep g (j:Int)=false)->zep g (i:Int)=true->zb3 g=(0,(i:Int),8)):=λh ha hb i hi=>zo0 h ha hb hi
 have HR4:Hid (zbc g=true->(∀ j (hj:j<g.ms.length),za8 g g.ms[j]=0)->(∀ j<g.ts.length,zcz g (j:Int)=false)->(∀ j<g.ts.length,zep g (j:Int)=false)->zb3 g=if zhE g=false then (1,g.en,11) else (0,0,0)):=λh ha hb hc=>zpH h ha hb hc
 have HBC:Hid (zbc g=true->(∀ j (hj:j<g.ms.length),za8 g g.ms[j]=0)->∀ t,zcz g t=(decide (zag g t=0)&&(!zaf (flI g t) 4&&!zc1 g t))):=λhf ha t=>znN (hwe hf) ha t
 have HMq:Hid (∀ (q:Nat) (hq:q<g.ms.length),∃ mb moff,g.ma=some ⟨mb,moff,none⟩/\g.ms.length<=g.mc/\g.mc<=maxLen/\∀ W,Below w0.heap.size w0 W->MtA W mb (moff+q * 12) g.ms[q]):=λq hq=>by
  obtain⟨mb,moff,h1,h2,h3,h4⟩:=(HI.out w0 (Below.refl _ _)).mth hq;exact⟨mb,moff,h1,h2,h3,λW hW=>h4 W hW q hq⟩
 have HTq:Hid (∀ (q:Nat) (hq:q<g.ts.length),∃ tb off,g.ta=some ⟨tb,off,none⟩/\g.ts.length<=g.tc/\g.tc<=maxLen/\∀ W,Below w0.heap.size w0 W->W.cell? ⟨tb,off+q * 4+1,none⟩=some (.int .i64 g.ts[q].fl)):=λq hq=>(HI.out w0 (Below.refl _ _)).typ hq
 have HE:Hid (∀ (q:Nat) (hq:q<g.ms.length),za8 g g.ms[q]=if zdZ g g.ms[q]=false then 8 else if ziM g g.ms[q]=false then 10 else 0):=λq hq=>rfl
 have HEb:Hid (∀ q:Nat,∀ hq:q<g.ms.length,g.en=(q:Int)->zhE g=ziB g.ms[q]):=λq hq hen=>by
  unfold zhE;rw[hen,decide_eq_false (by omega),Bool.false_or,Int.toNat_natCast,List.getElem?_eq_getElem hq]
 have HEm:Hid (g.en = -1->zhE g=true):=λhen=>by unfold zhE;rw[hen];rfl
 generalize zb3 g=R at *;generalize zhE g=eb at *;unfold zao at HFi HFl HTy HKn HWh HMt ⊢;unfold mdV at HFl HTy HBi;unfold Im4 at HC;clear hg hnm hwe him HI;generalize g.ta=ta at *;generalize g.ma=ma at *;generalize g.en=en at *;obtain⟨c0,c1,c2,c3⟩:=HC.out w0 (Below.refl _ _);go_enter Tryz.func8,Tryz.ntmps8;go_wp2_with (rw[<- HW0.out])
 refine Calls.mono HFi.out ?_;rintro e w1 ⟨rfl,hb1⟩;have HB1:Hid (Below w0.heap.size w0 w1):=hb1;clear hb1 c0 c1 c2 c3 HFi HW0
 rcases Bool.eq_false_or_eq_true (zbc g) with hfi | hfi
 rotate_left
 ·rw[hfi];have HR:Hid (R=(0,0,17)):=HR0.out hfi;obtain⟨d0,dm,HFc,hbf⟩:=HFin.out w1 (.int .i64 0) (.int .i64 0) HB1.out;have HBf:Hid _:=hbf;clear hfi hbf;go_wp2_with fail
  exact bodyPost_ret (v:=.tuple #[.agg #[.int .i64 0,.int .i64 0],.int .i64 17]) (by simp[results,Tryz.results8,go_sem,HFc]) rfl ⟨by rw[HR.out],HBf.out⟩
 rw[hfi];have HFl2:Hid _:=HFl.out hfi;have HTy2:Hid _:=HTy.out hfi;have HKn2:Hid _:=HKn.out hfi;have HWh2:Hid _:=HWh.out hfi;have HMt2:Hid _:=HMt.out hfi;have HBi2:Hid _:=HBi.out hfi;have HR12:Hid _:=HR1.out hfi;have HR22:Hid _:=HR2.out hfi;have HR32:Hid _:=HR3.out hfi;have HR42:Hid _:=HR4.out hfi;have HBC2:Hid _:=HBC.out hfi;have HTf2:Hid _:=HTf.out hfi;have HEn2:Hid _:=HEn.out hfi;obtain⟨hn1,hn2,hn3⟩:=HLn.out hfi;clear hfi HFl HTy HKn HWh HMt HBi HR0 HR1 HR2 HR3 HR4 HBC HTf HEn HLn;go_wp2_with fail
 go_loopw [4] (λz wr=>∃ i:Nat,i<=g.ms.length/\z=.int .i64 i/\Hid (Below w0.heap.size w0 wr)/\Hid (∀ j (hj:j<g.ms.length),j<i->za8 g g.ms[j]=0)) (λz _=>g.ms.length - (intOf z).toNat)
 case atStart=>exact⟨0,Nat.zero_le _,rfl,HB1.out,(show ∀ j (hj:j<g.ms.length),j<0->_ from λj hj h=>absurd h (by omega))⟩
 case round =>
  obtain⟨i,hil0,rfl,HB,HA⟩:=hrel;by_cases hil:i<g.ms.length
  ·have hii:(i:Int)<(g.ms.length:Int):=by omega
   obtain⟨mb,moff,hma,h3,h4,hcm⟩:=HMq.out i hil;have HMA:Hid (∀ W,Below w0.heap.size w0 W->MtA W mb (moff+i * 12) g.ms[i]):=hcm;have HFi:Hid _:=λ (W:World) (hW:Below w0.heap.size w0 W)=>HFl2.out W i hil hW
   have HTi:Hid _:=λ (W:World) (hW:Below w0.heap.size w0 W)=>HTy2.out W i hil hW
   have HBd:Hid (za8 g g.ms[i]≠0->R=(1,(i:Int),za8 g g.ms[i])):=λh=>HR12.out i hil (λj hj=>HA.out j (by omega) hj) h
   have HGd:Hid (za8 g g.ms[i]=0->∀ j (hj:j<g.ms.length),j<i+1->za8 g g.ms[j]=0):=λh j hj hji=>by
    by_cases hjj:j=i
    ·subst hjj;exact h
    ·exact HA.out j hj (by omega)
   have HEi:Hid (za8 g g.ms[i]=_):=HE.out i hil;subst hma;have HKi:Hid (∀ W,Below wr.heap.size wr W->(W.cell? ⟨w.heap.size,0,none⟩=some (.slice ta g.ts.length g.tc)/\W.cell? ⟨w.heap.size,1,none⟩=some (.slice g.fa g.fs.length g.fc)/\W.cell? ⟨w.heap.size,2,none⟩=some (.slice (some ⟨mb,moff,none⟩) g.ms.length g.mc)/\W.cell? ⟨w.heap.size,3,none⟩=some (.int .i64 en))/\MtA W mb (moff+i * 12) g.ms[i]):=λW hW=>⟨HC.out W (zaa HB.out hW),HMA.out W (zaa HB.out hW)⟩
   obtain⟨c0,c1,c2,c3⟩:=HC.out wr HB.out;unfold maxLen at h4;clear hcm HA HMA;generalize za8 g g.ms[i]=er at *;generalize zdZ g g.ms[i]=fb at *;generalize ziM g g.ms[i]=tb at *;generalize g.ms[i]=x at *;go_wp2_with fail
   clear c0 c1 c2 c3
   cases fb with
   | false =>
    refine wp_region_held_drew (S:=(λW=>(W.cell? ⟨w.heap.size,0,none⟩=some (.slice ta g.ts.length g.tc)/\W.cell? ⟨w.heap.size,1,none⟩=some (.slice g.fa g.fs.length g.fc)/\W.cell? ⟨w.heap.size,2,none⟩=some (.slice (some ⟨mb,moff,none⟩) g.ms.length g.mc)/\W.cell? ⟨w.heap.size,3,none⟩=some (.int .i64 en))/\MtA W mb (moff+i * 12) x)) (by kernel_rfl) (HKi.out _ (zad _)) (λyb=>?_)
    refine tY 0 zu7 (.agg #[.slice ta g.ts.length g.tc,.slice g.fa g.fs.length g.fc,.slice (some ⟨mb,moff,none⟩) g.ms.length g.mc,.int .i64 en]) yb ?_;refine tY 1 ztA (.pointer (some ⟨w.heap.size,2,none⟩)) yb ?_;refine tY 2 zu6 (.slice (some ⟨mb,moff,none⟩) g.ms.length g.mc) yb ?_;refine tY 3 zt7 (.int .i64 (i:Int)) yb ?_;refine tY 4 zuK (.pointer (some ⟨mb,moff+i * 12,none⟩)) yb ?_;refine tY 5 zuu (.agg #[.string x.nm,.int .i64 x.ow,.int .i64 x.fl,.slice x.pa x.ps.length x.pc,.int .i64 x.rt.1,.int .i64 x.rt.2.1,.int .i64 x.rt.2.2.1,.bool x.rt.2.2.2,.slice x.la x.ls.length x.lc,.int .i64 x.mx,.slice x.ca x.co.length x.cc,.slice x.ka x.cl.length x.kc]) yb ?_;refine wpAnyH_ready (rs:=[6]) (by kernel_rfl) (by simp) ?_
    refine AllReadyH.cons (o:=zuO) rfl (λK hK=>?_) AllReadyH.nil
    go_simp
    refine (HFi.out _ (zaa HB.out (zad _))).mono ?_;rintro e w3 ⟨rfl,hz3⟩;have hB3:Below wr.heap.size wr w3:=zaa (zad _) hz3
    try go_wp2_with fail
    refine hK.out _ _ (HKi.out _ hB3) (λyb=>?_)
    clear hK K
    try simp only[Act.put,sA,s0,sS]
    refine tY 7 zuB (.bool true) yb ?_;refine wpAnyH_done (by kernel_rfl) ?_ _
    have HB3:Hid (Below w0.heap.size w0 w3):=zaa HB.out hB3;have HR:Hid (R=(1,(i:Int),8)):=by
     have h8:er=8:=HEi.out;have:=HBd.out (by rw[h8];decide)
     rw[h8]at this;exact this
    obtain⟨d0,dm,HFc,hbf⟩:=HFin.out w3 (.int .i64 1) (.int .i64 i) HB3.out;have HBf:Hid _:=hbf;clear hz3 hB3 hbf HBd HGd HEi;go_wp2_with fail
    exact bodyPost_ret (v:=.tuple #[.agg #[.int .i64 1,.int .i64 i],.int .i64 8]) (by simp[results,Tryz.results8,go_sem,HFc]) rfl ⟨by rw[HR.out],HBf.out⟩
   | true =>
    refine wp_region_held_drew (S:=(λW=>(W.cell? ⟨w.heap.size,0,none⟩=some (.slice ta g.ts.length g.tc)/\W.cell? ⟨w.heap.size,1,none⟩=some (.slice g.fa g.fs.length g.fc)/\W.cell? ⟨w.heap.size,2,none⟩=some (.slice (some ⟨mb,moff,none⟩) g.ms.length g.mc)/\W.cell? ⟨w.heap.size,3,none⟩=some (.int .i64 en))/\MtA W mb (moff+i * 12) x)) (by kernel_rfl) (HKi.out _ (zad _)) (λyb=>?_)
    refine tY 0 zu7 (.agg #[.slice ta g.ts.length g.tc,.slice g.fa g.fs.length g.fc,.slice (some ⟨mb,moff,none⟩) g.ms.length g.mc,.int .i64 en]) yb ?_;refine tY 1 ztA (.pointer (some ⟨w.heap.size,2,none⟩)) yb ?_;refine tY 2 zu6 (.slice (some ⟨mb,moff,none⟩) g.ms.length g.mc) yb ?_;refine tY 3 zt7 (.int .i64 (i:Int)) yb ?_;refine tY 4 zuK (.pointer (some ⟨mb,moff+i * 12,none⟩)) yb ?_;refine tY 5 zuu (.agg #[.string x.nm,.int .i64 x.ow,.int .i64 x.fl,.slice x.pa x.ps.length x.pc,.int .i64 x.rt.1,.int .i64 x.rt.2.1,.int .i64 x.rt.2.2.1,.bool x.rt.2.2.2,.slice x.la x.ls.length x.lc,.int .i64 x.mx,.slice x.ca x.co.length x.cc,.slice x.ka x.cl.length x.kc]) yb ?_;refine wpAnyH_ready (rs:=[6]) (by kernel_rfl) (by simp) ?_
    refine AllReadyH.cons (o:=zuO) rfl (λK hK=>?_) AllReadyH.nil
    go_simp
    refine (HFi.out _ (zaa HB.out (zad _))).mono ?_;rintro e w3 ⟨rfl,hz3⟩;have hB3:Below wr.heap.size wr w3:=zaa (zad _) hz3
    try go_wp2_with fail
    refine hK.out _ _ (HKi.out _ hB3) (λyb=>?_)
    clear hK K
    try simp only[Act.put,sA,s0,sS]
    refine tY 7 zuB (.bool false) yb ?_;refine wpAnyH_done (by kernel_rfl) ?_ _
    have HB3:Hid (Below wr.heap.size wr w3):=hB3;have HK3:Hid (∀ W,Below w3.heap.size w3 W->(W.cell? ⟨w.heap.size,0,none⟩=some (.slice ta g.ts.length g.tc)/\W.cell? ⟨w.heap.size,1,none⟩=some (.slice g.fa g.fs.length g.fc)/\W.cell? ⟨w.heap.size,2,none⟩=some (.slice (some ⟨mb,moff,none⟩) g.ms.length g.mc)/\W.cell? ⟨w.heap.size,3,none⟩=some (.int .i64 en))/\MtA W mb (moff+i * 12) x):=λW hW=>HKi.out W (zaa HB3.out hW)
    clear hz3 hB3;go_wp2_with fail
    cases tb with
    | false =>
     refine wp_region_held_drew (S:=(λW=>(W.cell? ⟨w.heap.size,0,none⟩=some (.slice ta g.ts.length g.tc)/\W.cell? ⟨w.heap.size,1,none⟩=some (.slice g.fa g.fs.length g.fc)/\W.cell? ⟨w.heap.size,2,none⟩=some (.slice (some ⟨mb,moff,none⟩) g.ms.length g.mc)/\W.cell? ⟨w.heap.size,3,none⟩=some (.int .i64 en))/\MtA W mb (moff+i * 12) x)) (by kernel_rfl) (HK3.out _ (zad _)) (λyb=>?_)
     refine tY 0 zuS (.agg #[.slice ta g.ts.length g.tc,.slice g.fa g.fs.length g.fc,.slice (some ⟨mb,moff,none⟩) g.ms.length g.mc,.int .i64 en]) yb ?_;refine tY 1 zvo (.pointer (some ⟨w.heap.size,2,none⟩)) yb ?_;refine tY 2 zvc (.slice (some ⟨mb,moff,none⟩) g.ms.length g.mc) yb ?_;refine tY 3 ztM (.int .i64 (i:Int)) yb ?_;refine tY 4 zvp (.pointer (some ⟨mb,moff+i * 12,none⟩)) yb ?_;refine tY 5 zuL (.agg #[.string x.nm,.int .i64 x.ow,.int .i64 x.fl,.slice x.pa x.ps.length x.pc,.int .i64 x.rt.1,.int .i64 x.rt.2.1,.int .i64 x.rt.2.2.1,.bool x.rt.2.2.2,.slice x.la x.ls.length x.lc,.int .i64 x.mx,.slice x.ca x.co.length x.cc,.slice x.ka x.cl.length x.kc]) yb ?_;refine wpAnyH_ready (rs:=[6]) (by kernel_rfl) (by simp) ?_
     refine AllReadyH.cons (o:=ztV) rfl (λK hK=>?_) AllReadyH.nil
     go_simp
     refine (HTi.out _ (zaa HB.out (zaa HB3.out (zad _)))).mono ?_;rintro e w4 ⟨rfl,hz4⟩;have hB4:Below w3.heap.size w3 w4:=zaa (zad _) hz4
     try go_wp2_with fail
     refine hK.out _ _ (HK3.out _ hB4) (λyb=>?_)
     clear hK K
     try simp only[Act.put,sA,s0,sS]
     refine tY 7 zuy (.bool true) yb ?_;refine wpAnyH_done (by kernel_rfl) ?_ _
     have HB4:Hid (Below w0.heap.size w0 w4):=zaa HB.out (zaa HB3.out hB4);have HR:Hid (R=(1,(i:Int),10)):=by
      have h8:er=10:=HEi.out;have:=HBd.out (by rw[h8];decide)
      rw[h8]at this;exact this
     obtain⟨d0,dm,HFc,hbf⟩:=HFin.out w4 (.int .i64 1) (.int .i64 i) HB4.out;have HBf:Hid _:=hbf;clear hz4 hB4 hbf HBd HGd HEi;go_wp2_with fail
     exact bodyPost_ret (v:=.tuple #[.agg #[.int .i64 1,.int .i64 i],.int .i64 10]) (by simp[results,Tryz.results8,go_sem,HFc]) rfl ⟨by rw[HR.out],HBf.out⟩
    | true =>
     refine wp_region_held_drew (S:=(λW=>(W.cell? ⟨w.heap.size,0,none⟩=some (.slice ta g.ts.length g.tc)/\W.cell? ⟨w.heap.size,1,none⟩=some (.slice g.fa g.fs.length g.fc)/\W.cell? ⟨w.heap.size,2,none⟩=some (.slice (some ⟨mb,moff,none⟩) g.ms.length g.mc)/\W.cell? ⟨w.heap.size,3,none⟩=some (.int .i64 en))/\MtA W mb (moff+i * 12) x)) (by kernel_rfl) (HK3.out _ (zad _)) (λyb=>?_)
     refine tY 0 zuS (.agg #[.slice ta g.ts.length g.tc,.slice g.fa g.fs.length g.fc,.slice (some ⟨mb,moff,none⟩) g.ms.length g.mc,.int .i64 en]) yb ?_;refine tY 1 zvo (.pointer (some ⟨w.heap.size,2,none⟩)) yb ?_;refine tY 2 zvc (.slice (some ⟨mb,moff,none⟩) g.ms.length g.mc) yb ?_;refine tY 3 ztM (.int .i64 (i:Int)) yb ?_;refine tY 4 zvp (.pointer (some ⟨mb,moff+i * 12,none⟩)) yb ?_;refine tY 5 zuL (.agg #[.string x.nm,.int .i64 x.ow,.int .i64 x.fl,.slice x.pa x.ps.length x.pc,.int .i64 x.rt.1,.int .i64 x.rt.2.1,.int .i64 x.rt.2.2.1,.bool x.rt.2.2.2,.slice x.la x.ls.length x.lc,.int .i64 x.mx,.slice x.ca x.co.length x.cc,.slice x.ka x.cl.length x.kc]) yb ?_;refine wpAnyH_ready (rs:=[6]) (by kernel_rfl) (by simp) ?_
     refine AllReadyH.cons (o:=ztV) rfl (λK hK=>?_) AllReadyH.nil
     go_simp
     refine (HTi.out _ (zaa HB.out (zaa HB3.out (zad _)))).mono ?_;rintro e w4 ⟨rfl,hz4⟩;have hB4:Below w3.heap.size w3 w4:=zaa (zad _) hz4
     try go_wp2_with fail
     refine hK.out _ _ (HK3.out _ hB4) (λyb=>?_)
     clear hK K
     try simp only[Act.put,sA,s0,sS]
     refine tY 7 zuy (.bool false) yb ?_;refine wpAnyH_done (by kernel_rfl) ?_ _
     have HB4:Hid (Below w0.heap.size w0 w4):=zaa HB.out (zaa HB3.out hB4);have HA2:Hid _:=HGd.out HEi.out;clear hz4 hB4 HBd HGd HEi;go_wp2_with fail
     go_roundw
     case rel=>exact⟨i+1,by omega,by go_num,HB4.out,HA2.out⟩
     case measure=>simp[intOf] <;> omega
  ·have hii:¬ (i:Int)<(g.ms.length:Int):=by omega
   have HAm:Hid (∀ j (hj:j<g.ms.length),za8 g g.ms[j]=0):=λj hj=>HA.out j hj (by omega)
   have HBC3:Hid _:=HBC2.out HAm.out;have HR23:Hid _:=HR22.out HAm.out;have HR33:Hid _:=HR32.out HAm.out;have HR43:Hid _:=HR42.out HAm.out;have HBc:Hid (Below w0.heap.size w0 wr):=HB.out;obtain⟨c0,c1,c2,c3⟩:=HC.out wr HB.out;clear HA HAm HB HR12 HR22 HR32 HR42 HBC2 HFl2 HTy2 HE;go_wp2_with fail
   clear c0 c1 c2 c3;obtain⟨wo,hwo⟩:∃ W,W=wr:=⟨_,rfl⟩;subst hwo;go_loopw [5] (λz wr=>∃ i:Nat,i<=g.ts.length/\z=.int .i64 i/\Hid (Below w0.heap.size w0 wr)/\Hid (∀ j<i,zcz g (j:Int)=false)) (λz _=>g.ts.length - (intOf z).toNat)
   case atStart=>exact⟨0,Nat.zero_le _,rfl,HBc.out,(show ∀ j<0,_ from λj hj=>absurd hj (by omega))⟩
   case round =>
    obtain⟨i,hil0,rfl,HB,HA⟩:=hrel;by_cases hil:i<g.ts.length
    ·have hii:(i:Int)<(g.ts.length:Int):=by omega
     obtain⟨tb,off,hta,h3,h4,hcf⟩:=HTq.out i hil;have HTi:Hid (∀ W,Below w0.heap.size w0 W->W.cell? ⟨tb,off+i * 4+1,none⟩=some (.int .i64 g.ts[i].fl)):=hcf;obtain⟨htf,hqt⟩:=HTf2.out i hil;have HQt:Hid _:=hqt;have HKi:Hid _:=λ (W:World) (hW:Below w0.heap.size w0 W)=>HKn2.out W (i:Int) hW
     have HWi:Hid _:=λ (W:World) (hW:Below w0.heap.size w0 W)=>HWh2.out W (i:Int) hW
     have HBC4:Hid (zcz g (i:Int)=_):=HBC3.out (i:Int);have HBd:Hid (zcz g (i:Int)=true->R=(0,(i:Int),18)):=λh=>HR23.out i hil HA.out h
     have HGd:Hid (zcz g (i:Int)=false->∀ j<i+1,zcz g (j:Int)=false):=λh j hji=>by
      by_cases hjj:j=i
      ·subst hjj;exact h
      ·exact HA.out j (by omega)
     subst hta;unfold maxLen at h4;clear HA hcf hqt;generalize zcz g (i:Int)=bc at *;generalize zaf (flI g (i:Int)) 4=ab at *;generalize zc1 g (i:Int)=wh at *;generalize zag g (i:Int)=kn at *;generalize g.ts[i].fl=tf at *;obtain⟨c0,c1,c2,c3⟩:=HC.out wr HB.out;go_wp2_with fail
     refine Calls.mono (HKi.out wr HB.out) ?_;rintro e w3 ⟨rfl,hb3⟩;have HB3:Hid (Below w0.heap.size w0 w3):=zaa HB.out hb3;clear hb3 c0 c1 c2 c3;by_cases hkn:kn=0
     ·subst hkn;obtain⟨c0,c1,c2,c3⟩:=HC.out w3 HB3.out;have cf:=HTi.out w3 HB3.out;have hqe:tf / 4 % 2=(if ab=true then 1 else 0):=by
       have h:=HQt.out
       rwa [Int.tmod_eq_emod_of_nonneg (by omega)]at h
      cases ab with
      | true =>
       have hq1:tf / 4 % 2=1:=hqe;have HA2:Hid _:=HGd.out (by rw[HBC4.out];rfl)
       clear hqe HBd HGd HBC4;go_wp2_with fail
       go_roundw
       case rel=>exact⟨i+1,by omega,by go_num,HB3.out,HA2.out⟩
       case measure=>simp[intOf] <;> omega
      | false =>
       have hq0:tf / 4 % 2=0:=hqe;clear hqe;go_wp2_with fail
       refine Calls.mono (HWi.out w3 HB3.out (by trivial)) ?_
       rintro e w4 ⟨rfl,hb4⟩;have HB4:Hid (Below w0.heap.size w0 w4):=zaa HB3.out hb4;clear hb4 c0 c1 c2 c3 cf
       cases wh with
       | true =>
        have HA2:Hid _:=HGd.out (by rw[HBC4.out];rfl)
        clear HBd HGd HBC4;go_wp2_with fail
        go_roundw
        case rel=>exact⟨i+1,by omega,by go_num,HB4.out,HA2.out⟩
        case measure=>simp[intOf] <;> omega
       | false =>
        have HR:Hid (R=(0,(i:Int),18)):=HBd.out (by rw[HBC4.out];rfl)
        obtain⟨d0,dm,HFc,hbf⟩:=HFin.out w4 (.int .i64 0) (.int .i64 i) HB4.out;have HBf:Hid _:=hbf;clear hbf HBd HGd HBC4;go_wp2_with fail
        exact bodyPost_ret (v:=.tuple #[.agg #[.int .i64 0,.int .i64 i],.int .i64 18]) (by simp[results,Tryz.results8,go_sem,HFc]) rfl ⟨by rw[HR.out],HBf.out⟩
     ·have hkb:(kn==0)=false:=by simpa using hkn
      have HA2:Hid _:=HGd.out (by rw[HBC4.out,decide_eq_false hkn];rfl)
      clear hkn HBd HGd HBC4;go_wp2_with fail
      go_roundw
      case rel=>exact⟨i+1,by omega,by go_num,HB3.out,HA2.out⟩
      case measure=>simp[intOf] <;> omega
    ·have hii:¬ (i:Int)<(g.ts.length:Int):=by omega
     have HAc:Hid (∀ j<g.ts.length,zcz g (j:Int)=false):=λj hj=>HA.out j (by omega)
     have HR34:Hid _:=HR33.out HAc.out;have HR44:Hid _:=HR43.out HAc.out;have HBe:Hid (Below w0.heap.size w0 wr):=HB.out;obtain⟨c0,c1,c2,c3⟩:=HC.out wr HB.out;clear HA HB HAc HR23 HR33 HR43 HBC3 HWh2 HTf2 HTq HBc;go_wp2_with fail
     clear c0 c1 c2 c3;obtain⟨wo2,hwo2⟩:∃ W,W=wr:=⟨_,rfl⟩;subst hwo2;go_loopw [6] (λz wr=>∃ i:Nat,i<=g.ts.length/\z=.int .i64 i/\Hid (Below w0.heap.size w0 wr)/\Hid (∀ j<i,zep g (j:Int)=false)) (λz _=>g.ts.length - (intOf z).toNat)
     case atStart=>exact⟨0,Nat.zero_le _,rfl,HBe.out,(show ∀ j<0,_ from λj hj=>absurd hj (by omega))⟩
     case round =>
      obtain⟨i,hil0,rfl,HB,HA⟩:=hrel;by_cases hil:i<g.ts.length
      ·have hii:(i:Int)<(g.ts.length:Int):=by omega
       have HKi:Hid _:=λ (W:World) (hW:Below w0.heap.size w0 W)=>HKn2.out W (i:Int) hW
       have HMi:Hid _:=λ (W:World) (hW:Below w0.heap.size w0 W)=>HMt2.out W (i:Int) hW
       have HBD:Hid (zep g (i:Int)=(decide (zag g (i:Int)=3)&&decide (zat g (i:Int)=[]))):=rfl;have HBd:Hid (zep g (i:Int)=true->R=(0,(i:Int),8)):=λh=>HR34.out i hil HA.out h
       have HGd:Hid (zep g (i:Int)=false->∀ j<i+1,zep g (j:Int)=false):=λh j hji=>by
        by_cases hjj:j=i
        ·subst hjj;exact h
        ·exact HA.out j (by omega)
       clear HA;generalize zep g (i:Int)=bd at *;generalize zat g (i:Int)=M at *;generalize zag g (i:Int)=kn at *;obtain⟨c0,c1,c2,c3⟩:=HC.out wr HB.out;go_wp2_with fail
       refine Calls.mono (HKi.out wr HB.out) ?_;rintro e w3 ⟨rfl,hb3⟩;have HB3:Hid (Below w0.heap.size w0 w3):=zaa HB.out hb3;clear hb3 c0 c1 c2 c3;by_cases hkn:kn=3
       ·subst hkn;have hml:((M.length:Int)==0)=decide (M=[]):=zb1 _;generalize decide (M=[])=mn at *;obtain⟨c0,c1,c2,c3⟩:=HC.out w3 HB3.out;go_wp2_with fail
        refine Calls.mono (HMi.out w3 HB3.out) ?_;rintro e w4 ⟨v4,rfl,ho4,hb4⟩;have HB4:Hid (Below w0.heap.size w0 w4):=zaa HB3.out hb4;obtain⟨va,vc,hvv,_,_⟩:=ho4.is.shape;subst hvv;clear hb4 ho4 c0 c1 c2 c3
        cases mn with
        | false =>
         have HA2:Hid _:=HGd.out (by rw[HBD.out];rfl)
         clear HBd HGd HBD;go_wp2_with fail
         go_roundw
         case rel=>exact⟨i+1,by omega,by go_num,HB4.out,HA2.out⟩
         case measure=>simp[intOf] <;> omega
        | true =>
         have HR:Hid (R=(0,(i:Int),8)):=HBd.out (by rw[HBD.out];rfl)
         obtain⟨d0,dm,HFc,hbf⟩:=HFin.out w4 (.int .i64 0) (.int .i64 i) HB4.out;have HBf:Hid _:=hbf;clear hbf HBd HGd HBD;go_wp2_with fail
         exact bodyPost_ret (v:=.tuple #[.agg #[.int .i64 0,.int .i64 i],.int .i64 8]) (by simp[results,Tryz.results8,go_sem,HFc]) rfl ⟨by rw[HR.out],HBf.out⟩
       ·have hkb:(kn==3)=false:=by simpa using hkn
        have HA2:Hid _:=HGd.out (by rw[HBD.out,decide_eq_false hkn];rfl)
        clear hkn HBd HGd HBD;go_wp2_with fail
        go_roundw
        case rel=>exact⟨i+1,by omega,by go_num,HB3.out,HA2.out⟩
        case measure=>simp[intOf] <;> omega
      ·have hii:¬ (i:Int)<(g.ts.length:Int):=by omega
       have HR5:Hid (R=if eb=false then (1,en,11) else (0,0,0)):=HR44.out (λj hj=>HA.out j (by omega))
       have HBx:Hid (Below w0.heap.size w0 wr):=HB.out;clear HA HB HR34 HR44 HBe HMt2 HKn2;obtain⟨c0,c1,c2,c3⟩:=HC.out wr HBx.out
       rcases HEn2.out with hen | ⟨q,hq,hen⟩
       ·have HR:Hid (R=(0,0,0)):=by
         show _=_;rw[HR5.out,HEm.out hen];rfl
        subst hen;obtain⟨d0,dm,HFc,hbf⟩:=HFin.out wr (.int .i64 0) (.int .i64 0) HBx.out;have HBf:Hid _:=hbf;clear hbf HR5 HEn2 HEm HEb;go_wp2_with fail
        exact bodyPost_ret (v:=.tuple #[.agg #[.int .i64 0,.int .i64 0],.int .i64 0]) (by simp[results,Tryz.results8,go_sem,HFc]) rfl ⟨by rw[HR.out],HBf.out⟩
       ·have hqi:(q:Int)<(g.ms.length:Int):=by omega
        obtain⟨mb,moff,hma,h3,h4,hcm⟩:=HMq.out q hq;have HMA:Hid (∀ W,Below w0.heap.size w0 W->MtA W mb (moff+q * 12) g.ms[q]):=hcm;have HR6:Hid (R=if ziB g.ms[q]=false then (1,(q:Int),11) else (0,0,0)):=by
         show _=_;rw[HR5.out,HEb.out q hq hen,hen]
        have HBq:Hid _:=λ (W:World)=>HBi2.out W q hq
        obtain⟨wm,hwm⟩:∃ W,W=wr.alloc (.cells (mdA g.ms[q]) 51):=⟨_,rfl⟩;have hbm:Below wr.heap.size wr wm:=by rw[hwm];exact zac _ _ _
        have hat:At wm wr.heap.size (mdA g.ms[q]) 51:=by rw[hwm];exact At.made _ _ _
        have HMt:Hid (∀ W,Below wm.heap.size wm W->Mt W wr.heap.size g.ms[q]):=λW hW=>by
         have h:=hat.later hW;exact⟨h.cell 0,h.cell 1,h.cell 2,h.cell 3,h.cell 4,h.cell 5,h.cell 6,h.cell 7,h.cell 8,h.cell 9,h.cell 10,h.cell 11⟩
        have HBm:Hid (Below w0.heap.size w0 wm):=zaa HBx.out hbm;rw[hwm]at HMt HBm;subst hen;subst hma;obtain⟨k0,k1,k2,k3,k4,k5,k6,k7,k8,k9,k10,k11⟩:=HMA.out wr HBx.out;unfold maxLen at h4;unfold mdA at HMt HBm;have HBg:Hid (ziB g.ms[q]=(zaf g.ms[q].fl 1&&(decide (g.ms[q].ps=[])&&(!zaf g.ms[q].fl 4&&(decide (g.ms[q].rt.2.2.1=0)&&decide (1<=g.ms[q].rt.1/\g.ms[q].rt.1<=3)))))):=rfl;clear hcm HMA hwm hbm hat HR5 HEn2 HEm HEb HMq HBi2;generalize ziB g.ms[q]=bq at *;generalize zaf g.ms[q].fl 1=p1 at *;generalize zaf g.ms[q].fl 4=p4 at *;generalize g.ms[q]=x at *;go_upto_region 22 with fail
        go_cut [8] (λs8 wx=>s8=.bool (decide (x.rt.2.2.1=0)&&decide (1<=x.rt.1/\x.rt.1<=3))/\Hid (Below (wr.alloc (.cells #[.string x.nm,.int .i64 x.ow,.int .i64 x.fl,.slice x.pa x.ps.length x.pc,.int .i64 x.rt.1,.int .i64 x.rt.2.1,.int .i64 x.rt.2.2.1,.bool x.rt.2.2.2,.slice x.la x.ls.length x.lc,.int .i64 x.mx,.slice x.ca x.co.length x.cc,.slice x.ka x.cl.length x.kc] 51)).heap.size (wr.alloc (.cells #[.string x.nm,.int .i64 x.ow,.int .i64 x.fl,.slice x.pa x.ps.length x.pc,.int .i64 x.rt.1,.int .i64 x.rt.2.1,.int .i64 x.rt.2.2.1,.bool x.rt.2.2.2,.slice x.la x.ls.length x.lc,.int .i64 x.mx,.slice x.ca x.co.length x.cc,.slice x.ka x.cl.length x.kc] 51)) wx))
        case first =>
         have e3:decide (1<=x.rt.1/\x.rt.1<=3)=(decide (1<=x.rt.1)&&decide (x.rt.1<=3)):=by rw[Bool.eq_iff_iff];simp
         by_cases h0:x.rt.2.2.1=0
         ·have hb0:(x.rt.2.2.1==0)=true:=by simpa using h0
          by_cases h1:1<=x.rt.1
          ·by_cases h2:x.rt.1<=3
           ·(go_wp2_with fail;go_meet;exact⟨congrArg Value.bool (by rw[Bool.eq_iff_iff];simp <;> omega),(by show Below _ _ _;first | (exact Below.refl _ _) | (simp only[h0];exact Below.refl _ _))⟩)
           ·(go_wp2_with fail;go_meet;exact⟨congrArg Value.bool (by rw[Bool.eq_iff_iff];simp <;> omega),(by show Below _ _ _;first | (exact Below.refl _ _) | (simp only[h0];exact Below.refl _ _))⟩)
          ·(go_wp2_with fail;go_meet;exact⟨congrArg Value.bool (by rw[Bool.eq_iff_iff];simp <;> omega),(by show Below _ _ _;first | (exact Below.refl _ _) | (simp only[h0];exact Below.refl _ _))⟩)
         ·have hb0:(x.rt.2.2.1==0)=false:=by simpa using h0
          (go_wp2_with fail;go_meet;exact⟨congrArg Value.bool (by rw[Bool.eq_iff_iff];simp <;> omega),(by show Below _ _ _;first | (exact Below.refl _ _) | (simp only[h0];exact Below.refl _ _))⟩)
        case rest =>
        obtain⟨rfl,Hwc⟩:=hcut;have HBw:Hid (∀ W,Below wc.heap.size wc W->Below w0.heap.size w0 W/\Mt W wr.heap.size x):=λW hW=>⟨zaa HBm.out (zaa Hwc.out hW),HMt.out W (zaa Hwc.out hW)⟩
        have hpl:decide ((0:Int)<(x.ps.length:Int))=decide (x.ps≠[]):=zhJ _;have hpn:decide (x.ps≠[])=!decide (x.ps=[]):=by simp
        rw[hpn]at hpl;unfold Mt at HBw;clear hpn HMt HBm k0 k1 k2 k3 k4 k5 k6 k7 k8 k9 k10 k11 c0 c1 c2 c3;generalize (decide (x.rt.2.2.1=0)&&decide (1<=x.rt.1/\x.rt.1<=3))=pl at *;generalize decide (x.ps=[])=pn at *;obtain⟨_,k0,k1,k2,k3,k4,k5,k6,k7,k8,k9,k10,k11⟩:=HBw.out wc (Below.refl _ _);go_wp2_with fail
        refine Calls.mono (HBq.out wc).1 ?_;rintro e w5 ⟨rfl,hb5⟩;have HX5:Hid (Below wc.heap.size wc w5):=hb5;clear hb5 k0 k1 k2 k3 k4 k5 k6 k7 k8 k9 k10 k11
        cases p1 with
        | false =>
         have HR:Hid (R=(1,(q:Int),11)):=by
          show _=_;rw[HR6.out,HBg.out];rfl
         obtain⟨hbb,k0,k1,k2,k3,k4,k5,k6,k7,k8,k9,k10,k11⟩:=HBw.out w5 HX5.out;obtain⟨d0,dm,HFc,hbf⟩:=HFin.out w5 (.int .i64 1) (.int .i64 q) hbb;obtain⟨c0,c1,c2,c3⟩:=HC.out w5 hbb;have HBf:Hid _:=hbf;clear hbf hbb;go_wp2_with fail
         exact bodyPost_ret (v:=.tuple #[.agg #[.int .i64 1,.int .i64 q],.int .i64 11]) (by simp[results,Tryz.results8,go_sem,HFc]) rfl ⟨by rw[HR.out],HBf.out⟩
        | true =>
        obtain⟨_,k0,k1,k2,k3,k4,k5,k6,k7,k8,k9,k10,k11⟩:=HBw.out w5 HX5.out;go_wp2_with fail
        refine Calls.mono (HBq.out w5).2 ?_;rintro e w6 ⟨rfl,hb6⟩;have HX6:Hid (Below wc.heap.size wc w6):=zaa HX5.out hb6;clear hb6 k0 k1 k2 k3 k4 k5 k6 k7 k8 k9 k10 k11;obtain⟨hbb,k0,k1,k2,k3,k4,k5,k6,k7,k8,k9,k10,k11⟩:=HBw.out w6 HX6.out;obtain⟨c0,c1,c2,c3⟩:=HC.out w6 hbb;have HBb:Hid _:=hbb;clear hbb;have HG:Hid (bq=(pn&&(!p4&&pl))):=HBg.out;clear HBg
        cases bq with
        | false =>
         have HR:Hid (R=(1,(q:Int),11)):=by
          show _=_;rw[HR6.out];rfl
         obtain⟨d0,dm,HFc,hbf⟩:=HFin.out w6 (.int .i64 1) (.int .i64 q) HBb.out;have HBf:Hid _:=hbf;clear hbf
         cases p4 with
         | true =>
          go_wp2_with fail
          exact bodyPost_ret (v:=.tuple #[.agg #[.int .i64 1,.int .i64 q],.int .i64 11]) (by simp[results,Tryz.results8,go_sem,HFc]) rfl ⟨by rw[HR.out],HBf.out⟩
         | false =>
          cases pn with
          | false =>
           have hp1:(0:Int)<(x.ps.length:Int):=of_decide_eq_true hpl;have hp3:¬ x.ps=[]:=by intro e;rw[e]at hp1;simp at hp1
           clear hpl;go_wp2_with fail
           exact bodyPost_ret (v:=.tuple #[.agg #[.int .i64 1,.int .i64 q],.int .i64 11]) (by simp[results,Tryz.results8,go_sem,HFc]) rfl ⟨by rw[HR.out],HBf.out⟩
          | true =>
           have hp1:¬ (0:Int)<(x.ps.length:Int):=of_decide_eq_false hpl;have hp3:x.ps=[]:=List.eq_nil_of_length_eq_zero (by omega)
           clear hpl
           cases pl with
           | true=>exact absurd HG.out (by simp)
           | false =>
            go_wp2_with fail
            exact bodyPost_ret (v:=.tuple #[.agg #[.int .i64 1,.int .i64 q],.int .i64 11]) (by simp[results,Tryz.results8,go_sem,HFc]) rfl ⟨by rw[HR.out],HBf.out⟩
        | true =>
         have HR:Hid (R=(0,0,0)):=by
          show _=_;rw[HR6.out];rfl
         obtain⟨d0,dm,HFc,hbf⟩:=HFin.out w6 (.int .i64 0) (.int .i64 0) HBb.out;have HBf:Hid _:=hbf;clear hbf
         cases p4 with
         | true=>cases pn <;> exact absurd HG.out (by simp)
         | false =>
          cases pn with
          | false=>exact absurd HG.out (by simp)
          | true =>
           have hp1:¬ (0:Int)<(x.ps.length:Int):=of_decide_eq_false hpl;have hp3:x.ps=[]:=List.eq_nil_of_length_eq_zero (by omega)
           clear hpl
           cases pl with
           | false=>exact absurd HG.out (by simp)
           | true =>
            go_wp2_with fail
            exact bodyPost_ret (v:=.tuple #[.agg #[.int .i64 0,.int .i64 0],.int .i64 0]) (by simp[results,Tryz.results8,go_sem,HFc]) rfl ⟨by rw[HR.out],HBf.out⟩
end Go.Proofs.YtkedhjdipnhgdaaGreat
