import Derived.Test.YtkedhjdipnhgdaaGreatR45
import Derived.Test.YtkedhjdipnhgdaaGreatR44
namespace Go.Proofs.YtkedhjdipnhgdaaGreat
set_option maxHeartbeats 16000000
set_option linter.all false
open RowKit
def zck (g:Img) (m:Int):Bool:=decide (m<0)||zaf (zcR g m) 4
theorem zj3 {g:Img} {m:Int} (h:zbT g m):zck g m=zaf (zcR g m) 4:=by
 unfold zck;rw[decide_eq_false (by have:=(zai.1 h).1;omega),Bool.false_or]
theorem zm3 {g:Img} {q:Nat} (hq:q<g.ms.length) (hf:zdZ g g.ms[q]=true) (hk:zag g g.ms[q].ow=2):zaf (zcR g (q:Int)) 2=true:=by
 rw[za4 hq];unfold zdZ at hf;simp only[Bool.and_eq_true]at hf;obtain⟨⟨⟨⟨⟨⟨_,_⟩,h3⟩,_⟩,h5⟩,_⟩,_⟩:=hf;rw[hk]at h5;simp at h5;simp[h5]at h3;exact h3
theorem zlL {g:Img} (hw:zaY g=true) {t m:Int} (ht:zag g t=0) (hv:zaI g m=true) (hk:zag g (zfq g m)≠0):zaL g t m = -1∨zaL g t m∈zaH g t:=by
 unfold zaL;rw[if_neg (by rw[hv];decide),if_neg hk]
 cases hf:zmb g t m with
 | none=>exact Or.inl rfl
 | some k =>
  right;obtain⟨u,hu,hkv,_⟩:=ztI hf;have hnum:zbT g k:=zhh hkv;obtain⟨q,hq,rfl,ho,h1⟩:=zeQ hkv;obtain⟨s,hs,_,h3,_⟩:=zos hw (zbk (by rw[ht];decide)) hnum h1 (by rw[za2 hq,ho];exact hu)
  show zdG g t (q:Int)∈_;rw[h3];exact List.getElem_mem hs
theorem zqv {g:Img} (hw:zaY g=true) {t:Int} (ht:zag g t=0) (hfl:∀ j (hj:j<g.ms.length),zdZ g g.ms[j]=true) :
 zev g t=((zaH g t).all (λm=>!zck g m)&&(zbj g t).all (λf=>(zat g f).all (λm=>!zck g (zaL g t m)))):=by
 have h1:(zaH g t).all (λm=>!zaf (zcR g m) 4)=(zaH g t).all (λm=>!zck g m):=by
  rw[Bool.eq_iff_iff,List.all_eq_true,List.all_eq_true];constructor <;> intro h m hm
  ·rw[zj3 (zbM hm)];exact h m hm
  ·rw[<- zj3 (zbM hm)];exact h m hm
 unfold zev;rw[h1]
 cases ha:(zaH g t).all (λm=>!zck g m) with
 | false=>rfl
 | true =>
  rw[Bool.true_and,Bool.true_and];rw[List.all_eq_true]at ha;rw[Bool.eq_iff_iff,List.all_eq_true,List.all_eq_true];have key:∀ f∈zbj g t,∀ m∈zat g f,decide (zaL g t m≠-1)=!zck g (zaL g t m):=λf hf m hm=>by
   obtain⟨hn,ho⟩:=zgD hm;obtain⟨q,hq,rfl⟩:=zbE hn;have hkf:zag g f=2:=zgZ (Wel.of hw) hf;rw[za2 hq]at ho;have hv:zaI g (q:Int)=true:=zm3 hq (hfl q hq) (by rw[ho];exact hkf)
   rcases zlL hw ht hv (by rw[za2 hq,ho,hkf];decide) with h | h
   ·rw[h];rfl
   ·have h2:=ha _ h;rw[h2];have:=(zai.1 (zbM h)).1;exact decide_eq_true (by omega)
  constructor <;> intro h f hf <;> rw[List.all_eq_true] <;> intro m hm
  ·have:=h f hf;rw[List.all_eq_true]at this;rw[<- key f hf m hm];exact this m hm
  ·have:=h f hf;rw[List.all_eq_true]at this;rw[key f hf m hm];exact this m hm
end Go.Proofs.YtkedhjdipnhgdaaGreat

namespace Go.Proofs.YtkedhjdipnhgdaaGreat
set_option maxHeartbeats 16000000
set_option linter.all false
open RowKit
attribute [local go_sem ↓] wp_at_zero wp_at_succ
theorem zhp {g:Img} {m:Int} {w:World} (hg:Im w g) (hm:m<0):Ans 52 #[zao g,.int .i64 m] w (.bool true):=by
 obtain⟨w0,HW0,HB0,HG,HC,HI,c0,c1,c2,c3⟩:=zaG hg;unfold zao;clear hg HC HI HG;go_enter Tryz.func52,Tryz.ntmps52;go_wp2_with (rw[<- HW0.out])
 go_ret;exact⟨rfl,HB0.out⟩
theorem ziK {g:Img} {k:Nat} {w:World} (hg:Im w g) (hi:imB g=true) (hk:k<g.ms.length):Ans 52 #[zao g,.int .i64 (k:Int)] w (.bool (zaf g.ms[k].fl 4)):=by
 obtain⟨w0,tb,off,hma,h1,h2,HW0,HB0,HK,HI,HG⟩:=zaJ hg hk;have HBt:Hid (∀ W,Ans 26 #[mdV g.ms[k],.int .i64 4] W (.bool (zaf g.ms[k].fl 4))):=λW=>(zbs g.ms[k] (zav hi hk) W).2.2.1
 have hki:(k:Int)<(g.ms.length:Int):=by omega
 have hk0:¬ (k:Int)<0:=by omega
 obtain⟨⟨c0,c1,c2,c3⟩,k0,k1,k2,k3,k4,k5,k6,k7,k8,k9,k10,k11⟩:=HK.out w0 (Below.refl _ _);unfold maxLen at h2;unfold zao;unfold mdV at HBt;rw[hma];clear hg hi hma HI HG;generalize zaf g.ms[k].fl 4=b4 at *;generalize g.ms[k]=x at *;go_enter Tryz.func52,Tryz.ntmps52;go_wp2_with (rw[<- HW0.out])
 refine Calls.mono (HBt.out _) ?_;rintro e w1 ⟨rfl,hb1⟩;have HB1:Hid (Below w0.heap.size w0 w1):=hb1;clear hb1 c0 c1 c2 c3 k0 k1 k2 k3 k4 k5 k6 k7 k8 k9 k10 k11 HBt;go_wp2_with fail
 go_ret;exact⟨rfl,zaa HB0.out HB1.out⟩
theorem zgL {g:Img} {m:Int} {w:World} (hg:Im w g) (hi:imB g=true) (hm:m = -1∨zbT g m):Ans 52 #[zao g,.int .i64 m] w (.bool (zck g m)):=by
 rcases hm with rfl | hm
 ·exact zhp hg (by decide)
 ·obtain⟨k,hk,rfl⟩:=zbE hm;rw[zj3 hm,za4 hk];exact ziK hg hi hk
def zc1 (g:Img) (t:Int):Bool:=(zaH g t).all (λm=>!zck g m)&&(zbj g t).all (λf=>(zat g f).all (λm=>!zck g (zaL g t m)))
theorem zqt {g:Img} (hw:zaY g=true) {t m f:Int} (ht:zag g t=0) (hf:f∈zbj g t) (hm:m∈zat g f):zaL g t m = -1∨zbT g (zaL g t m):=by
 obtain⟨hn,ho⟩:=zgD hm
 cases hv:zaI g m with
 | false =>
  right;unfold zaL;rw[if_pos hv];exact hn
 | true =>
  have hk:zag g (zfq g m)≠0:=by rw[ho,zgZ (Wel.of hw) hf];decide
  rcases zlL hw ht hv hk with h | h
  ·exact Or.inl h
  ·exact Or.inr (zbM h)
theorem zox {g:Img} {t:Int} {i:Nat} (hi:i<(zaH g t).length) (h:zck g (zaH g t)[i]=true):zc1 g t=false:=by
 unfold zc1;have:(zaH g t).all (λm=>!zck g m)=false:=by
  rw[List.all_eq_false];exact⟨_,List.getElem_mem hi,by rw[h];decide⟩
 rw[this];rfl
theorem zn4 {g:Img} {t f m:Int} (hf:f∈zbj g t) (hm:m∈zat g f) (h:zck g (zaL g t m)=true):zc1 g t=false:=by
 unfold zc1;have:(zbj g t).all (λf=>(zat g f).all (λm=>!zck g (zaL g t m)))=false:=by
  rw[List.all_eq_false];refine⟨f,hf, ?_⟩;rw[Bool.not_eq_true,List.all_eq_false];exact⟨m,hm,by rw[h];decide⟩
 rw[this,Bool.and_false]
theorem zqD {g:Img} {t:Int} (h1:∀ m∈zaH g t,zck g m=false) (h2:∀ f∈zbj g t,∀ m∈zat g f,zck g (zaL g t m)=false):zc1 g t=true:=by
 unfold zc1;rw[Bool.and_eq_true,List.all_eq_true,List.all_eq_true];refine⟨λm hm=>by rw[h1 m hm];rfl,λf hf=>?_⟩
 rw[List.all_eq_true];exact λm hm=>by rw[h2 f hf m hm];rfl
abbrev zxO:Oper:=⟨some 20,.load 26 (.tmp 2),26,"ref.go:161",#[],none⟩
abbrev zwg:Oper:=⟨some 21,.move (.tmp 5),40,"ref.go:161",#[],none⟩
abbrev zwK:Oper:=⟨some 22,.move (.tmp 6),3,"ref.go:161",#[],none⟩
abbrev zwf:Oper:=⟨some 23,.indexAddr 40 (.tmp 21) (.tmp 22),0,"ref.go:161",#[⟨1,.data⟩,⟨2,.data⟩],none⟩
abbrev zxF:Oper:=⟨some 24,.load 3 (.tmp 23),3,"ref.go:161",#[⟨3,.data⟩],none⟩
abbrev zxi:Oper:=⟨some 25,.call ⟨.value (.func 52),#[.tmp 20,.tmp 24],#[26,3]⟩,4,"ref.go:161",#[⟨0,.data⟩,⟨4,.data⟩],none⟩
abbrev zwq:Oper:=⟨some 35,.load 26 (.tmp 2),26,"ref.go:167",#[],none⟩
abbrev zxx:Oper:=⟨some 36,.move (.tmp 7),40,"ref.go:167",#[],none⟩
abbrev zxy:Oper:=⟨some 37,.move (.tmp 8),3,"ref.go:167",#[],none⟩
abbrev zxf:Oper:=⟨some 38,.indexAddr 40 (.tmp 36) (.tmp 37),0,"ref.go:167",#[⟨1,.data⟩,⟨2,.data⟩],none⟩
abbrev zwt:Oper:=⟨some 39,.load 3 (.tmp 38),3,"ref.go:167",#[⟨3,.data⟩],none⟩
abbrev zw0:Oper:=⟨some 40,.call ⟨.value (.func 25),#[.tmp 35,.tmp 39],#[26,3]⟩,40,"ref.go:167",#[⟨0,.data⟩,⟨4,.data⟩],none⟩
abbrev zwH:Oper:=⟨some 9,.assign (.tmp 40),40,"ref.go:167",#[⟨5,.data⟩,⟨5,.chain⟩,⟨0,.phase⟩,⟨1,.phase⟩,⟨2,.phase⟩,⟨3,.phase⟩,⟨4,.phase⟩,⟨5,.phase⟩],none⟩
abbrev zxu:Oper:=⟨some 47,.load 26 (.tmp 2),26,"ref.go:169",#[],none⟩
abbrev zxp:Oper:=⟨some 48,.load 26 (.tmp 2),26,"ref.go:169",#[],none⟩
abbrev zwi:Oper:=⟨some 49,.move (.tmp 1),3,"ref.go:169",#[],none⟩
abbrev zvW:Oper:=⟨some 50,.move (.tmp 9),40,"ref.go:169",#[],none⟩
abbrev zwG:Oper:=⟨some 51,.move (.tmp 10),3,"ref.go:169",#[],none⟩
abbrev zxe:Oper:=⟨some 52,.indexAddr 40 (.tmp 50) (.tmp 51),0,"ref.go:169",#[⟨3,.data⟩,⟨4,.data⟩],none⟩
abbrev zwD:Oper:=⟨some 53,.load 3 (.tmp 52),3,"ref.go:169",#[⟨5,.data⟩],none⟩
abbrev zvZ:Oper:=⟨some 54,.call ⟨.value (.func 54),#[.tmp 48,.tmp 49,.tmp 53],#[26,3,3]⟩,3,"ref.go:169",#[⟨1,.data⟩,⟨2,.data⟩,⟨6,.data⟩],none⟩
abbrev zv4:Oper:=⟨some 55,.call ⟨.value (.func 52),#[.tmp 47,.tmp 54],#[26,3]⟩,4,"ref.go:169",#[⟨0,.data⟩,⟨7,.data⟩,⟨7,.chain⟩],none⟩
theorem zfC {g:Img} {t:Int} {w:World} (hg:Im w g) (hw:zaY g=true) (ht:zag g t=0):Ans 24 #[zao g,.int .i64 t] w (.bool (zc1 g t)):=by
 obtain⟨w0,HW0,HB0,HG,HC,HI,c0,c1,c2,c3⟩:=zaG hg;have hi:=(Wel.of hw).im;have HTb:Hid (∀ W,Below w0.heap.size w0 W->Calls Tryz.prog 51 #[zao g,.int .i64 t] W λe w'=>∃ v,e=.returned v/\OwnI w' W.heap.size v (zaH g t)/\Below W.heap.size W w'):=λW hW=>zcn hw (HI.out W hW)
 have HFc:Hid (∀ W,Below w0.heap.size w0 W->Calls Tryz.prog 53 #[zao g,.int .i64 t] W λe w'=>∃ v,e=.returned v/\OwnI w' W.heap.size v (zeq (zbj g t) g.ts.length)/\Below W.heap.size W w'):=λW hW=>zeb (HI.out W hW) hi
 have HMt:Hid (∀ W u,Below w0.heap.size w0 W->Calls Tryz.prog 25 #[zao g,.int .i64 u] W λe w'=>∃ v,e=.returned v/\OwnI w' W.heap.size v (zat g u)/\Below W.heap.size W w'):=λW u hW=>zaU (HI.out W hW) hi
 have HOp:Hid (∀ W m,Below w0.heap.size w0 W->(m = -1∨zbT g m)->Ans 52 #[zao g,.int .i64 m] W (.bool (zck g m))):=λW m hW hm=>zgL (HI.out W hW) hi hm
 have HDn:Hid (∀ W f m,Below w0.heap.size w0 W->f∈zbj g t->m∈zat g f->Ans 54 #[zao g,.int .i64 t,.int .i64 m] W (.int .i64 (zaL g t m))):=λW f m hW hf hm=>by
  obtain⟨h1,h2⟩:=zgD hm;exact zkB (HI.out W hW) hw h1 ht (zgl.2 (Or.inr (by rw[h2];exact hf)))
 have HDN:Hid (∀ f m,f∈zbj g t->m∈zat g f->zaL g t m = -1∨zbT g (zaL g t m)):=λf m hf hm=>zqt hw ht hf hm
 have HTN:Hid (∀ m∈zaH g t,zbT g m):=λm hm=>zbM hm
 have HW1:Hid (∀ (i:Nat) (hi:i<(zaH g t).length),zck g (zaH g t)[i]=true->zc1 g t=false):=λi hi h=>zox hi h
 have HW2:Hid (∀ f m,f∈zbj g t->m∈zat g f->zck g (zaL g t m)=true->zc1 g t=false):=λf m hf hm h=>zn4 hf hm h
 have HW3:Hid ((∀ m∈zaH g t,zck g m=false)->(∀ f∈zbj g t,∀ m∈zat g f,zck g (zaL g t m)=false)->zc1 g t=true):=zqD;have HFM:Hid (∀ x,x∈zeq (zbj g t) g.ts.length↔x∈zbj g t):=λx=>by
  have:=zg6 (show Nd g.ts.length 0 (zbj g t) from zcx _ _ _) x
  rw[<- List.contains_iff_mem,<- List.contains_iff_mem,this]
 have HC4:Hid (∀ W,Below w0.heap.size w0 W->(W.cell? ⟨w.heap.size,0,none⟩=some (.slice g.ta g.ts.length g.tc)/\W.cell? ⟨w.heap.size,1,none⟩=some (.slice g.fa g.fs.length g.fc)/\W.cell? ⟨w.heap.size,2,none⟩=some (.slice g.ma g.ms.length g.mc)/\W.cell? ⟨w.heap.size,3,none⟩=some (.int .i64 g.en))):=HC.out;unfold zao at HTb HFc HMt HOp HDn ⊢;clear hg hw ht hi HG HC HI;generalize hL:zeq (zbj g t) g.ts.length=FL2 at *;clear hL;generalize zaH g t=T at *;generalize zbj g t=FL at *;generalize zc1 g t=R at *;go_enter Tryz.func24,Tryz.ntmps24;go_wp2_with (rw[<- HW0.out])
 refine Calls.mono (HTb.out w0 (Below.refl _ _)) ?_;rintro e w1 ⟨tv,rfl,ho1,hb1⟩;have HB1:Hid (Below w0.heap.size w0 w1):=hb1;obtain⟨ta,tc,htv,_,htc⟩:=ho1.is.shape;have HTs:Hid (∀ W,Below w1.heap.size w1 W->Is W (.slice ta T.length tc) T):=λW hW=>by
  have:=ho1.is.later hW;rw[htv]at this;exact this
 have htl:=ho1.is.len;rw[zae]at htl;subst htv;unfold maxLen at htc htl;clear ho1 hb1 c0 c1 c2 c3 HTb;go_wp2_with fail
 go_loopw [6] (λz wr=>∃ i:Nat,i<=T.length/\z=.int .i64 i/\Hid (Below w1.heap.size w1 wr)/\Hid (∀ m∈T.take i,zck g m=false)) (λz _=>T.length - (intOf z).toNat)
 case atStart=>exact⟨0,Nat.zero_le _,rfl,Below.refl _ _,(show ∀ t∈_,_ from by simp)⟩
 case round =>
  obtain⟨i,hil0,rfl,HB,HA⟩:=hrel;have HB0r:Hid (Below w0.heap.size w0 wr):=zaa HB1.out HB.out;obtain⟨c0,c1,c2,c3⟩:=HC4.out wr HB0r.out;by_cases hil:i<T.length
  ·have hii:(i:Int)<(T.length:Int):=by omega
   obtain⟨lb,lo,hla,hlb,_,h6',h7',hcv⟩:=(HTs.out wr HB.out).at hil;have HKi:Hid (∀ W,Below wr.heap.size wr W->(W.cell? ⟨w.heap.size,0,none⟩=some (.slice g.ta g.ts.length g.tc)/\W.cell? ⟨w.heap.size,1,none⟩=some (.slice g.fa g.fs.length g.fc)/\W.cell? ⟨w.heap.size,2,none⟩=some (.slice g.ma g.ms.length g.mc)/\W.cell? ⟨w.heap.size,3,none⟩=some (.int .i64 g.en))/\W.cell? ⟨lb,lo+i,none⟩=some (.int .i64 T[i])):=λW hW=>by
    refine⟨HC4.out W (zaa HB0r.out hW), ?_⟩;obtain⟨lb2,loff2,hla2,_,_,_,_,hcv2⟩:=(HTs.out W (zaa HB.out hW)).at hil;rw[hla]at hla2
    cases hla2
    exact hcv2 i hil
   have HOi:Hid _:=λ (W:World) (hW:Below w0.heap.size w0 W)=>HOp.out W T[i] hW (Or.inr (HTN.out _ (List.getElem_mem hil)))
   have HBd:Hid (zck g T[i]=true->R=false):=λh=>HW1.out i hil h
   have HGd:Hid (zck g T[i]=false->∀ m∈T.take (i+1),zck g m=false):=λh m hm=>by
    rw[List.take_succ_eq_append_getElem hil]at hm
    rcases List.mem_append.1 hm with hm | hm
    ·exact HA.out m hm
    ·simp at hm;subst hm;exact h
   subst hla;clear hcv HA;generalize zck g T[i]=ob at *;generalize T[i]=m at *;go_wp2_with fail
   clear c0 c1 c2 c3;refine wp_region_held_drew (S:=(λW=>(W.cell? ⟨w.heap.size,0,none⟩=some (.slice g.ta g.ts.length g.tc)/\W.cell? ⟨w.heap.size,1,none⟩=some (.slice g.fa g.fs.length g.fc)/\W.cell? ⟨w.heap.size,2,none⟩=some (.slice g.ma g.ms.length g.mc)/\W.cell? ⟨w.heap.size,3,none⟩=some (.int .i64 g.en))/\W.cell? ⟨lb,lo+i,none⟩=some (.int .i64 m))) (by kernel_rfl) (HKi.out _ (zad _)) (λyb=>?_)
   refine tY 0 zxO (.agg #[.slice g.ta g.ts.length g.tc,.slice g.fa g.fs.length g.fc,.slice g.ma g.ms.length g.mc,.int .i64 g.en]) yb ?_;refine tY 1 zwg (.slice (some ⟨lb,lo,none⟩) T.length tc) yb ?_;refine tY 2 zwK (.int .i64 (i:Int)) yb ?_;refine tY 3 zwf (.pointer (some ⟨lb,lo+i,none⟩)) yb ?_;refine tY 4 zxF (.int .i64 m) yb ?_;refine wpAnyH_ready (rs:=[5]) (by kernel_rfl) (by simp) ?_
   refine AllReadyH.cons (o:=zxi) rfl (λK hK=>?_) AllReadyH.nil
   go_simp
   refine (HOi.out _ (zaa HB0r.out (zad _))).mono ?_;rintro e w3 ⟨rfl,hz3⟩;have hB3:Below wr.heap.size wr w3:=zaa (zad _) hz3
   try go_wp2_with fail
   refine hK.out _ _ (HKi.out _ hB3) (λyb=>?_)
   clear hK K
   try simp only[Act.put,sA,s0,sS]
   refine wpAnyH_done (by kernel_rfl) ?_ _
   have HB3:Hid (Below w1.heap.size w1 w3):=zaa HB.out hB3;clear hz3 hB3
   cases ob with
   | true =>
    have HF:Hid (R=false):=HBd.out (by trivial)
    go_wp2_with fail
    go_ret;exact⟨zab HF.out.symm,zaa HB0.out (zaa HB1.out HB3.out)⟩
   | false =>
    have HA2:Hid _:=HGd.out (by trivial)
    go_wp2_with fail
    go_roundw
    case rel=>exact⟨i+1,by omega,by go_num,HB3.out,HA2.out⟩
    case measure=>simp[intOf] <;> omega
  ·have hii:¬ (i:Int)<(T.length:Int):=by omega
   have HAt:Hid (∀ m∈T,zck g m=false):=λm hm=>HA.out m (by rw[List.take_of_length_le (by omega)];exact hm)
   clear HA HB;go_wp2_with fail
   refine Calls.mono (HFc.out wr HB0r.out) ?_;rintro e w3 ⟨fv,rfl,ho3,hb3⟩;have HB3:Hid (Below w0.heap.size w0 w3):=zaa HB0r.out hb3;obtain⟨fa,fc,hfv,_,hfc⟩:=ho3.is.shape;have HFs:Hid (∀ W,Below w3.heap.size w3 W->Is W (.slice fa FL2.length fc) FL2):=λW hW=>by
    have:=ho3.is.later hW;rw[hfv]at this;exact this
   have hfl2:=ho3.is.len;rw[zae]at hfl2;subst hfv;unfold maxLen at hfc hfl2;clear ho3 hb3 c0 c1 c2 c3 HFc HB0r;go_wp2_with fail
   obtain⟨wo,hwo⟩:∃ W,W=wr:=⟨_,rfl⟩;subst hwo;go_loopw [8,9,10] (λz _ _ wx=>∃ j:Nat,j<=FL2.length/\z=.int .i64 j/\Hid (Below w3.heap.size w3 wx)/\Hid (∀ f∈FL2.take j,∀ m∈zat g f,zck g (zaL g t m)=false)) (λz _ _ _=>FL2.length - (intOf z).toNat)
   case atStart=>exact⟨0,Nat.zero_le _,rfl,Below.refl _ _,(show ∀ t∈_,_ from by simp)⟩
   case round =>
    obtain⟨j,hjl0,rfl,HB,HA⟩:=hrel;have HB0r:Hid (Below w0.heap.size w0 wr):=zaa HB3.out HB.out;obtain⟨c0,c1,c2,c3⟩:=HC4.out wr HB0r.out;by_cases hjl:j<FL2.length
    ·have hji:(j:Int)<(FL2.length:Int):=by omega
     obtain⟨lb,lo,hla,hlb,_,h6',h7',hcv⟩:=(HFs.out wr HB.out).at hjl;have HKi:Hid (∀ W,Below wr.heap.size wr W->(W.cell? ⟨w.heap.size,0,none⟩=some (.slice g.ta g.ts.length g.tc)/\W.cell? ⟨w.heap.size,1,none⟩=some (.slice g.fa g.fs.length g.fc)/\W.cell? ⟨w.heap.size,2,none⟩=some (.slice g.ma g.ms.length g.mc)/\W.cell? ⟨w.heap.size,3,none⟩=some (.int .i64 g.en))/\W.cell? ⟨lb,lo+j,none⟩=some (.int .i64 FL2[j])):=λW hW=>by
      refine⟨HC4.out W (zaa HB0r.out hW), ?_⟩;obtain⟨lb2,loff2,hla2,_,_,_,_,hcv2⟩:=(HFs.out W (zaa HB.out hW)).at hjl;rw[hla]at hla2
      cases hla2
      exact hcv2 j hjl
     have hfm:FL2[j]∈FL:=(HFM.out _).1 (List.getElem_mem hjl);have HMu:Hid _:=λ (W:World) (hW:Below w0.heap.size w0 W)=>HMt.out W FL2[j] hW
     have HBd:Hid (∀ m∈zat g FL2[j],zck g (zaL g t m)=true->R=false):=λm hm h=>HW2.out _ m hfm hm h
     have HDq:Hid (∀ W m,Below w0.heap.size w0 W->m∈zat g FL2[j]->Ans 54 #[.agg #[.slice g.ta g.ts.length g.tc,.slice g.fa g.fs.length g.fc,.slice g.ma g.ms.length g.mc,.int .i64 g.en],.int .i64 t,.int .i64 m] W (.int .i64 (zaL g t m))):=λW m hW hm=>HDn.out W FL2[j] m hW hfm hm
     have HDj:Hid (∀ m∈zat g FL2[j],zaL g t m = -1∨zbT g (zaL g t m)):=λm hm=>HDN.out FL2[j] m hfm hm
     have HGd:Hid ((∀ m∈zat g FL2[j],zck g (zaL g t m)=false)->∀ f∈FL2.take (j+1),∀ m∈zat g f,zck g (zaL g t m)=false):=λh f hf m hm=>by
      rw[List.take_succ_eq_append_getElem hjl]at hf
      rcases List.mem_append.1 hf with hf | hf
      ·exact HA.out f hf m hm
      ·simp at hf;subst hf;exact h m hm
     subst hla;clear hcv hfm;generalize zat g FL2[j]=M at *;generalize FL2[j]=f at *;go_wp2_with fail
     clear c0 c1 c2 c3;refine wp_region_held_drew (S:=(λW=>(W.cell? ⟨w.heap.size,0,none⟩=some (.slice g.ta g.ts.length g.tc)/\W.cell? ⟨w.heap.size,1,none⟩=some (.slice g.fa g.fs.length g.fc)/\W.cell? ⟨w.heap.size,2,none⟩=some (.slice g.ma g.ms.length g.mc)/\W.cell? ⟨w.heap.size,3,none⟩=some (.int .i64 g.en))/\W.cell? ⟨lb,lo+j,none⟩=some (.int .i64 f))) (by kernel_rfl) (HKi.out _ (zad _)) (λyb=>?_)
     refine tY 0 zwq (.agg #[.slice g.ta g.ts.length g.tc,.slice g.fa g.fs.length g.fc,.slice g.ma g.ms.length g.mc,.int .i64 g.en]) yb ?_;refine tY 1 zxx (.slice (some ⟨lb,lo,none⟩) FL2.length fc) yb ?_;refine tY 2 zxy (.int .i64 (j:Int)) yb ?_;refine tY 3 zxf (.pointer (some ⟨lb,lo+j,none⟩)) yb ?_;refine tY 4 zwt (.int .i64 f) yb ?_;refine wpAnyH_ready (rs:=[5]) (by kernel_rfl) (by simp) ?_
     refine AllReadyH.cons (o:=zw0) rfl (λK hK=>?_) AllReadyH.nil
     go_simp
     refine (HMu.out _ (zaa HB0r.out (zad _))).mono ?_;rintro e w4 ⟨mv,rfl,ho4,hz4⟩;have hB4:Below wr.heap.size wr w4:=zaa (zad _) hz4;obtain⟨va,vc,hvv,_,hvc⟩:=ho4.is.shape;subst hvv
     try go_wp2_with fail
     refine hK.out _ _ (HKi.out _ hB4) (λyb=>?_)
     clear hK K
     try simp only[Act.put,sA,s0,sS]
     refine tY 6 zwH (.slice va M.length vc) yb ?_;refine wpAnyH_done (by kernel_rfl) ?_ _
     have HB4:Hid (Below w3.heap.size w3 w4):=zaa HB.out hB4;have HVs:Hid (∀ W,Below w4.heap.size w4 W->Is W (.slice va M.length vc) M):=λW hW=>ho4.is.later hW
     have hml:=ho4.is.len;rw[zae]at hml;unfold maxLen at hvc hml;clear ho4 hz4 hB4 HMu HB0r HKi;go_wp2_with fail
     obtain⟨wo2,hwo2⟩:∃ W,W=wr:=⟨_,rfl⟩;subst hwo2;go_loopw [10] (λz wx=>∃ s:Nat,s<=M.length/\z=.int .i64 s/\Hid (Below w4.heap.size w4 wx)/\Hid (∀ m∈M.take s,zck g (zaL g t m)=false)) (λz _=>M.length - (intOf z).toNat)
     case atStart=>exact⟨0,Nat.zero_le _,rfl,Below.refl _ _,(show ∀ t∈_,_ from by simp)⟩
     case round =>
      obtain⟨s,hsl0,rfl,HBs,HAs⟩:=hrel;by_cases hsl:s<M.length
      ·have hsi:(s:Int)<(M.length:Int):=by omega
       have HB0r:Hid (Below w0.heap.size w0 wr):=zaa HB3.out (zaa HB4.out HBs.out);obtain⟨mb,mo,hla,hlb2,_,h8',h9',hcv⟩:=(HVs.out wr HBs.out).at hsl;have HKs:Hid (∀ W,Below wr.heap.size wr W->(W.cell? ⟨w.heap.size,0,none⟩=some (.slice g.ta g.ts.length g.tc)/\W.cell? ⟨w.heap.size,1,none⟩=some (.slice g.fa g.fs.length g.fc)/\W.cell? ⟨w.heap.size,2,none⟩=some (.slice g.ma g.ms.length g.mc)/\W.cell? ⟨w.heap.size,3,none⟩=some (.int .i64 g.en))/\W.cell? ⟨mb,mo+s,none⟩=some (.int .i64 M[s])):=λW hW=>by
        refine⟨HC4.out W (zaa HB0r.out hW), ?_⟩;obtain⟨lb2,loff2,hla2,_,_,_,_,hcv2⟩:=(HVs.out W (zaa HBs.out hW)).at hsl;rw[hla]at hla2
        cases hla2
        exact hcv2 s hsl
       have HDs:Hid _:=λ (W:World) (hW:Below w0.heap.size w0 W)=>HDq.out W M[s] hW (List.getElem_mem hsl)
       have HOs:Hid _:=λ (W:World) (hW:Below w0.heap.size w0 W)=>HOp.out W (zaL g t M[s]) hW (HDj.out _ (List.getElem_mem hsl))
       have HBs1:Hid (zck g (zaL g t M[s])=true->R=false):=λh=>HBd.out _ (List.getElem_mem hsl) h
       have HGs:Hid (zck g (zaL g t M[s])=false->∀ m∈M.take (s+1),zck g (zaL g t m)=false):=λh m hm=>by
        rw[List.take_succ_eq_append_getElem hsl]at hm
        rcases List.mem_append.1 hm with hm | hm
        ·exact HAs.out m hm
        ·simp at hm;subst hm;exact h
       obtain⟨c0,c1,c2,c3⟩:=HC4.out wr HB0r.out;subst hla;clear hcv;generalize zck g (zaL g t M[s])=ob at *;generalize zaL g t M[s]=d at *;generalize M[s]=m at *;go_wp2_with fail
       clear c0 c1 c2 c3;refine wp_region_held_drew (S:=(λW=>(W.cell? ⟨w.heap.size,0,none⟩=some (.slice g.ta g.ts.length g.tc)/\W.cell? ⟨w.heap.size,1,none⟩=some (.slice g.fa g.fs.length g.fc)/\W.cell? ⟨w.heap.size,2,none⟩=some (.slice g.ma g.ms.length g.mc)/\W.cell? ⟨w.heap.size,3,none⟩=some (.int .i64 g.en))/\W.cell? ⟨mb,mo+s,none⟩=some (.int .i64 m))) (by kernel_rfl) (HKs.out _ (zad _)) (λyb=>?_)
       refine tY 0 zxu (.agg #[.slice g.ta g.ts.length g.tc,.slice g.fa g.fs.length g.fc,.slice g.ma g.ms.length g.mc,.int .i64 g.en]) yb ?_;refine tY 1 zxp (.agg #[.slice g.ta g.ts.length g.tc,.slice g.fa g.fs.length g.fc,.slice g.ma g.ms.length g.mc,.int .i64 g.en]) yb ?_;refine tY 2 zwi (.int .i64 t) yb ?_;refine tY 3 zvW (.slice (some ⟨mb,mo,none⟩) M.length vc) yb ?_;refine tY 4 zwG (.int .i64 (s:Int)) yb ?_;refine tY 5 zxe (.pointer (some ⟨mb,mo+s,none⟩)) yb ?_;refine tY 6 zwD (.int .i64 m) yb ?_;refine wpAnyH_ready (rs:=[7]) (by kernel_rfl) (by simp) ?_
       refine AllReadyH.cons (o:=zvZ) rfl (λK hK=>?_) AllReadyH.nil
       go_simp
       refine (HDs.out _ (zaa HB0r.out (zad _))).mono ?_;rintro e w5 ⟨rfl,hz5⟩;have hB5:Below wr.heap.size wr w5:=zaa (zad _) hz5
       try go_wp2_with fail
       refine hK.out _ _ (HKs.out _ hB5) (λyb=>?_)
       clear hK K
       try simp only[Act.put,sA,s0,sS]
       refine wpAnyH_ready (rs:=[8]) (by kernel_rfl) (by simp) ?_
       refine AllReadyH.cons (o:=zv4) rfl (λK hK=>?_) AllReadyH.nil
       go_simp
       refine (HOs.out _ (zaa HB0r.out hB5)).mono ?_;rintro e w6 ⟨rfl,hz6⟩;have hB6:Below wr.heap.size wr w6:=zaa hB5 hz6
       try go_wp2_with fail
       refine hK.out _ _ (HKs.out _ hB6) (λyb=>?_)
       clear hK K
       try simp only[Act.put,sA,s0,sS]
       refine wpAnyH_done (by kernel_rfl) ?_ _
       have HB6:Hid (Below w4.heap.size w4 w6):=zaa HBs.out hB6;have HB06:Hid (Below w0.heap.size w0 w6):=zaa HB0r.out hB6;clear hz5 hB5 hz6 hB6
       cases ob with
       | true =>
        have HF:Hid (R=false):=HBs1.out (by trivial)
        go_wp2_with fail
        go_ret;exact⟨zab HF.out.symm,zaa HB0.out HB06.out⟩
       | false =>
        have HA2:Hid _:=HGs.out (by trivial)
        go_wp2_with fail
        go_roundw
        case rel=>exact⟨s+1,by omega,by go_num,HB6.out,HA2.out⟩
        case measure=>simp[intOf] <;> omega
      ·have hsi:¬ (s:Int)<(M.length:Int):=by omega
       have HA2:Hid _:=HGd.out (λm hm=>HAs.out m (by rw[List.take_of_length_le (by omega)];exact hm))
       go_wp2_with fail
       go_roundw
       case rel=>exact⟨j+1,by omega,by go_num,zaa HB4.out HBs.out,HA2.out⟩
       case measure=>simp[intOf] <;> omega
    ·have hji:¬ (j:Int)<(FL2.length:Int):=by omega
     have HF:Hid (R=true):=HW3.out HAt.out (λf hf=>HA.out f (by rw[List.take_of_length_le (by omega)];exact (HFM.out _).2 hf))
     go_wp2_with fail
     go_ret;exact⟨zab HF.out.symm,zaa HB0.out (zaa HB3.out HB.out)⟩
end Go.Proofs.YtkedhjdipnhgdaaGreat
