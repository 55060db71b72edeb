import Derived.Test.YtkedhjdipnhgdaaGreatR24
namespace Go.Proofs.YtkedhjdipnhgdaaGreat
set_option maxHeartbeats 16000000
set_option linter.all false
open RowKit
attribute [local go_sem ↓] wp_at_zero wp_at_succ
def znq (l:List Int) (m:Nat):Prop:=∀ j (hj:j+1<l.length),j+1<m->l[j]<=l[j+1]
theorem zib {l:List Int} {q:Nat} (h:q=0):znq l (q+1):=λj hj h'=>by omega
theorem zik {l:List Int} {q k:Nat} (hk:q=k+1) (h:znq l q) (hq:q<l.length) (hle:l[k]'(by omega)<=l[q]):znq l (q+1):=λj hj h'=>by
 rcases Nat.lt_or_ge (j+1) q with g | g
 ·exact h j hj g
 ·subst hk;obtain rfl:j=k:=by omega
  exact hle
theorem zlh {l:List Int} {q:Nat} (h:znq l q) (hq:l.length<=q):zdH l=true:=(zeO l).2 λj hj=>h j hj (by omega)
abbrev zrT:Oper:=⟨some 64,.fieldAddr 62 (.tmp 6) 0,0,"ref.go:124",#[],none⟩
abbrev zr2:Oper:=⟨some 65,.load 9 (.tmp 64),9,"ref.go:124",#[⟨0,.data⟩],none⟩
abbrev zrp:Oper:=⟨some 66,.call ⟨.value (.func 178),#[.tmp 65],#[9]⟩,4,"ref.go:124",#[⟨1,.data⟩],none⟩
abbrev zsg:Oper:=⟨some 67,.unOp .not 4 (.tmp 66),4,"ref.go:124",#[⟨2,.data⟩],none⟩
abbrev zr7:Oper:=⟨some 68,.move (.tmp 67),4,"ref.go:124",#[⟨3,.data⟩,⟨2,.chain⟩],none⟩
abbrev zrj:Oper:=⟨some 69,.fieldAddr 62 (.tmp 6) 1,0,"ref.go:124",#[⟨4,.guard⟩],some (4,false)⟩
abbrev zsa:Oper:=⟨some 70,.load 3 (.tmp 69),3,"ref.go:124",#[⟨5,.data⟩,⟨4,.guard⟩],some (4,false)⟩
abbrev zru:Oper:=⟨some 71,.binOp .lss 3 (.tmp 70) (.const (.int .i64 0)) 3,4,"ref.go:124",#[⟨6,.data⟩,⟨4,.guard⟩],some (4,false)⟩
abbrev zrm:Oper:=⟨some 72,.pick (.tmp 68) (.const (.bool true)) (.tmp 71),4,"ref.go:124",#[⟨4,.data⟩,⟨7,.data⟩],none⟩
abbrev zrA:Oper:=⟨some 73,.move (.tmp 72),4,"ref.go:124",#[⟨8,.data⟩,⟨4,.chain⟩],none⟩
abbrev zhH:Oper:=⟨some 74,.fieldAddr 62 (.tmp 6) 1,0,"ref.go:124",#[⟨9,.guard⟩],some (9,false)⟩
abbrev zic:Oper:=⟨some 75,.load 3 (.tmp 74),3,"ref.go:124",#[⟨10,.data⟩,⟨9,.guard⟩],some (9,false)⟩
abbrev zhF:Oper:=⟨some 76,.move (.tmp 3),3,"ref.go:124",#[⟨9,.guard⟩],some (9,false)⟩
abbrev zhM:Oper:=⟨some 77,.binOp .geq 3 (.tmp 75) (.tmp 76) 3,4,"ref.go:124",#[⟨11,.data⟩,⟨12,.data⟩,⟨9,.guard⟩],some (9,false)⟩
abbrev zhQ:Oper:=⟨some 78,.pick (.tmp 73) (.const (.bool true)) (.tmp 77),4,"ref.go:124",#[⟨9,.data⟩,⟨13,.data⟩],none⟩
abbrev zhI:Oper:=⟨some 79,.move (.tmp 78),4,"ref.go:124",#[⟨14,.data⟩,⟨9,.chain⟩],none⟩
abbrev zif:Oper:=⟨some 80,.move (.tmp 5),3,"ref.go:124",#[⟨15,.guard⟩],some (15,false)⟩
abbrev zi5:Oper:=⟨some 81,.binOp .gtr 3 (.tmp 80) (.const (.int .i64 0)) 3,4,"ref.go:124",#[⟨16,.data⟩,⟨15,.guard⟩],some (15,false)⟩
abbrev ziA:Oper:=⟨some 82,.move (.tmp 81),4,"ref.go:124",#[⟨17,.data⟩,⟨15,.chain⟩,⟨15,.guard⟩],some (15,false)⟩
abbrev ziH:Oper:=⟨some 83,.fieldAddr 62 (.tmp 6) 1,0,"ref.go:124",#[⟨18,.guard⟩],some (18,true)⟩
abbrev zis:Oper:=⟨some 84,.load 3 (.tmp 83),3,"ref.go:124",#[⟨19,.data⟩,⟨18,.guard⟩],some (18,true)⟩
abbrev ziV:Oper:=⟨some 85,.fieldAddr 26 (.tmp 1) 1,0,"ref.go:124",#[⟨18,.guard⟩],some (18,true)⟩
abbrev zi7:Oper:=⟨some 86,.load 23 (.tmp 85),23,"ref.go:124",#[⟨21,.data⟩,⟨18,.guard⟩],some (18,true)⟩
abbrev zii:Oper:=⟨some 87,.move (.tmp 5),3,"ref.go:124",#[⟨18,.guard⟩],some (18,true)⟩
abbrev zh4:Oper:=⟨some 88,.binOp .sub 3 (.tmp 87) (.const (.int .i64 1)) 3,3,"ref.go:124",#[⟨23,.data⟩,⟨18,.guard⟩],some (18,true)⟩
abbrev ziw:Oper:=⟨some 89,.indexAddr 23 (.tmp 86) (.tmp 88),0,"ref.go:124",#[⟨22,.data⟩,⟨24,.data⟩,⟨18,.guard⟩],some (18,true)⟩
abbrev zh0:Oper:=⟨some 90,.fieldAddr 62 (.tmp 89) 1,0,"ref.go:124",#[⟨25,.data⟩,⟨18,.guard⟩],some (18,true)⟩
abbrev zhD:Oper:=⟨some 91,.load 3 (.tmp 90),3,"ref.go:124",#[⟨26,.data⟩,⟨18,.guard⟩],some (18,true)⟩
abbrev zhz:Oper:=⟨some 92,.binOp .lss 3 (.tmp 84) (.tmp 91) 3,4,"ref.go:124",#[⟨20,.data⟩,⟨27,.data⟩,⟨18,.guard⟩],some (18,true)⟩
abbrev ziX:Oper:=⟨some 93,.pick (.tmp 82) (.tmp 92) (.const (.bool false)),4,"ref.go:124",#[⟨18,.data⟩,⟨28,.data⟩,⟨15,.guard⟩],some (15,false)⟩
abbrev ziQ:Oper:=⟨some 94,.pick (.tmp 79) (.const (.bool true)) (.tmp 93),4,"ref.go:124",#[⟨15,.data⟩,⟨29,.data⟩],none⟩
abbrev zir:Oper:=⟨some 95,.move (.tmp 94),4,"ref.go:124",#[⟨30,.data⟩,⟨18,.chain⟩],none⟩
abbrev zin:Oper:=⟨some 96,.fieldAddr 62 (.tmp 6) 2,0,"ref.go:124",#[⟨31,.guard⟩],some (31,false)⟩
abbrev ziD:Oper:=⟨some 97,.load 47 (.tmp 96),47,"ref.go:124",#[⟨32,.data⟩,⟨31,.guard⟩],some (31,false)⟩
abbrev zim:Oper:=⟨some 98,.move (.tmp 3),3,"ref.go:124",#[⟨31,.guard⟩],some (31,false)⟩
abbrev zh6:Oper:=⟨some 99,.call ⟨.value (.func 179),#[.tmp 97,.const (.int .i64 1),.tmp 98],#[47,3,3]⟩,4,"ref.go:124",#[⟨33,.data⟩,⟨34,.data⟩,⟨31,.chain⟩,⟨31,.guard⟩],some (31,false)⟩
abbrev ziq:Oper:=⟨some 100,.unOp .not 4 (.tmp 99),4,"ref.go:124",#[⟨35,.data⟩,⟨31,.guard⟩],some (31,false)⟩
abbrev zi3:Oper:=⟨some 101,.pick (.tmp 95) (.const (.bool true)) (.tmp 100),4,"ref.go:124",#[⟨31,.data⟩,⟨36,.data⟩],none⟩
abbrev zsr:Oper:=⟨some 114,.fieldAddr 51 (.tmp 8) 1,0,"ref.go:130",#[],none⟩
abbrev zsQ:Oper:=⟨some 115,.load 3 (.tmp 114),3,"ref.go:130",#[⟨0,.data⟩],none⟩
abbrev zsw:Oper:=⟨some 116,.binOp .lss 3 (.tmp 115) (.const (.int .i64 0)) 3,4,"ref.go:130",#[⟨1,.data⟩],none⟩
abbrev zsB:Oper:=⟨some 117,.move (.tmp 116),4,"ref.go:130",#[⟨2,.data⟩],none⟩
abbrev zth:Oper:=⟨some 118,.fieldAddr 51 (.tmp 8) 1,0,"ref.go:130",#[⟨3,.guard⟩],some (3,false)⟩
abbrev zsE:Oper:=⟨some 119,.load 3 (.tmp 118),3,"ref.go:130",#[⟨4,.data⟩,⟨3,.guard⟩],some (3,false)⟩
abbrev zs1:Oper:=⟨some 120,.move (.tmp 3),3,"ref.go:130",#[⟨3,.guard⟩],some (3,false)⟩
abbrev zs7:Oper:=⟨some 121,.binOp .geq 3 (.tmp 119) (.tmp 120) 3,4,"ref.go:130",#[⟨5,.data⟩,⟨6,.data⟩,⟨3,.guard⟩],some (3,false)⟩
abbrev zs2:Oper:=⟨some 122,.pick (.tmp 117) (.const (.bool true)) (.tmp 121),4,"ref.go:130",#[⟨3,.data⟩,⟨7,.data⟩],none⟩
abbrev zsC:Oper:=⟨some 123,.move (.tmp 122),4,"ref.go:130",#[⟨8,.data⟩,⟨3,.chain⟩],none⟩
abbrev zjW:Oper:=⟨some 124,.move (.tmp 7),3,"ref.go:130",#[⟨9,.guard⟩],some (9,false)⟩
abbrev zkZ:Oper:=⟨some 125,.binOp .gtr 3 (.tmp 124) (.const (.int .i64 0)) 3,4,"ref.go:130",#[⟨10,.data⟩,⟨9,.guard⟩],some (9,false)⟩
abbrev zkx:Oper:=⟨some 126,.move (.tmp 125),4,"ref.go:130",#[⟨11,.data⟩,⟨9,.chain⟩,⟨9,.guard⟩],some (9,false)⟩
abbrev zjZ:Oper:=⟨some 127,.fieldAddr 51 (.tmp 8) 1,0,"ref.go:130",#[⟨12,.guard⟩],some (12,true)⟩
abbrev zj5:Oper:=⟨some 128,.load 3 (.tmp 127),3,"ref.go:130",#[⟨13,.data⟩,⟨12,.guard⟩],some (12,true)⟩
abbrev zk2:Oper:=⟨some 129,.fieldAddr 26 (.tmp 1) 2,0,"ref.go:130",#[⟨12,.guard⟩],some (12,true)⟩
abbrev zkU:Oper:=⟨some 130,.load 24 (.tmp 129),24,"ref.go:130",#[⟨15,.data⟩,⟨12,.guard⟩],some (12,true)⟩
abbrev zkM:Oper:=⟨some 131,.move (.tmp 7),3,"ref.go:130",#[⟨12,.guard⟩],some (12,true)⟩
abbrev zkt:Oper:=⟨some 132,.binOp .sub 3 (.tmp 131) (.const (.int .i64 1)) 3,3,"ref.go:130",#[⟨17,.data⟩,⟨12,.guard⟩],some (12,true)⟩
abbrev zjK:Oper:=⟨some 133,.indexAddr 24 (.tmp 130) (.tmp 132),0,"ref.go:130",#[⟨16,.data⟩,⟨18,.data⟩,⟨12,.guard⟩],some (12,true)⟩
abbrev zju:Oper:=⟨some 134,.fieldAddr 51 (.tmp 133) 1,0,"ref.go:130",#[⟨19,.data⟩,⟨12,.guard⟩],some (12,true)⟩
abbrev zjY:Oper:=⟨some 135,.load 3 (.tmp 134),3,"ref.go:130",#[⟨20,.data⟩,⟨12,.guard⟩],some (12,true)⟩
abbrev zjH:Oper:=⟨some 136,.binOp .lss 3 (.tmp 128) (.tmp 135) 3,4,"ref.go:130",#[⟨14,.data⟩,⟨21,.data⟩,⟨12,.guard⟩],some (12,true)⟩
abbrev zje:Oper:=⟨some 137,.pick (.tmp 126) (.tmp 136) (.const (.bool false)),4,"ref.go:130",#[⟨12,.data⟩,⟨22,.data⟩,⟨9,.guard⟩],some (9,false)⟩
abbrev zkY:Oper:=⟨some 138,.pick (.tmp 123) (.const (.bool true)) (.tmp 137),4,"ref.go:130",#[⟨9,.data⟩,⟨23,.data⟩],none⟩
abbrev zkr:Oper:=⟨some 139,.move (.tmp 138),4,"ref.go:130",#[⟨24,.data⟩,⟨12,.chain⟩],none⟩
abbrev zj9:Oper:=⟨some 140,.load 51 (.tmp 8),51,"ref.go:130",#[⟨25,.guard⟩],some (25,false)⟩
abbrev zkz:Oper:=⟨some 141,.load 26 (.tmp 1),26,"ref.go:130",#[⟨25,.guard⟩],some (25,false)⟩
abbrev zjn:Oper:=⟨some 142,.call ⟨.value (.func 180),#[.tmp 140,.tmp 141],#[51,26]⟩,4,"ref.go:130",#[⟨26,.data⟩,⟨27,.data⟩,⟨25,.chain⟩,⟨25,.guard⟩],some (25,false)⟩
abbrev zkG:Oper:=⟨some 143,.unOp .not 4 (.tmp 142),4,"ref.go:130",#[⟨28,.data⟩,⟨25,.guard⟩],some (25,false)⟩
abbrev zjD:Oper:=⟨some 144,.pick (.tmp 139) (.const (.bool true)) (.tmp 143),4,"ref.go:130",#[⟨25,.data⟩,⟨29,.data⟩],none⟩
set_option maxRecDepth 100000 in
theorem zgG {g:Img} {w:World} (hg:Im w g) (hn:g.nmOk) :
 Calls Tryz.prog 136 #[imV g] w λe w'=>e=.returned (.bool (imB g))/\Below w.heap.size w w':=by
 obtain⟨w0,hw0⟩:∃ W,W=w.alloc (.cells (imA g) 26):=⟨_,rfl⟩;have HW0:Hid (w0=_):=hw0;have hb0:Below w.heap.size w w0:=by rw[hw0];exact zac _ _ _
 have HB0:Hid (Below w.heap.size w w0):=hb0;have hA:At w0 w.heap.size (imA g) 26:=by rw[hw0];exact At.made _ _ _
 have HAT:Hid (∀ W,Below w0.heap.size w0 W->At W w.heap.size (imA g) 26):=λW hW=>hA.later hW
 have HXt:Hid (∀ W,Below w0.heap.size w0 W->Es tdE W (.slice g.ta g.ts.length g.tc) g.ts):=λW hW=>hg.ts.later (zaa hb0 hW)
 have HXf:Hid (∀ W,Below w0.heap.size w0 W->Es fdE W (.slice g.fa g.fs.length g.fc) g.fs):=λW hW=>hg.fs.later (zaa hb0 hW)
 have HXm:Hid (∀ W,Below w0.heap.size w0 W->Es mdE W (.slice g.ma g.ms.length g.mc) g.ms):=λW hW=>hg.ms.later (zaa hb0 hW)
 have HTok:Hid (∀ W,Below w0.heap.size w0 W->∀ x∈g.ts,x.ok W):=λW hW x hx=>(hg.tok x hx).later (zaa hb0 hW)
 have HMok:Hid (∀ W,Below w0.heap.size w0 W->∀ x∈g.ms,x.ok W):=λW hW x hx=>(hg.mok x hx).later (zaa hb0 hW)
 have HN1:Hid (∀ x∈g.ts,x.nm.size<=maxLen):=hn.ts;have HN2:Hid (∀ x∈g.fs,x.nm.size<=maxLen):=hn.fs;have HN3:Hid (∀ x∈g.ms,x.nm.size<=maxLen):=hn.ms;have htl:=hg.ts.len;have hfl:=hg.fs.len;have hml:=hg.ms.len;unfold maxLen at htl hfl hml;have c1:=hA.cell;have HF:Hid (imB g=(decide (g.ts.length<=32)&&decide (g.fs.length<=64)&&decide (g.ms.length<=64)&&g.ts.all (tdB g.ts.length)&&(g.fs.all (fdB g.ts.length)&&zdH (g.fs.map (·.ow)))&&(g.ms.all (mdB g.ts.length g.fs.length g.ms.length)&&zdH (g.ms.map (·.ow)))&&(decide (g.en = -1)||(decide (0<=g.en)&&decide (g.en<g.ms.length))))):=rfl
 have HBt:Hid (g.ts.all (tdB g.ts.length)=false->imB g=false):=λh=>by rw[HF.out,h];simp
 have HBf:Hid (g.fs.all (fdB g.ts.length)=false->imB g=false):=λh=>by rw[HF.out,h];simp
 have HBf2:Hid (zdH (g.fs.map (·.ow))=false->imB g=false):=λh=>by rw[HF.out,h];simp
 have HBm:Hid (g.ms.all (mdB g.ts.length g.fs.length g.ms.length)=false->imB g=false):=λh=>by rw[HF.out,h];simp
 have HBm2:Hid (zdH (g.ms.map (·.ow))=false->imB g=false):=λh=>by rw[HF.out,h];simp
 unfold imA at c1 HW0;clear hw0 hb0 hA hg hn;unfold imV;go_enter Tryz.func136,Tryz.ntmps136;by_cases h32:32<g.ts.length
 ·have i1:(32:Int)<(g.ts.length:Int):=by omega
  go_wp2_with (rw[<- HW0.out])
  go_ret;exact⟨zab (by rw[HF.out,decide_eq_false (show ¬ g.ts.length<=32 by omega)];rfl),HB0.out⟩
 have i1:¬ (32:Int)<(g.ts.length:Int):=by omega
 by_cases h64:64<g.fs.length
 ·have i2:(64:Int)<(g.fs.length:Int):=by omega
  go_wp2_with (rw[<- HW0.out])
  go_ret;exact⟨zab (by rw[HF.out,decide_eq_false (show ¬ g.fs.length<=64 by omega)];simp),HB0.out⟩
 have i2:¬ (64:Int)<(g.fs.length:Int):=by omega
 by_cases h6m:64<g.ms.length
 ·have i3:(64:Int)<(g.ms.length:Int):=by omega
  go_wp2_with (rw[<- HW0.out])
  go_ret;exact⟨zab (by rw[HF.out,decide_eq_false (show ¬ g.ms.length<=64 by omega)];simp),HB0.out⟩
 have i3:¬ (64:Int)<(g.ms.length:Int):=by omega
 by_cases he1:g.en < -1
 ·go_wp2_with (rw[<- HW0.out])
  go_ret;exact⟨zab (by rw[HF.out,show (decide (g.en = -1)||(decide (0<=g.en)&&decide (g.en<g.ms.length)))=false by simp;omega];simp),HB0.out⟩
 by_cases he2:(g.ms.length:Int)<=g.en
 ·go_wp2_with (rw[<- HW0.out])
  go_ret;exact⟨zab (by rw[HF.out,show (decide (g.en = -1)||(decide (0<=g.en)&&decide (g.en<g.ms.length)))=false by simp;omega];simp),HB0.out⟩
 have HOK:Hid (g.ts.all (tdB g.ts.length)=true->g.fs.all (fdB g.ts.length)=true->zdH (g.fs.map (·.ow))=true->g.ms.all (mdB g.ts.length g.fs.length g.ms.length)=true->zdH (g.ms.map (·.ow))=true->imB g=true):=λq1 q2 q3 q4 q5=>by
  rw[HF.out,q1,q2,q3,q4,q5,decide_eq_true (show g.ts.length<=32 by omega),decide_eq_true (show g.fs.length<=64 by omega),decide_eq_true (show g.ms.length<=64 by omega),show (decide (g.en = -1)||(decide (0<=g.en)&&decide (g.en<g.ms.length)))=true by simp;omega];rfl
 clear HF;go_wp2_with (rw[<- HW0.out])
 clear c1 h32 h64 h6m he1 he2;go_loopw [4] (λz wr=>∃ q:Nat,q<=g.ts.length/\z=.int .i64 q/\Below w0.heap.size w0 wr/\Hid ((g.ts.take q).all (tdB g.ts.length)=true)) (λz _=>g.ts.length - (intOf z).toNat)
 case atStart=>exact⟨0,Nat.zero_le _,rfl,Below.refl _ _,by show _=_;simp⟩
 case round =>
  obtain⟨q,hq,rfl,hB,HA⟩:=hrel;have HBr:Hid (Below w0.heap.size w0 wr):=hB;by_cases hql:q<g.ts.length
  ·obtain⟨b,off,hfa,hb,h6,h7,hc⟩:=(HXt.out wr hB).at hql;have d1:=HAT.out wr hB;unfold imA at d1;rw[hfa]at d1;have c1:=d1.cell;obtain⟨k0,k1,k2,k3⟩:=(show El tdE wr b (off+q * 4) g.ts[q] from hc q hql).cells_T
   have HY:Hid (tdB g.ts.length g.ts[q]=true->(g.ts.take (q+1)).all (tdB g.ts.length)=true):=λh=>zbw hql HA.out h
   have HN:Hid (tdB g.ts.length g.ts[q]=false->imB g=false):=λh=>HBt.out (zdr hql h)
   have HMy:Hid (Calls Tryz.prog 177 #[.agg (tdA g.ts[q]),.int .i64 g.ts.length] wr λe w'=>e=.returned (.bool (tdB g.ts.length g.ts[q]))/\Below wr.heap.size wr w'):=zdI g.ts.length g.ts[q] (HTok.out wr hB _ (List.getElem_mem hql)) (HN1.out _ (List.getElem_mem hql))
   generalize g.ts[q]=y at *;unfold maxLen at h7;unfold tdA at HMy;clear hfa hc hB d1;go_wp2_with fail
   refine Calls.mono HMy.out ?_;rintro e w2 ⟨rfl,hb2⟩;have HB2:Hid (Below w0.heap.size w0 w2):=zaa HBr.out hb2;clear c1 k0 k1 k2 k3 HMy hb2
   cases hm:tdB g.ts.length y with
   | false =>
    have HBad:Hid _:=HN.out hm;go_wp2_with fail
    go_ret;exact⟨zab HBad.out.symm,zaa HB0.out HB2.out⟩
   | true =>
    have HY2:Hid _:=HY.out hm;clear HY HN;go_wp2_with fail
    go_roundw
    case rel=>exact⟨q+1,by omega,by go_num,HB2.out,HY2.out⟩
    case measure=>simp[intOf];omega
  have HT1:Hid (g.ts.all (tdB g.ts.length)=true):=zbQ hql HA.out;have c1:=(HAT.out wr hB).cell;unfold imA at c1;clear HA hB;go_wp2_with fail
  clear c1;have HNm:=HN2;go_loopw [5] (λz wr2=>∃ q:Nat,q<=g.fs.length/\z=.int .i64 q/\Below w0.heap.size w0 wr2/\Hid ((g.fs.take q).all (fdB g.ts.length)=true)/\Hid (znq (g.fs.map (·.ow)) q)) (λz _=>g.fs.length - (intOf z).toNat)
  case atStart=>exact⟨0,Nat.zero_le _,rfl,HBr.out,by show _=_;simp,λj hj h=>by omega⟩
  case round =>
   obtain⟨q,hq,rfl,hB,HA,HZ⟩:=hrel;have HBr:Hid (Below w0.heap.size w0 wr):=hB;by_cases hql:q<g.fs.length
   ·have HOR:Hid (∀ W,Below w0.heap.size w0 W->Es fdE W (.slice g.fa g.fs.length g.fc) g.fs):=HXf;obtain⟨b,off,hfa,hb,h6,h7,hc⟩:=(HOR.out wr hB).at hql;have HCs:Hid (∀ i (hi:i<g.fs.length),El fdE wr b (off+i * 7) g.fs[i]):=hc;have HIm:Hid (∀ W,Below w0.heap.size w0 W->At W w.heap.size #[.slice g.ta g.ts.length g.tc,.slice (some ⟨b,off,none⟩) g.fs.length g.fc,.slice g.ma g.ms.length g.mc,.int .i64 g.en] 26):=λW hW=>by
     have:=HAT.out W hW;unfold imA at this;rw[hfa]at this;exact this
    have HMem:Hid (g.fs[q]∈g.fs):=List.getElem_mem hql;have HY:Hid (fdB g.ts.length g.fs[q]=true->(g.fs.take (q+1)).all (fdB g.ts.length)=true):=λh=>zbw hql HA.out h
    have HN:Hid (fdB g.ts.length g.fs[q]=false->imB g=false):=λh=>HBf.out (zdr hql h)
    have HZ0:Hid (q=0->znq (g.fs.map (·.ow)) (q+1)):=λh=>zib h
    have HZk:Hid (∀ k (h:k<g.fs.length),q=k+1->g.fs[k].ow<=g.fs[q].ow->znq (g.fs.map (·.ow)) (q+1)):=λk h hk hle=>zik hk HZ.out (by simpa using hql) (by subst hk;simpa using hle)
    have HNk:Hid (∀ k (h:k<g.fs.length),q=k+1->g.fs[q].ow<g.fs[k].ow->imB g=false):=λk h hk hlt=>HBf2.out (zlJ (k:=k) (by subst hk;simpa using hql) (by subst hk;simpa using hlt))
    have hcq:=(show El fdE wr b (off+q * 7) g.fs[q] from HCs.out q hql).cells_F
    generalize g.fs[q]=y at *;obtain⟨k0,k1,k2,k3,k4,k5,k6⟩:=hcq;have d1:=(HIm.out wr hB).cell;unfold maxLen at h7;obtain⟨wA,hwA⟩:∃ W,W=wr.alloc (.cells (fdA y) 62):=⟨_,rfl⟩;have HWA:Hid (wA=_):=hwA;have hbA:Below wr.heap.size wr wA:=by rw[hwA];exact zac _ _ _
    have HBw:Hid (Below wr.heap.size wr wA):=hbA;have HBA:Hid (Below w0.heap.size w0 wA):=zaa hB hbA;have hAA:At wA wr.heap.size (fdA y) 62:=by rw[hwA];exact At.made _ _ _
    have HK:Hid (∀ W,Below wA.heap.size wA W->W.cell? ⟨wr.heap.size,0,none⟩=some (.string y.nm)/\W.cell? ⟨wr.heap.size,1,none⟩=some (.int .i64 y.ow)/\W.cell? ⟨wr.heap.size,2,none⟩=some (.int .i64 y.t.1)/\W.cell? ⟨wr.heap.size,3,none⟩=some (.int .i64 y.t.2.1)/\W.cell? ⟨wr.heap.size,4,none⟩=some (.int .i64 y.t.2.2.1)/\W.cell? ⟨wr.heap.size,5,none⟩=some (.bool y.t.2.2.2)/\W.cell? ⟨wr.heap.size,6,none⟩=some (.bool y.st)/\W.cell? ⟨w.heap.size,0,none⟩=some (.slice g.ta g.ts.length g.tc)/\W.cell? ⟨w.heap.size,1,none⟩=some (.slice (some ⟨b,off,none⟩) g.fs.length g.fc)/\W.cell? ⟨w.heap.size,2,none⟩=some (.slice g.ma g.ms.length g.mc)/\W.cell? ⟨w.heap.size,3,none⟩=some (.int .i64 g.en)):=λW hW=>by
     have hx:=hAA.later hW;have hi:=HIm.out W (zaa HBA.out hW);exact⟨hx.cell 0,hx.cell 1,hx.cell 2,hx.cell 3,hx.cell 4,hx.cell 5,hx.cell 6,hi.cell 0,hi.cell 1,hi.cell 2,hi.cell 3⟩
    have HFn:Hid (∀ W,Calls Tryz.prog 178 #[.string y.nm] W λe w'=>e=.returned (.bool (zaP y.nm.data.toList))/\w'=W):=λW=>zdc y.nm (HNm.out y HMem.out) W
    have HMy:Hid (∀ W,Calls Tryz.prog 179 #[.agg #[.int .i64 y.t.1,.int .i64 y.t.2.1,.int .i64 y.t.2.2.1,.bool y.t.2.2.2],.int .i64 1,.int .i64 g.ts.length] W λe w'=>e=.returned (.bool (mB 1 g.ts.length y.t))/\Below W.heap.size W w'):=λW=>zb4 (p:=1) (.inl rfl) y.t g.ts.length W
    unfold fdA at HWA;clear hfa hwA hbA hAA hc hB HOR HA HZ;go_wp2_with (rw[<- HWA.out])
    clear k0 k1 k2 k3 k4 k5 k6 d1
    cases hfi:zaP y.nm.data.toList with
    | false =>
     have HBad:Hid (imB g=false):=HN.out (by unfold fdB;rw[hfi];simp)
     rw[hfi]at HFn;clear hfi HY HN HZ0 HZk HNk;refine wp_region_held_drew (S:=(λW=>W.cell? ⟨wr.heap.size,0,none⟩=some (.string y.nm)/\W.cell? ⟨wr.heap.size,1,none⟩=some (.int .i64 y.ow)/\W.cell? ⟨wr.heap.size,2,none⟩=some (.int .i64 y.t.1)/\W.cell? ⟨wr.heap.size,3,none⟩=some (.int .i64 y.t.2.1)/\W.cell? ⟨wr.heap.size,4,none⟩=some (.int .i64 y.t.2.2.1)/\W.cell? ⟨wr.heap.size,5,none⟩=some (.bool y.t.2.2.2)/\W.cell? ⟨wr.heap.size,6,none⟩=some (.bool y.st)/\W.cell? ⟨w.heap.size,0,none⟩=some (.slice g.ta g.ts.length g.tc)/\W.cell? ⟨w.heap.size,1,none⟩=some (.slice (some ⟨b,off,none⟩) g.fs.length g.fc)/\W.cell? ⟨w.heap.size,2,none⟩=some (.slice g.ma g.ms.length g.mc)/\W.cell? ⟨w.heap.size,3,none⟩=some (.int .i64 g.en))) (by kernel_rfl) (HK.out _ (zad _)) (λyb=>?_)
     refine tY 0 zrT (.pointer (some ⟨wr.heap.size,0,none⟩)) yb ?_;refine tY 1 zr2 (.string y.nm) yb ?_;refine wpAnyH_ready (rs:=[2]) (by kernel_rfl) (by simp) ?_
     refine AllReadyH.cons (o:=zrp) rfl (λK hK=>?_) AllReadyH.nil
     go_simp
     refine (HFn.out _).mono ?_;rintro e wz ⟨rfl,hz⟩;subst wz;have hBc:Below wA.heap.size wA wA.drew:=zad wA
     try go_wp2_with fail
     refine hK.out _ _ (HK.out _ hBc) (λyb=>?_)
     clear hK K
     try simp only[Act.put,sA,s0,sS]
     refine tY 3 zsg (.bool true) yb ?_;refine tY 4 zr7 (.bool true) yb ?_;refine tN 5 zrj yb ?_;refine tN 6 zsa yb ?_;refine tN 7 zru yb ?_;refine tY 8 zrm (.bool true) yb ?_;refine tY 9 zrA (.bool true) yb ?_;refine tN 10 zhH yb ?_;refine tN 11 zic yb ?_;refine tN 12 zhF yb ?_;refine tN 13 zhM yb ?_;refine tY 14 zhQ (.bool true) yb ?_;refine tY 15 zhI (.bool true) yb ?_;refine tN 16 zif yb ?_;refine tN 17 zi5 yb ?_;refine tN 18 ziA yb ?_;refine tN 19 ziH yb ?_;refine tN 20 zis yb ?_;refine tN 21 ziV yb ?_;refine tN 22 zi7 yb ?_;refine tN 23 zii yb ?_;refine tN 24 zh4 yb ?_;refine tN 25 ziw yb ?_;refine tN 26 zh0 yb ?_;refine tN 27 zhD yb ?_;refine tN 28 zhz yb ?_;refine tN 29 ziX yb ?_;refine tY 30 ziQ (.bool true) yb ?_;refine tY 31 zir (.bool true) yb ?_;refine tN 32 zin yb ?_;refine tN 33 ziD yb ?_;refine tN 34 zim yb ?_;refine tN 35 zh6 yb ?_;refine tN 36 ziq yb ?_;refine tY 37 zi3 (.bool true) yb ?_;refine wpAnyH_done (by kernel_rfl) ?_ _
     have HB1:Hid (Below w0.heap.size w0 wA.drew):=zaa HBA.out (zad _);go_wp2_with fail
     go_ret;exact⟨zab HBad.out.symm,zaa HB0.out HB1.out⟩
    | true =>
    have HFi:Hid (zaP y.nm.data.toList=true):=hfi;rw[hfi]at HFn;clear hfi;by_cases g1:y.ow<0
    ·have HBad:Hid (imB g=false):=HN.out (by unfold fdB zam;simp;omega)
     clear HY HN HZ0 HZk HNk;refine wp_region_held_drew (S:=(λW=>W.cell? ⟨wr.heap.size,0,none⟩=some (.string y.nm)/\W.cell? ⟨wr.heap.size,1,none⟩=some (.int .i64 y.ow)/\W.cell? ⟨wr.heap.size,2,none⟩=some (.int .i64 y.t.1)/\W.cell? ⟨wr.heap.size,3,none⟩=some (.int .i64 y.t.2.1)/\W.cell? ⟨wr.heap.size,4,none⟩=some (.int .i64 y.t.2.2.1)/\W.cell? ⟨wr.heap.size,5,none⟩=some (.bool y.t.2.2.2)/\W.cell? ⟨wr.heap.size,6,none⟩=some (.bool y.st)/\W.cell? ⟨w.heap.size,0,none⟩=some (.slice g.ta g.ts.length g.tc)/\W.cell? ⟨w.heap.size,1,none⟩=some (.slice (some ⟨b,off,none⟩) g.fs.length g.fc)/\W.cell? ⟨w.heap.size,2,none⟩=some (.slice g.ma g.ms.length g.mc)/\W.cell? ⟨w.heap.size,3,none⟩=some (.int .i64 g.en))) (by kernel_rfl) (HK.out _ (zad _)) (λyb=>?_)
     refine tY 0 zrT (.pointer (some ⟨wr.heap.size,0,none⟩)) yb ?_;refine tY 1 zr2 (.string y.nm) yb ?_;refine wpAnyH_ready (rs:=[2]) (by kernel_rfl) (by simp) ?_
     refine AllReadyH.cons (o:=zrp) rfl (λK hK=>?_) AllReadyH.nil
     go_simp
     refine (HFn.out _).mono ?_;rintro e wz ⟨rfl,hz⟩;subst wz;have hBc:Below wA.heap.size wA wA.drew:=zad wA
     try go_wp2_with fail
     refine hK.out _ _ (HK.out _ hBc) (λyb=>?_)
     clear hK K
     try simp only[Act.put,sA,s0,sS]
     refine tY 3 zsg (.bool false) yb ?_;refine tY 4 zr7 (.bool false) yb ?_;refine tY 5 zrj (.pointer (some ⟨wr.heap.size,1,none⟩)) yb ?_;refine tY 6 zsa (.int .i64 y.ow) yb ?_;refine tY 7 zru (.bool true) yb ?_;refine tY 8 zrm (.bool true) yb ?_;refine tY 9 zrA (.bool true) yb ?_;refine tN 10 zhH yb ?_;refine tN 11 zic yb ?_;refine tN 12 zhF yb ?_;refine tN 13 zhM yb ?_;refine tY 14 zhQ (.bool true) yb ?_;refine tY 15 zhI (.bool true) yb ?_;refine tN 16 zif yb ?_;refine tN 17 zi5 yb ?_;refine tN 18 ziA yb ?_;refine tN 19 ziH yb ?_;refine tN 20 zis yb ?_;refine tN 21 ziV yb ?_;refine tN 22 zi7 yb ?_;refine tN 23 zii yb ?_;refine tN 24 zh4 yb ?_;refine tN 25 ziw yb ?_;refine tN 26 zh0 yb ?_;refine tN 27 zhD yb ?_;refine tN 28 zhz yb ?_;refine tN 29 ziX yb ?_;refine tY 30 ziQ (.bool true) yb ?_;refine tY 31 zir (.bool true) yb ?_;refine tN 32 zin yb ?_;refine tN 33 ziD yb ?_;refine tN 34 zim yb ?_;refine tN 35 zh6 yb ?_;refine tN 36 ziq yb ?_;refine tY 37 zi3 (.bool true) yb ?_;refine wpAnyH_done (by kernel_rfl) ?_ _
     have HB1:Hid (Below w0.heap.size w0 wA.drew):=zaa HBA.out (zad _);go_wp2_with fail
     go_ret;exact⟨zab HBad.out.symm,zaa HB0.out HB1.out⟩
    by_cases g2:(g.ts.length:Int)<=y.ow
    ·have HBad:Hid (imB g=false):=HN.out (by unfold fdB zam;simp;omega)
     clear HY HN HZ0 HZk HNk;refine wp_region_held_drew (S:=(λW=>W.cell? ⟨wr.heap.size,0,none⟩=some (.string y.nm)/\W.cell? ⟨wr.heap.size,1,none⟩=some (.int .i64 y.ow)/\W.cell? ⟨wr.heap.size,2,none⟩=some (.int .i64 y.t.1)/\W.cell? ⟨wr.heap.size,3,none⟩=some (.int .i64 y.t.2.1)/\W.cell? ⟨wr.heap.size,4,none⟩=some (.int .i64 y.t.2.2.1)/\W.cell? ⟨wr.heap.size,5,none⟩=some (.bool y.t.2.2.2)/\W.cell? ⟨wr.heap.size,6,none⟩=some (.bool y.st)/\W.cell? ⟨w.heap.size,0,none⟩=some (.slice g.ta g.ts.length g.tc)/\W.cell? ⟨w.heap.size,1,none⟩=some (.slice (some ⟨b,off,none⟩) g.fs.length g.fc)/\W.cell? ⟨w.heap.size,2,none⟩=some (.slice g.ma g.ms.length g.mc)/\W.cell? ⟨w.heap.size,3,none⟩=some (.int .i64 g.en))) (by kernel_rfl) (HK.out _ (zad _)) (λyb=>?_)
     refine tY 0 zrT (.pointer (some ⟨wr.heap.size,0,none⟩)) yb ?_;refine tY 1 zr2 (.string y.nm) yb ?_;refine wpAnyH_ready (rs:=[2]) (by kernel_rfl) (by simp) ?_
     refine AllReadyH.cons (o:=zrp) rfl (λK hK=>?_) AllReadyH.nil
     go_simp
     refine (HFn.out _).mono ?_;rintro e wz ⟨rfl,hz⟩;subst wz;have hBc:Below wA.heap.size wA wA.drew:=zad wA
     try go_wp2_with fail
     refine hK.out _ _ (HK.out _ hBc) (λyb=>?_)
     clear hK K
     try simp only[Act.put,sA,s0,sS]
     refine tY 3 zsg (.bool false) yb ?_;refine tY 4 zr7 (.bool false) yb ?_;refine tY 5 zrj (.pointer (some ⟨wr.heap.size,1,none⟩)) yb ?_;refine tY 6 zsa (.int .i64 y.ow) yb ?_;refine tY 7 zru (.bool false) yb ?_;refine tY 8 zrm (.bool false) yb ?_;refine tY 9 zrA (.bool false) yb ?_;refine tY 10 zhH (.pointer (some ⟨wr.heap.size,1,none⟩)) yb ?_;refine tY 11 zic (.int .i64 y.ow) yb ?_;refine tY 12 zhF (.int .i64 g.ts.length) yb ?_;refine tY 13 zhM (.bool true) yb ?_;refine tY 14 zhQ (.bool true) yb ?_;refine tY 15 zhI (.bool true) yb ?_;refine tN 16 zif yb ?_;refine tN 17 zi5 yb ?_;refine tN 18 ziA yb ?_;refine tN 19 ziH yb ?_;refine tN 20 zis yb ?_;refine tN 21 ziV yb ?_;refine tN 22 zi7 yb ?_;refine tN 23 zii yb ?_;refine tN 24 zh4 yb ?_;refine tN 25 ziw yb ?_;refine tN 26 zh0 yb ?_;refine tN 27 zhD yb ?_;refine tN 28 zhz yb ?_;refine tN 29 ziX yb ?_;refine tY 30 ziQ (.bool true) yb ?_;refine tY 31 zir (.bool true) yb ?_;refine tN 32 zin yb ?_;refine tN 33 ziD yb ?_;refine tN 34 zim yb ?_;refine tN 35 zh6 yb ?_;refine tN 36 ziq yb ?_;refine tY 37 zi3 (.bool true) yb ?_;refine wpAnyH_done (by kernel_rfl) ?_ _
     have HB1:Hid (Below w0.heap.size w0 wA.drew):=zaa HBA.out (zad _);go_wp2_with fail
     go_ret;exact⟨zab HBad.out.symm,zaa HB0.out HB1.out⟩
    have HNu:Hid (zam y.ow g.ts.length=true):=by show _=_;unfold zam;simp;omega
    by_cases hq0:q=0
    ·have i0:¬ (0:Int)<(q:Int):=by omega
     cases hm:mB 1 g.ts.length y.t with
     | false =>
      have HBad:Hid (imB g=false):=HN.out (by show (_&&mB 1 g.ts.length y.t)=false;rw[hm];simp)
      rw[hm]at HMy;clear hm HY HN HZ0 HZk HNk;refine wp_region_held_drew (S:=(λW=>W.cell? ⟨wr.heap.size,0,none⟩=some (.string y.nm)/\W.cell? ⟨wr.heap.size,1,none⟩=some (.int .i64 y.ow)/\W.cell? ⟨wr.heap.size,2,none⟩=some (.int .i64 y.t.1)/\W.cell? ⟨wr.heap.size,3,none⟩=some (.int .i64 y.t.2.1)/\W.cell? ⟨wr.heap.size,4,none⟩=some (.int .i64 y.t.2.2.1)/\W.cell? ⟨wr.heap.size,5,none⟩=some (.bool y.t.2.2.2)/\W.cell? ⟨wr.heap.size,6,none⟩=some (.bool y.st)/\W.cell? ⟨w.heap.size,0,none⟩=some (.slice g.ta g.ts.length g.tc)/\W.cell? ⟨w.heap.size,1,none⟩=some (.slice (some ⟨b,off,none⟩) g.fs.length g.fc)/\W.cell? ⟨w.heap.size,2,none⟩=some (.slice g.ma g.ms.length g.mc)/\W.cell? ⟨w.heap.size,3,none⟩=some (.int .i64 g.en))) (by kernel_rfl) (HK.out _ (zad _)) (λyb=>?_)
      refine tY 0 zrT (.pointer (some ⟨wr.heap.size,0,none⟩)) yb ?_;refine tY 1 zr2 (.string y.nm) yb ?_;refine wpAnyH_ready (rs:=[2]) (by kernel_rfl) (by simp) ?_
      refine AllReadyH.cons (o:=zrp) rfl (λK hK=>?_) AllReadyH.nil
      go_simp
      refine (HFn.out _).mono ?_;rintro e wz ⟨rfl,hz⟩;subst wz;have hBc:Below wA.heap.size wA wA.drew:=zad wA
      try go_wp2_with fail
      refine hK.out _ _ (HK.out _ hBc) (λyb=>?_)
      clear hK K
      try simp only[Act.put,sA,s0,sS]
      refine tY 3 zsg (.bool false) yb ?_;refine tY 4 zr7 (.bool false) yb ?_;refine tY 5 zrj (.pointer (some ⟨wr.heap.size,1,none⟩)) yb ?_;refine tY 6 zsa (.int .i64 y.ow) yb ?_;refine tY 7 zru (.bool false) yb ?_;refine tY 8 zrm (.bool false) yb ?_;refine tY 9 zrA (.bool false) yb ?_;refine tY 10 zhH (.pointer (some ⟨wr.heap.size,1,none⟩)) yb ?_;refine tY 11 zic (.int .i64 y.ow) yb ?_;refine tY 12 zhF (.int .i64 g.ts.length) yb ?_;refine tY 13 zhM (.bool false) yb ?_;refine tY 14 zhQ (.bool false) yb ?_;refine tY 15 zhI (.bool false) yb ?_;refine tY 16 zif (.int .i64 q) yb ?_;refine tY 17 zi5 (.bool false) yb ?_;refine tY 18 ziA (.bool false) yb ?_;refine tN 19 ziH yb ?_;refine tN 20 zis yb ?_;refine tN 21 ziV yb ?_;refine tN 22 zi7 yb ?_;refine tN 23 zii yb ?_;refine tN 24 zh4 yb ?_;refine tN 25 ziw yb ?_;refine tN 26 zh0 yb ?_;refine tN 27 zhD yb ?_;refine tN 28 zhz yb ?_;refine tY 29 ziX (.bool false) yb ?_;refine tY 30 ziQ (.bool false) yb ?_;refine tY 31 zir (.bool false) yb ?_;refine tY 32 zin (.pointer (some ⟨wr.heap.size,2,none⟩)) yb ?_;refine tY 33 ziD (.agg #[.int .i64 y.t.1,.int .i64 y.t.2.1,.int .i64 y.t.2.2.1,.bool y.t.2.2.2]) yb ?_;refine tY 34 zim (.int .i64 g.ts.length) yb ?_;refine wpAnyH_ready (rs:=[35]) (by kernel_rfl) (by simp) ?_
      refine AllReadyH.cons (o:=zh6) rfl (λK hK=>?_) AllReadyH.nil
      go_simp
      refine (HMy.out _).mono ?_;rintro e w1 ⟨rfl,hb1⟩
      replace hBc:Below wA.heap.size wA w1:=zaa hBc hb1
      try go_wp2_with fail
      refine hK.out _ _ (HK.out _ hBc) (λyb=>?_)
      clear hK K
      try simp only[Act.put,sA,s0,sS]
      refine tY 36 ziq (.bool true) yb ?_;refine tY 37 zi3 (.bool true) yb ?_;refine wpAnyH_done (by kernel_rfl) ?_ _
      have HB1:Hid (Below w0.heap.size w0 w1):=zaa HBA.out hBc;clear hBc hb1;go_wp2_with fail
      go_ret;exact⟨zab HBad.out.symm,zaa HB0.out HB1.out⟩
     | true =>
      have HY2:Hid _:=HY.out (by show (_&&_&&mB 1 g.ts.length y.t)=true;rw[HFi.out,HNu.out,hm];rfl)
      have HZ2:Hid _:=HZ0.out hq0;rw[hm]at HMy;clear hm HY HN HZ0 HZk HNk;refine wp_region_held_drew (S:=(λW=>W.cell? ⟨wr.heap.size,0,none⟩=some (.string y.nm)/\W.cell? ⟨wr.heap.size,1,none⟩=some (.int .i64 y.ow)/\W.cell? ⟨wr.heap.size,2,none⟩=some (.int .i64 y.t.1)/\W.cell? ⟨wr.heap.size,3,none⟩=some (.int .i64 y.t.2.1)/\W.cell? ⟨wr.heap.size,4,none⟩=some (.int .i64 y.t.2.2.1)/\W.cell? ⟨wr.heap.size,5,none⟩=some (.bool y.t.2.2.2)/\W.cell? ⟨wr.heap.size,6,none⟩=some (.bool y.st)/\W.cell? ⟨w.heap.size,0,none⟩=some (.slice g.ta g.ts.length g.tc)/\W.cell? ⟨w.heap.size,1,none⟩=some (.slice (some ⟨b,off,none⟩) g.fs.length g.fc)/\W.cell? ⟨w.heap.size,2,none⟩=some (.slice g.ma g.ms.length g.mc)/\W.cell? ⟨w.heap.size,3,none⟩=some (.int .i64 g.en))) (by kernel_rfl) (HK.out _ (zad _)) (λyb=>?_)
      refine tY 0 zrT (.pointer (some ⟨wr.heap.size,0,none⟩)) yb ?_;refine tY 1 zr2 (.string y.nm) yb ?_;refine wpAnyH_ready (rs:=[2]) (by kernel_rfl) (by simp) ?_
      refine AllReadyH.cons (o:=zrp) rfl (λK hK=>?_) AllReadyH.nil
      go_simp
      refine (HFn.out _).mono ?_;rintro e wz ⟨rfl,hz⟩;subst wz;have hBc:Below wA.heap.size wA wA.drew:=zad wA
      try go_wp2_with fail
      refine hK.out _ _ (HK.out _ hBc) (λyb=>?_)
      clear hK K
      try simp only[Act.put,sA,s0,sS]
      refine tY 3 zsg (.bool false) yb ?_;refine tY 4 zr7 (.bool false) yb ?_;refine tY 5 zrj (.pointer (some ⟨wr.heap.size,1,none⟩)) yb ?_;refine tY 6 zsa (.int .i64 y.ow) yb ?_;refine tY 7 zru (.bool false) yb ?_;refine tY 8 zrm (.bool false) yb ?_;refine tY 9 zrA (.bool false) yb ?_;refine tY 10 zhH (.pointer (some ⟨wr.heap.size,1,none⟩)) yb ?_;refine tY 11 zic (.int .i64 y.ow) yb ?_;refine tY 12 zhF (.int .i64 g.ts.length) yb ?_;refine tY 13 zhM (.bool false) yb ?_;refine tY 14 zhQ (.bool false) yb ?_;refine tY 15 zhI (.bool false) yb ?_;refine tY 16 zif (.int .i64 q) yb ?_;refine tY 17 zi5 (.bool false) yb ?_;refine tY 18 ziA (.bool false) yb ?_;refine tN 19 ziH yb ?_;refine tN 20 zis yb ?_;refine tN 21 ziV yb ?_;refine tN 22 zi7 yb ?_;refine tN 23 zii yb ?_;refine tN 24 zh4 yb ?_;refine tN 25 ziw yb ?_;refine tN 26 zh0 yb ?_;refine tN 27 zhD yb ?_;refine tN 28 zhz yb ?_;refine tY 29 ziX (.bool false) yb ?_;refine tY 30 ziQ (.bool false) yb ?_;refine tY 31 zir (.bool false) yb ?_;refine tY 32 zin (.pointer (some ⟨wr.heap.size,2,none⟩)) yb ?_;refine tY 33 ziD (.agg #[.int .i64 y.t.1,.int .i64 y.t.2.1,.int .i64 y.t.2.2.1,.bool y.t.2.2.2]) yb ?_;refine tY 34 zim (.int .i64 g.ts.length) yb ?_;refine wpAnyH_ready (rs:=[35]) (by kernel_rfl) (by simp) ?_
      refine AllReadyH.cons (o:=zh6) rfl (λK hK=>?_) AllReadyH.nil
      go_simp
      refine (HMy.out _).mono ?_;rintro e w1 ⟨rfl,hb1⟩
      replace hBc:Below wA.heap.size wA w1:=zaa hBc hb1
      try go_wp2_with fail
      refine hK.out _ _ (HK.out _ hBc) (λyb=>?_)
      clear hK K
      try simp only[Act.put,sA,s0,sS]
      refine tY 36 ziq (.bool false) yb ?_;refine tY 37 zi3 (.bool false) yb ?_;refine wpAnyH_done (by kernel_rfl) ?_ _
      have HB1:Hid (Below w0.heap.size w0 w1):=zaa HBA.out hBc;clear hBc hb1;go_wp2_with fail
      go_roundw
      case rel=>exact⟨q+1,by omega,by go_num,HB1.out,HY2.out,HZ2.out⟩
      case measure=>simp[intOf];omega
    obtain⟨k,hk⟩:∃ k,q=k+1:=⟨q - 1,by omega⟩
    have i0:(0:Int)<(q:Int):=by omega
    have i0n:0<q:=by omega
    have i2:k<g.fs.length:=by omega
    have i3:(k:Int)<(g.fs.length:Int):=by omega
    have e2:IntKind.i64.wrap ((q:Int) - 1)=(k:Int):=by rw[IntKind.wrap_i64];omega
    have HZr:Hid (g.fs[k].ow<=y.ow->znq (g.fs.map (·.ow)) (q+1)):=HZk.out k i2 hk;have HNr:Hid (y.ow<g.fs[k].ow->imB g=false):=HNk.out k i2 hk;have HPz:Hid (∀ W,Below wA.heap.size wA W->W.cell? ⟨b,off+k * 7+1,none⟩=some (.int .i64 g.fs[k].ow)):=λW hW=>((show El fdE wr b (off+k * 7) g.fs[k] from HCs.out k i2).below (zaa HBw.out hW) hb).cells_F.2.1
    generalize g.fs[k]=z at *;have HK2:Hid (∀ W,Below wA.heap.size wA W->W.cell? ⟨b,off+k * 7+1,none⟩=some (.int .i64 z.ow)/\W.cell? ⟨wr.heap.size,0,none⟩=some (.string y.nm)/\W.cell? ⟨wr.heap.size,1,none⟩=some (.int .i64 y.ow)/\W.cell? ⟨wr.heap.size,2,none⟩=some (.int .i64 y.t.1)/\W.cell? ⟨wr.heap.size,3,none⟩=some (.int .i64 y.t.2.1)/\W.cell? ⟨wr.heap.size,4,none⟩=some (.int .i64 y.t.2.2.1)/\W.cell? ⟨wr.heap.size,5,none⟩=some (.bool y.t.2.2.2)/\W.cell? ⟨wr.heap.size,6,none⟩=some (.bool y.st)/\W.cell? ⟨w.heap.size,0,none⟩=some (.slice g.ta g.ts.length g.tc)/\W.cell? ⟨w.heap.size,1,none⟩=some (.slice (some ⟨b,off,none⟩) g.fs.length g.fc)/\W.cell? ⟨w.heap.size,2,none⟩=some (.slice g.ma g.ms.length g.mc)/\W.cell? ⟨w.heap.size,3,none⟩=some (.int .i64 g.en)):=λW hW=>⟨HPz.out W hW,HK.out W hW⟩
    have HQk:Hid (q=k+1):=hk;clear hk;by_cases g3:y.ow<z.ow
    ·have HBad:Hid (imB g=false):=HNr.out g3;clear HY HN HZ0 HZk HNk;refine wp_region_held_drew (S:=(λW=>W.cell? ⟨b,off+k * 7+1,none⟩=some (.int .i64 z.ow)/\W.cell? ⟨wr.heap.size,0,none⟩=some (.string y.nm)/\W.cell? ⟨wr.heap.size,1,none⟩=some (.int .i64 y.ow)/\W.cell? ⟨wr.heap.size,2,none⟩=some (.int .i64 y.t.1)/\W.cell? ⟨wr.heap.size,3,none⟩=some (.int .i64 y.t.2.1)/\W.cell? ⟨wr.heap.size,4,none⟩=some (.int .i64 y.t.2.2.1)/\W.cell? ⟨wr.heap.size,5,none⟩=some (.bool y.t.2.2.2)/\W.cell? ⟨wr.heap.size,6,none⟩=some (.bool y.st)/\W.cell? ⟨w.heap.size,0,none⟩=some (.slice g.ta g.ts.length g.tc)/\W.cell? ⟨w.heap.size,1,none⟩=some (.slice (some ⟨b,off,none⟩) g.fs.length g.fc)/\W.cell? ⟨w.heap.size,2,none⟩=some (.slice g.ma g.ms.length g.mc)/\W.cell? ⟨w.heap.size,3,none⟩=some (.int .i64 g.en))) (by kernel_rfl) (HK2.out _ (zad _)) (λyb=>?_)
     refine tY 0 zrT (.pointer (some ⟨wr.heap.size,0,none⟩)) yb ?_;refine tY 1 zr2 (.string y.nm) yb ?_;refine wpAnyH_ready (rs:=[2]) (by kernel_rfl) (by simp) ?_
     refine AllReadyH.cons (o:=zrp) rfl (λK hK=>?_) AllReadyH.nil
     go_simp
     refine (HFn.out _).mono ?_;rintro e wz ⟨rfl,hz⟩;subst wz;have hBc:Below wA.heap.size wA wA.drew:=zad wA
     try go_wp2_with fail
     refine hK.out _ _ (HK2.out _ hBc) (λyb=>?_)
     clear hK K
     try simp only[Act.put,sA,s0,sS]
     refine tY 3 zsg (.bool false) yb ?_;refine tY 4 zr7 (.bool false) yb ?_;refine tY 5 zrj (.pointer (some ⟨wr.heap.size,1,none⟩)) yb ?_;refine tY 6 zsa (.int .i64 y.ow) yb ?_;refine tY 7 zru (.bool false) yb ?_;refine tY 8 zrm (.bool false) yb ?_;refine tY 9 zrA (.bool false) yb ?_;refine tY 10 zhH (.pointer (some ⟨wr.heap.size,1,none⟩)) yb ?_;refine tY 11 zic (.int .i64 y.ow) yb ?_;refine tY 12 zhF (.int .i64 g.ts.length) yb ?_;refine tY 13 zhM (.bool false) yb ?_;refine tY 14 zhQ (.bool false) yb ?_;refine tY 15 zhI (.bool false) yb ?_;refine tY 16 zif (.int .i64 q) yb ?_;refine tY 17 zi5 (.bool true) yb ?_;refine tY 18 ziA (.bool true) yb ?_;refine tY 19 ziH (.pointer (some ⟨wr.heap.size,1,none⟩)) yb ?_;refine tY 20 zis (.int .i64 y.ow) yb ?_;refine tY 21 ziV (.pointer (some ⟨w.heap.size,1,none⟩)) yb ?_;refine tY 22 zi7 (.slice (some ⟨b,off,none⟩) g.fs.length g.fc) yb ?_;refine tY 23 zii (.int .i64 q) yb ?_;refine tY 24 zh4 (.int .i64 k) yb ?_;refine tY 25 ziw (.pointer (some ⟨b,off+k * 7,none⟩)) yb ?_;refine tY 26 zh0 (.pointer (some ⟨b,off+k * 7+1,none⟩)) yb ?_;refine tY 27 zhD (.int .i64 z.ow) yb ?_;refine tY 28 zhz (.bool true) yb ?_;refine tY 29 ziX (.bool true) yb ?_;refine tY 30 ziQ (.bool true) yb ?_;refine tY 31 zir (.bool true) yb ?_;refine tN 32 zin yb ?_;refine tN 33 ziD yb ?_;refine tN 34 zim yb ?_;refine tN 35 zh6 yb ?_;refine tN 36 ziq yb ?_;refine tY 37 zi3 (.bool true) yb ?_;refine wpAnyH_done (by kernel_rfl) ?_ _
     have HB1:Hid (Below w0.heap.size w0 wA.drew):=zaa HBA.out (zad _);go_wp2_with fail
     go_ret;exact⟨zab HBad.out.symm,zaa HB0.out HB1.out⟩
    have HLe:Hid (z.ow<=y.ow):=by show _<=_;omega
    cases hm:mB 1 g.ts.length y.t with
    | false =>
     have HBad:Hid (imB g=false):=HN.out (by show (_&&mB 1 g.ts.length y.t)=false;rw[hm];simp)
     rw[hm]at HMy;clear hm HY HN HZ0 HZk HNk;refine wp_region_held_drew (S:=(λW=>W.cell? ⟨b,off+k * 7+1,none⟩=some (.int .i64 z.ow)/\W.cell? ⟨wr.heap.size,0,none⟩=some (.string y.nm)/\W.cell? ⟨wr.heap.size,1,none⟩=some (.int .i64 y.ow)/\W.cell? ⟨wr.heap.size,2,none⟩=some (.int .i64 y.t.1)/\W.cell? ⟨wr.heap.size,3,none⟩=some (.int .i64 y.t.2.1)/\W.cell? ⟨wr.heap.size,4,none⟩=some (.int .i64 y.t.2.2.1)/\W.cell? ⟨wr.heap.size,5,none⟩=some (.bool y.t.2.2.2)/\W.cell? ⟨wr.heap.size,6,none⟩=some (.bool y.st)/\W.cell? ⟨w.heap.size,0,none⟩=some (.slice g.ta g.ts.length g.tc)/\W.cell? ⟨w.heap.size,1,none⟩=some (.slice (some ⟨b,off,none⟩) g.fs.length g.fc)/\W.cell? ⟨w.heap.size,2,none⟩=some (.slice g.ma g.ms.length g.mc)/\W.cell? ⟨w.heap.size,3,none⟩=some (.int .i64 g.en))) (by kernel_rfl) (HK2.out _ (zad _)) (λyb=>?_)
     refine tY 0 zrT (.pointer (some ⟨wr.heap.size,0,none⟩)) yb ?_;refine tY 1 zr2 (.string y.nm) yb ?_;refine wpAnyH_ready (rs:=[2]) (by kernel_rfl) (by simp) ?_
     refine AllReadyH.cons (o:=zrp) rfl (λK hK=>?_) AllReadyH.nil
     go_simp
     refine (HFn.out _).mono ?_;rintro e wz ⟨rfl,hz⟩;subst wz;have hBc:Below wA.heap.size wA wA.drew:=zad wA
     try go_wp2_with fail
     refine hK.out _ _ (HK2.out _ hBc) (λyb=>?_)
     clear hK K
     try simp only[Act.put,sA,s0,sS]
     refine tY 3 zsg (.bool false) yb ?_;refine tY 4 zr7 (.bool false) yb ?_;refine tY 5 zrj (.pointer (some ⟨wr.heap.size,1,none⟩)) yb ?_;refine tY 6 zsa (.int .i64 y.ow) yb ?_;refine tY 7 zru (.bool false) yb ?_;refine tY 8 zrm (.bool false) yb ?_;refine tY 9 zrA (.bool false) yb ?_;refine tY 10 zhH (.pointer (some ⟨wr.heap.size,1,none⟩)) yb ?_;refine tY 11 zic (.int .i64 y.ow) yb ?_;refine tY 12 zhF (.int .i64 g.ts.length) yb ?_;refine tY 13 zhM (.bool false) yb ?_;refine tY 14 zhQ (.bool false) yb ?_;refine tY 15 zhI (.bool false) yb ?_;refine tY 16 zif (.int .i64 q) yb ?_;refine tY 17 zi5 (.bool true) yb ?_;refine tY 18 ziA (.bool true) yb ?_;refine tY 19 ziH (.pointer (some ⟨wr.heap.size,1,none⟩)) yb ?_;refine tY 20 zis (.int .i64 y.ow) yb ?_;refine tY 21 ziV (.pointer (some ⟨w.heap.size,1,none⟩)) yb ?_;refine tY 22 zi7 (.slice (some ⟨b,off,none⟩) g.fs.length g.fc) yb ?_;refine tY 23 zii (.int .i64 q) yb ?_;refine tY 24 zh4 (.int .i64 k) yb ?_;refine tY 25 ziw (.pointer (some ⟨b,off+k * 7,none⟩)) yb ?_;refine tY 26 zh0 (.pointer (some ⟨b,off+k * 7+1,none⟩)) yb ?_;refine tY 27 zhD (.int .i64 z.ow) yb ?_;refine tY 28 zhz (.bool false) yb ?_;refine tY 29 ziX (.bool false) yb ?_;refine tY 30 ziQ (.bool false) yb ?_;refine tY 31 zir (.bool false) yb ?_;refine tY 32 zin (.pointer (some ⟨wr.heap.size,2,none⟩)) yb ?_;refine tY 33 ziD (.agg #[.int .i64 y.t.1,.int .i64 y.t.2.1,.int .i64 y.t.2.2.1,.bool y.t.2.2.2]) yb ?_;refine tY 34 zim (.int .i64 g.ts.length) yb ?_;refine wpAnyH_ready (rs:=[35]) (by kernel_rfl) (by simp) ?_
     refine AllReadyH.cons (o:=zh6) rfl (λK hK=>?_) AllReadyH.nil
     go_simp
     refine (HMy.out _).mono ?_;rintro e w1 ⟨rfl,hb1⟩
     replace hBc:Below wA.heap.size wA w1:=zaa hBc hb1
     try go_wp2_with fail
     refine hK.out _ _ (HK2.out _ hBc) (λyb=>?_)
     clear hK K
     try simp only[Act.put,sA,s0,sS]
     refine tY 36 ziq (.bool true) yb ?_;refine tY 37 zi3 (.bool true) yb ?_;refine wpAnyH_done (by kernel_rfl) ?_ _
     have HB1:Hid (Below w0.heap.size w0 w1):=zaa HBA.out hBc;clear hBc hb1;go_wp2_with fail
     go_ret;exact⟨zab HBad.out.symm,zaa HB0.out HB1.out⟩
    | true =>
     have HY2:Hid _:=HY.out (by show (_&&_&&mB 1 g.ts.length y.t)=true;rw[HFi.out,HNu.out,hm];rfl)
     have HZ2:Hid _:=HZr.out HLe.out;rw[hm]at HMy;clear hm HY HN HZ0 HZk HNk;refine wp_region_held_drew (S:=(λW=>W.cell? ⟨b,off+k * 7+1,none⟩=some (.int .i64 z.ow)/\W.cell? ⟨wr.heap.size,0,none⟩=some (.string y.nm)/\W.cell? ⟨wr.heap.size,1,none⟩=some (.int .i64 y.ow)/\W.cell? ⟨wr.heap.size,2,none⟩=some (.int .i64 y.t.1)/\W.cell? ⟨wr.heap.size,3,none⟩=some (.int .i64 y.t.2.1)/\W.cell? ⟨wr.heap.size,4,none⟩=some (.int .i64 y.t.2.2.1)/\W.cell? ⟨wr.heap.size,5,none⟩=some (.bool y.t.2.2.2)/\W.cell? ⟨wr.heap.size,6,none⟩=some (.bool y.st)/\W.cell? ⟨w.heap.size,0,none⟩=some (.slice g.ta g.ts.length g.tc)/\W.cell? ⟨w.heap.size,1,none⟩=some (.slice (some ⟨b,off,none⟩) g.fs.length g.fc)/\W.cell? ⟨w.heap.size,2,none⟩=some (.slice g.ma g.ms.length g.mc)/\W.cell? ⟨w.heap.size,3,none⟩=some (.int .i64 g.en))) (by kernel_rfl) (HK2.out _ (zad _)) (λyb=>?_)
     refine tY 0 zrT (.pointer (some ⟨wr.heap.size,0,none⟩)) yb ?_;refine tY 1 zr2 (.string y.nm) yb ?_;refine wpAnyH_ready (rs:=[2]) (by kernel_rfl) (by simp) ?_
     refine AllReadyH.cons (o:=zrp) rfl (λK hK=>?_) AllReadyH.nil
     go_simp
     refine (HFn.out _).mono ?_;rintro e wz ⟨rfl,hz⟩;subst wz;have hBc:Below wA.heap.size wA wA.drew:=zad wA
     try go_wp2_with fail
     refine hK.out _ _ (HK2.out _ hBc) (λyb=>?_)
     clear hK K
     try simp only[Act.put,sA,s0,sS]
     refine tY 3 zsg (.bool false) yb ?_;refine tY 4 zr7 (.bool false) yb ?_;refine tY 5 zrj (.pointer (some ⟨wr.heap.size,1,none⟩)) yb ?_;refine tY 6 zsa (.int .i64 y.ow) yb ?_;refine tY 7 zru (.bool false) yb ?_;refine tY 8 zrm (.bool false) yb ?_;refine tY 9 zrA (.bool false) yb ?_;refine tY 10 zhH (.pointer (some ⟨wr.heap.size,1,none⟩)) yb ?_;refine tY 11 zic (.int .i64 y.ow) yb ?_;refine tY 12 zhF (.int .i64 g.ts.length) yb ?_;refine tY 13 zhM (.bool false) yb ?_;refine tY 14 zhQ (.bool false) yb ?_;refine tY 15 zhI (.bool false) yb ?_;refine tY 16 zif (.int .i64 q) yb ?_;refine tY 17 zi5 (.bool true) yb ?_;refine tY 18 ziA (.bool true) yb ?_;refine tY 19 ziH (.pointer (some ⟨wr.heap.size,1,none⟩)) yb ?_;refine tY 20 zis (.int .i64 y.ow) yb ?_;refine tY 21 ziV (.pointer (some ⟨w.heap.size,1,none⟩)) yb ?_;refine tY 22 zi7 (.slice (some ⟨b,off,none⟩) g.fs.length g.fc) yb ?_;refine tY 23 zii (.int .i64 q) yb ?_;refine tY 24 zh4 (.int .i64 k) yb ?_;refine tY 25 ziw (.pointer (some ⟨b,off+k * 7,none⟩)) yb ?_;refine tY 26 zh0 (.pointer (some ⟨b,off+k * 7+1,none⟩)) yb ?_;refine tY 27 zhD (.int .i64 z.ow) yb ?_;refine tY 28 zhz (.bool false) yb ?_;refine tY 29 ziX (.bool false) yb ?_;refine tY 30 ziQ (.bool false) yb ?_;refine tY 31 zir (.bool false) yb ?_;refine tY 32 zin (.pointer (some ⟨wr.heap.size,2,none⟩)) yb ?_;refine tY 33 ziD (.agg #[.int .i64 y.t.1,.int .i64 y.t.2.1,.int .i64 y.t.2.2.1,.bool y.t.2.2.2]) yb ?_;refine tY 34 zim (.int .i64 g.ts.length) yb ?_;refine wpAnyH_ready (rs:=[35]) (by kernel_rfl) (by simp) ?_
     refine AllReadyH.cons (o:=zh6) rfl (λK hK=>?_) AllReadyH.nil
     go_simp
     refine (HMy.out _).mono ?_;rintro e w1 ⟨rfl,hb1⟩
     replace hBc:Below wA.heap.size wA w1:=zaa hBc hb1
     try go_wp2_with fail
     refine hK.out _ _ (HK2.out _ hBc) (λyb=>?_)
     clear hK K
     try simp only[Act.put,sA,s0,sS]
     refine tY 36 ziq (.bool false) yb ?_;refine tY 37 zi3 (.bool false) yb ?_;refine wpAnyH_done (by kernel_rfl) ?_ _
     have HB1:Hid (Below w0.heap.size w0 w1):=zaa HBA.out hBc;clear hBc hb1;go_wp2_with fail
     go_roundw
     case rel=>exact⟨q+1,by omega,by go_num,HB1.out,HY2.out,HZ2.out⟩
     case measure=>simp[intOf];omega
   have HT2:Hid (g.fs.all (fdB g.ts.length)=true):=zbQ hql HA.out;have HT3:Hid (zdH (g.fs.map (·.ow))=true):=zlh HZ.out (by simp;omega)
   have c1:=(HAT.out wr hB).cell;unfold imA at c1;clear HA hB HZ HNm;go_wp2_with fail
   clear c1;have HNm:=HN3;have HOk:=HMok;go_loopw [7] (λz wr2=>∃ q:Nat,q<=g.ms.length/\z=.int .i64 q/\Below w0.heap.size w0 wr2/\Hid ((g.ms.take q).all (mdB g.ts.length g.fs.length g.ms.length)=true)/\Hid (znq (g.ms.map (·.ow)) q)) (λz _=>g.ms.length - (intOf z).toNat)
   case atStart=>exact⟨0,Nat.zero_le _,rfl,HBr.out,by show _=_;simp,λj hj h=>by omega⟩
   case round =>
    obtain⟨q,hq,rfl,hB,HA,HZ⟩:=hrel;have HBr:Hid (Below w0.heap.size w0 wr):=hB;by_cases hql:q<g.ms.length
    ·have HOR:Hid (∀ W,Below w0.heap.size w0 W->Es mdE W (.slice g.ma g.ms.length g.mc) g.ms):=HXm;obtain⟨b,off,hfa,hb,h6,h7,hc⟩:=(HOR.out wr hB).at hql;have HCs:Hid (∀ i (hi:i<g.ms.length),El mdE wr b (off+i * 12) g.ms[i]):=hc;have HIm:Hid (∀ W,Below w0.heap.size w0 W->At W w.heap.size #[.slice g.ta g.ts.length g.tc,.slice g.fa g.fs.length g.fc,.slice (some ⟨b,off,none⟩) g.ms.length g.mc,.int .i64 g.en] 26):=λW hW=>by
      have:=HAT.out W hW;unfold imA at this;rw[hfa]at this;exact this
     have HMem:Hid (g.ms[q]∈g.ms):=List.getElem_mem hql;have HY:Hid (mdB g.ts.length g.fs.length g.ms.length g.ms[q]=true->(g.ms.take (q+1)).all (mdB g.ts.length g.fs.length g.ms.length)=true):=λh=>zbw hql HA.out h
     have HN:Hid (mdB g.ts.length g.fs.length g.ms.length g.ms[q]=false->imB g=false):=λh=>HBm.out (zdr hql h)
     have HZ0:Hid (q=0->znq (g.ms.map (·.ow)) (q+1)):=λh=>zib h
     have HZk:Hid (∀ k (h:k<g.ms.length),q=k+1->g.ms[k].ow<=g.ms[q].ow->znq (g.ms.map (·.ow)) (q+1)):=λk h hk hle=>zik hk HZ.out (by simpa using hql) (by subst hk;simpa using hle)
     have HNk:Hid (∀ k (h:k<g.ms.length),q=k+1->g.ms[q].ow<g.ms[k].ow->imB g=false):=λk h hk hlt=>HBm2.out (zlJ (k:=k) (by subst hk;simpa using hql) (by subst hk;simpa using hlt))
     have hcq:=(show El mdE wr b (off+q * 12) g.ms[q] from HCs.out q hql).cells_M
     generalize g.ms[q]=y at *;obtain⟨k0,k1,k2,k3,k4,k5,k6,k7,k8,k9,k10,k11⟩:=hcq;have d1:=(HIm.out wr hB).cell;unfold maxLen at h7;obtain⟨wA,hwA⟩:∃ W,W=wr.alloc (.cells (mdA y) 51):=⟨_,rfl⟩;have HWA:Hid (wA=_):=hwA;have hbA:Below wr.heap.size wr wA:=by rw[hwA];exact zac _ _ _
     have HBw:Hid (Below wr.heap.size wr wA):=hbA;have HBA:Hid (Below w0.heap.size w0 wA):=zaa hB hbA;have hAA:At wA wr.heap.size (mdA y) 51:=by rw[hwA];exact At.made _ _ _
     have HK:Hid (∀ W,Below wA.heap.size wA W->W.cell? ⟨wr.heap.size,0,none⟩=some (.string y.nm)/\W.cell? ⟨wr.heap.size,1,none⟩=some (.int .i64 y.ow)/\W.cell? ⟨wr.heap.size,2,none⟩=some (.int .i64 y.fl)/\W.cell? ⟨wr.heap.size,3,none⟩=some (.slice y.pa y.ps.length y.pc)/\W.cell? ⟨wr.heap.size,4,none⟩=some (.int .i64 y.rt.1)/\W.cell? ⟨wr.heap.size,5,none⟩=some (.int .i64 y.rt.2.1)/\W.cell? ⟨wr.heap.size,6,none⟩=some (.int .i64 y.rt.2.2.1)/\W.cell? ⟨wr.heap.size,7,none⟩=some (.bool y.rt.2.2.2)/\W.cell? ⟨wr.heap.size,8,none⟩=some (.slice y.la y.ls.length y.lc)/\W.cell? ⟨wr.heap.size,9,none⟩=some (.int .i64 y.mx)/\W.cell? ⟨wr.heap.size,10,none⟩=some (.slice y.ca y.co.length y.cc)/\W.cell? ⟨wr.heap.size,11,none⟩=some (.slice y.ka y.cl.length y.kc)/\W.cell? ⟨w.heap.size,0,none⟩=some (.slice g.ta g.ts.length g.tc)/\W.cell? ⟨w.heap.size,1,none⟩=some (.slice g.fa g.fs.length g.fc)/\W.cell? ⟨w.heap.size,2,none⟩=some (.slice (some ⟨b,off,none⟩) g.ms.length g.mc)/\W.cell? ⟨w.heap.size,3,none⟩=some (.int .i64 g.en)):=λW hW=>by
      have hx:=hAA.later hW;have hi:=HIm.out W (zaa HBA.out hW);exact⟨hx.cell 0,hx.cell 1,hx.cell 2,hx.cell 3,hx.cell 4,hx.cell 5,hx.cell 6,hx.cell 7,hx.cell 8,hx.cell 9,hx.cell 10,hx.cell 11,hi.cell 0,hi.cell 1,hi.cell 2,hi.cell 3⟩
     have HMy:Hid (∀ W,Below wA.heap.size wA W->Calls Tryz.prog 180 #[.agg (mdA y),.agg (imA g)] W λe w'=>e=.returned (.bool (rmB g.ts.length g.fs.length g.ms.length y))/\Below W.heap.size W w'):=λW hW=>zc2 g y (HOk.out W (zaa HBA.out hW) y HMem.out) (HNm.out y HMem.out) (by unfold maxLen;omega) (by unfold maxLen;omega) (by unfold maxLen;omega)
     unfold mdA imA at HMy;rw[hfa]at HMy;unfold mdA at HWA;clear hfa hwA hbA hAA hc hB HOR HA HZ;go_wp2_with (rw[<- HWA.out])
     clear k0 k1 k2 k3 k4 k5 k6 k7 k8 k9 k10 k11 d1;by_cases g1:y.ow<0
     ·have HBad:Hid (imB g=false):=HN.out (by rw[zmF];unfold zam;simp;omega)
      clear HY HN HZ0 HZk HNk;refine wp_region_held_drew (S:=(λW=>W.cell? ⟨wr.heap.size,0,none⟩=some (.string y.nm)/\W.cell? ⟨wr.heap.size,1,none⟩=some (.int .i64 y.ow)/\W.cell? ⟨wr.heap.size,2,none⟩=some (.int .i64 y.fl)/\W.cell? ⟨wr.heap.size,3,none⟩=some (.slice y.pa y.ps.length y.pc)/\W.cell? ⟨wr.heap.size,4,none⟩=some (.int .i64 y.rt.1)/\W.cell? ⟨wr.heap.size,5,none⟩=some (.int .i64 y.rt.2.1)/\W.cell? ⟨wr.heap.size,6,none⟩=some (.int .i64 y.rt.2.2.1)/\W.cell? ⟨wr.heap.size,7,none⟩=some (.bool y.rt.2.2.2)/\W.cell? ⟨wr.heap.size,8,none⟩=some (.slice y.la y.ls.length y.lc)/\W.cell? ⟨wr.heap.size,9,none⟩=some (.int .i64 y.mx)/\W.cell? ⟨wr.heap.size,10,none⟩=some (.slice y.ca y.co.length y.cc)/\W.cell? ⟨wr.heap.size,11,none⟩=some (.slice y.ka y.cl.length y.kc)/\W.cell? ⟨w.heap.size,0,none⟩=some (.slice g.ta g.ts.length g.tc)/\W.cell? ⟨w.heap.size,1,none⟩=some (.slice g.fa g.fs.length g.fc)/\W.cell? ⟨w.heap.size,2,none⟩=some (.slice (some ⟨b,off,none⟩) g.ms.length g.mc)/\W.cell? ⟨w.heap.size,3,none⟩=some (.int .i64 g.en))) (by kernel_rfl) (HK.out _ (zad _)) (λyb=>?_)
      refine tY 0 zsr (.pointer (some ⟨wr.heap.size,1,none⟩)) yb ?_;refine tY 1 zsQ (.int .i64 y.ow) yb ?_;refine tY 2 zsw (.bool true) yb ?_;refine tY 3 zsB (.bool true) yb ?_;refine tN 4 zth yb ?_;refine tN 5 zsE yb ?_;refine tN 6 zs1 yb ?_;refine tN 7 zs7 yb ?_;refine tY 8 zs2 (.bool true) yb ?_;refine tY 9 zsC (.bool true) yb ?_;refine tN 10 zjW yb ?_;refine tN 11 zkZ yb ?_;refine tN 12 zkx yb ?_;refine tN 13 zjZ yb ?_;refine tN 14 zj5 yb ?_;refine tN 15 zk2 yb ?_;refine tN 16 zkU yb ?_;refine tN 17 zkM yb ?_;refine tN 18 zkt yb ?_;refine tN 19 zjK yb ?_;refine tN 20 zju yb ?_;refine tN 21 zjY yb ?_;refine tN 22 zjH yb ?_;refine tN 23 zje yb ?_;refine tY 24 zkY (.bool true) yb ?_;refine tY 25 zkr (.bool true) yb ?_;refine tN 26 zj9 yb ?_;refine tN 27 zkz yb ?_;refine tN 28 zjn yb ?_;refine tN 29 zkG yb ?_;refine tY 30 zjD (.bool true) yb ?_;refine wpAnyH_done (by kernel_rfl) ?_ _
      have HB1:Hid (Below w0.heap.size w0 wA.drew):=zaa HBA.out (zad _);go_wp2_with fail
      go_ret;exact⟨zab HBad.out.symm,zaa HB0.out HB1.out⟩
     by_cases g2:(g.ts.length:Int)<=y.ow
     ·have HBad:Hid (imB g=false):=HN.out (by rw[zmF];unfold zam;simp;omega)
      clear HY HN HZ0 HZk HNk;refine wp_region_held_drew (S:=(λW=>W.cell? ⟨wr.heap.size,0,none⟩=some (.string y.nm)/\W.cell? ⟨wr.heap.size,1,none⟩=some (.int .i64 y.ow)/\W.cell? ⟨wr.heap.size,2,none⟩=some (.int .i64 y.fl)/\W.cell? ⟨wr.heap.size,3,none⟩=some (.slice y.pa y.ps.length y.pc)/\W.cell? ⟨wr.heap.size,4,none⟩=some (.int .i64 y.rt.1)/\W.cell? ⟨wr.heap.size,5,none⟩=some (.int .i64 y.rt.2.1)/\W.cell? ⟨wr.heap.size,6,none⟩=some (.int .i64 y.rt.2.2.1)/\W.cell? ⟨wr.heap.size,7,none⟩=some (.bool y.rt.2.2.2)/\W.cell? ⟨wr.heap.size,8,none⟩=some (.slice y.la y.ls.length y.lc)/\W.cell? ⟨wr.heap.size,9,none⟩=some (.int .i64 y.mx)/\W.cell? ⟨wr.heap.size,10,none⟩=some (.slice y.ca y.co.length y.cc)/\W.cell? ⟨wr.heap.size,11,none⟩=some (.slice y.ka y.cl.length y.kc)/\W.cell? ⟨w.heap.size,0,none⟩=some (.slice g.ta g.ts.length g.tc)/\W.cell? ⟨w.heap.size,1,none⟩=some (.slice g.fa g.fs.length g.fc)/\W.cell? ⟨w.heap.size,2,none⟩=some (.slice (some ⟨b,off,none⟩) g.ms.length g.mc)/\W.cell? ⟨w.heap.size,3,none⟩=some (.int .i64 g.en))) (by kernel_rfl) (HK.out _ (zad _)) (λyb=>?_)
      refine tY 0 zsr (.pointer (some ⟨wr.heap.size,1,none⟩)) yb ?_;refine tY 1 zsQ (.int .i64 y.ow) yb ?_;refine tY 2 zsw (.bool false) yb ?_;refine tY 3 zsB (.bool false) yb ?_;refine tY 4 zth (.pointer (some ⟨wr.heap.size,1,none⟩)) yb ?_;refine tY 5 zsE (.int .i64 y.ow) yb ?_;refine tY 6 zs1 (.int .i64 g.ts.length) yb ?_;refine tY 7 zs7 (.bool true) yb ?_;refine tY 8 zs2 (.bool true) yb ?_;refine tY 9 zsC (.bool true) yb ?_;refine tN 10 zjW yb ?_;refine tN 11 zkZ yb ?_;refine tN 12 zkx yb ?_;refine tN 13 zjZ yb ?_;refine tN 14 zj5 yb ?_;refine tN 15 zk2 yb ?_;refine tN 16 zkU yb ?_;refine tN 17 zkM yb ?_;refine tN 18 zkt yb ?_;refine tN 19 zjK yb ?_;refine tN 20 zju yb ?_;refine tN 21 zjY yb ?_;refine tN 22 zjH yb ?_;refine tN 23 zje yb ?_;refine tY 24 zkY (.bool true) yb ?_;refine tY 25 zkr (.bool true) yb ?_;refine tN 26 zj9 yb ?_;refine tN 27 zkz yb ?_;refine tN 28 zjn yb ?_;refine tN 29 zkG yb ?_;refine tY 30 zjD (.bool true) yb ?_;refine wpAnyH_done (by kernel_rfl) ?_ _
      have HB1:Hid (Below w0.heap.size w0 wA.drew):=zaa HBA.out (zad _);go_wp2_with fail
      go_ret;exact⟨zab HBad.out.symm,zaa HB0.out HB1.out⟩
     have HNu:Hid (zam y.ow g.ts.length=true):=by show _=_;unfold zam;simp;omega
     by_cases hq0:q=0
     ·have i0:¬ (0:Int)<(q:Int):=by omega
      cases hm:rmB g.ts.length g.fs.length g.ms.length y with
      | false =>
       have HBad:Hid (imB g=false):=HN.out (by rw[zmF,hm];simp)
       rw[hm]at HMy;clear hm HY HN HZ0 HZk HNk;refine wp_region_held_drew (S:=(λW=>W.cell? ⟨wr.heap.size,0,none⟩=some (.string y.nm)/\W.cell? ⟨wr.heap.size,1,none⟩=some (.int .i64 y.ow)/\W.cell? ⟨wr.heap.size,2,none⟩=some (.int .i64 y.fl)/\W.cell? ⟨wr.heap.size,3,none⟩=some (.slice y.pa y.ps.length y.pc)/\W.cell? ⟨wr.heap.size,4,none⟩=some (.int .i64 y.rt.1)/\W.cell? ⟨wr.heap.size,5,none⟩=some (.int .i64 y.rt.2.1)/\W.cell? ⟨wr.heap.size,6,none⟩=some (.int .i64 y.rt.2.2.1)/\W.cell? ⟨wr.heap.size,7,none⟩=some (.bool y.rt.2.2.2)/\W.cell? ⟨wr.heap.size,8,none⟩=some (.slice y.la y.ls.length y.lc)/\W.cell? ⟨wr.heap.size,9,none⟩=some (.int .i64 y.mx)/\W.cell? ⟨wr.heap.size,10,none⟩=some (.slice y.ca y.co.length y.cc)/\W.cell? ⟨wr.heap.size,11,none⟩=some (.slice y.ka y.cl.length y.kc)/\W.cell? ⟨w.heap.size,0,none⟩=some (.slice g.ta g.ts.length g.tc)/\W.cell? ⟨w.heap.size,1,none⟩=some (.slice g.fa g.fs.length g.fc)/\W.cell? ⟨w.heap.size,2,none⟩=some (.slice (some ⟨b,off,none⟩) g.ms.length g.mc)/\W.cell? ⟨w.heap.size,3,none⟩=some (.int .i64 g.en))) (by kernel_rfl) (HK.out _ (zad _)) (λyb=>?_)
       refine tY 0 zsr (.pointer (some ⟨wr.heap.size,1,none⟩)) yb ?_;refine tY 1 zsQ (.int .i64 y.ow) yb ?_;refine tY 2 zsw (.bool false) yb ?_;refine tY 3 zsB (.bool false) yb ?_;refine tY 4 zth (.pointer (some ⟨wr.heap.size,1,none⟩)) yb ?_;refine tY 5 zsE (.int .i64 y.ow) yb ?_;refine tY 6 zs1 (.int .i64 g.ts.length) yb ?_;refine tY 7 zs7 (.bool false) yb ?_;refine tY 8 zs2 (.bool false) yb ?_;refine tY 9 zsC (.bool false) yb ?_;refine tY 10 zjW (.int .i64 q) yb ?_;refine tY 11 zkZ (.bool false) yb ?_;refine tY 12 zkx (.bool false) yb ?_;refine tN 13 zjZ yb ?_;refine tN 14 zj5 yb ?_;refine tN 15 zk2 yb ?_;refine tN 16 zkU yb ?_;refine tN 17 zkM yb ?_;refine tN 18 zkt yb ?_;refine tN 19 zjK yb ?_;refine tN 20 zju yb ?_;refine tN 21 zjY yb ?_;refine tN 22 zjH yb ?_;refine tY 23 zje (.bool false) yb ?_;refine tY 24 zkY (.bool false) yb ?_;refine tY 25 zkr (.bool false) yb ?_;refine tY 26 zj9 (.agg #[.string y.nm,.int .i64 y.ow,.int .i64 y.fl,.slice y.pa y.ps.length y.pc,.int .i64 y.rt.1,.int .i64 y.rt.2.1,.int .i64 y.rt.2.2.1,.bool y.rt.2.2.2,.slice y.la y.ls.length y.lc,.int .i64 y.mx,.slice y.ca y.co.length y.cc,.slice y.ka y.cl.length y.kc]) yb ?_;refine tY 27 zkz (.agg #[.slice g.ta g.ts.length g.tc,.slice g.fa g.fs.length g.fc,.slice (some ⟨b,off,none⟩) g.ms.length g.mc,.int .i64 g.en]) yb ?_;refine wpAnyH_ready (rs:=[28]) (by kernel_rfl) (by simp) ?_
       refine AllReadyH.cons (o:=zjn) rfl (λK hK=>?_) AllReadyH.nil
       go_simp
       refine (HMy.out _ (zad _)).mono ?_;rintro e w1 ⟨rfl,hb1⟩;have hBc:Below wA.heap.size wA w1:=zaa (zad _) hb1
       try go_wp2_with fail
       refine hK.out _ _ (HK.out _ hBc) (λyb=>?_)
       clear hK K
       try simp only[Act.put,sA,s0,sS]
       refine tY 29 zkG (.bool true) yb ?_;refine tY 30 zjD (.bool true) yb ?_;refine wpAnyH_done (by kernel_rfl) ?_ _
       have HB1:Hid (Below w0.heap.size w0 w1):=zaa HBA.out hBc;clear hBc hb1;go_wp2_with fail
       go_ret;exact⟨zab HBad.out.symm,zaa HB0.out HB1.out⟩
      | true =>
       have HY2:Hid _:=HY.out (by rw[zmF,HNu.out,hm];rfl)
       have HZ2:Hid _:=HZ0.out hq0;rw[hm]at HMy;clear hm HY HN HZ0 HZk HNk;refine wp_region_held_drew (S:=(λW=>W.cell? ⟨wr.heap.size,0,none⟩=some (.string y.nm)/\W.cell? ⟨wr.heap.size,1,none⟩=some (.int .i64 y.ow)/\W.cell? ⟨wr.heap.size,2,none⟩=some (.int .i64 y.fl)/\W.cell? ⟨wr.heap.size,3,none⟩=some (.slice y.pa y.ps.length y.pc)/\W.cell? ⟨wr.heap.size,4,none⟩=some (.int .i64 y.rt.1)/\W.cell? ⟨wr.heap.size,5,none⟩=some (.int .i64 y.rt.2.1)/\W.cell? ⟨wr.heap.size,6,none⟩=some (.int .i64 y.rt.2.2.1)/\W.cell? ⟨wr.heap.size,7,none⟩=some (.bool y.rt.2.2.2)/\W.cell? ⟨wr.heap.size,8,none⟩=some (.slice y.la y.ls.length y.lc)/\W.cell? ⟨wr.heap.size,9,none⟩=some (.int .i64 y.mx)/\W.cell? ⟨wr.heap.size,10,none⟩=some (.slice y.ca y.co.length y.cc)/\W.cell? ⟨wr.heap.size,11,none⟩=some (.slice y.ka y.cl.length y.kc)/\W.cell? ⟨w.heap.size,0,none⟩=some (.slice g.ta g.ts.length g.tc)/\W.cell? ⟨w.heap.size,1,none⟩=some (.slice g.fa g.fs.length g.fc)/\W.cell? ⟨w.heap.size,2,none⟩=some (.slice (some ⟨b,off,none⟩) g.ms.length g.mc)/\W.cell? ⟨w.heap.size,3,none⟩=some (.int .i64 g.en))) (by kernel_rfl) (HK.out _ (zad _)) (λyb=>?_)
       refine tY 0 zsr (.pointer (some ⟨wr.heap.size,1,none⟩)) yb ?_;refine tY 1 zsQ (.int .i64 y.ow) yb ?_;refine tY 2 zsw (.bool false) yb ?_;refine tY 3 zsB (.bool false) yb ?_;refine tY 4 zth (.pointer (some ⟨wr.heap.size,1,none⟩)) yb ?_;refine tY 5 zsE (.int .i64 y.ow) yb ?_;refine tY 6 zs1 (.int .i64 g.ts.length) yb ?_;refine tY 7 zs7 (.bool false) yb ?_;refine tY 8 zs2 (.bool false) yb ?_;refine tY 9 zsC (.bool false) yb ?_;refine tY 10 zjW (.int .i64 q) yb ?_;refine tY 11 zkZ (.bool false) yb ?_;refine tY 12 zkx (.bool false) yb ?_;refine tN 13 zjZ yb ?_;refine tN 14 zj5 yb ?_;refine tN 15 zk2 yb ?_;refine tN 16 zkU yb ?_;refine tN 17 zkM yb ?_;refine tN 18 zkt yb ?_;refine tN 19 zjK yb ?_;refine tN 20 zju yb ?_;refine tN 21 zjY yb ?_;refine tN 22 zjH yb ?_;refine tY 23 zje (.bool false) yb ?_;refine tY 24 zkY (.bool false) yb ?_;refine tY 25 zkr (.bool false) yb ?_;refine tY 26 zj9 (.agg #[.string y.nm,.int .i64 y.ow,.int .i64 y.fl,.slice y.pa y.ps.length y.pc,.int .i64 y.rt.1,.int .i64 y.rt.2.1,.int .i64 y.rt.2.2.1,.bool y.rt.2.2.2,.slice y.la y.ls.length y.lc,.int .i64 y.mx,.slice y.ca y.co.length y.cc,.slice y.ka y.cl.length y.kc]) yb ?_;refine tY 27 zkz (.agg #[.slice g.ta g.ts.length g.tc,.slice g.fa g.fs.length g.fc,.slice (some ⟨b,off,none⟩) g.ms.length g.mc,.int .i64 g.en]) yb ?_;refine wpAnyH_ready (rs:=[28]) (by kernel_rfl) (by simp) ?_
       refine AllReadyH.cons (o:=zjn) rfl (λK hK=>?_) AllReadyH.nil
       go_simp
       refine (HMy.out _ (zad _)).mono ?_;rintro e w1 ⟨rfl,hb1⟩;have hBc:Below wA.heap.size wA w1:=zaa (zad _) hb1
       try go_wp2_with fail
       refine hK.out _ _ (HK.out _ hBc) (λyb=>?_)
       clear hK K
       try simp only[Act.put,sA,s0,sS]
       refine tY 29 zkG (.bool false) yb ?_;refine tY 30 zjD (.bool false) yb ?_;refine wpAnyH_done (by kernel_rfl) ?_ _
       have HB1:Hid (Below w0.heap.size w0 w1):=zaa HBA.out hBc;clear hBc hb1;go_wp2_with fail
       go_roundw
       case rel=>exact⟨q+1,by omega,by go_num,HB1.out,HY2.out,HZ2.out⟩
       case measure=>simp[intOf];omega
     obtain⟨k,hk⟩:∃ k,q=k+1:=⟨q - 1,by omega⟩
     have i0:(0:Int)<(q:Int):=by omega
     have i0n:0<q:=by omega
     have i2:k<g.ms.length:=by omega
     have i3:(k:Int)<(g.ms.length:Int):=by omega
     have e2:IntKind.i64.wrap ((q:Int) - 1)=(k:Int):=by rw[IntKind.wrap_i64];omega
     have HZr:Hid (g.ms[k].ow<=y.ow->znq (g.ms.map (·.ow)) (q+1)):=HZk.out k i2 hk;have HNr:Hid (y.ow<g.ms[k].ow->imB g=false):=HNk.out k i2 hk;have HPz:Hid (∀ W,Below wA.heap.size wA W->W.cell? ⟨b,off+k * 12+1,none⟩=some (.int .i64 g.ms[k].ow)):=λW hW=>((show El mdE wr b (off+k * 12) g.ms[k] from HCs.out k i2).below (zaa HBw.out hW) hb).cells_M.2.1
     generalize g.ms[k]=z at *;have HK2:Hid (∀ W,Below wA.heap.size wA W->W.cell? ⟨b,off+k * 12+1,none⟩=some (.int .i64 z.ow)/\W.cell? ⟨wr.heap.size,0,none⟩=some (.string y.nm)/\W.cell? ⟨wr.heap.size,1,none⟩=some (.int .i64 y.ow)/\W.cell? ⟨wr.heap.size,2,none⟩=some (.int .i64 y.fl)/\W.cell? ⟨wr.heap.size,3,none⟩=some (.slice y.pa y.ps.length y.pc)/\W.cell? ⟨wr.heap.size,4,none⟩=some (.int .i64 y.rt.1)/\W.cell? ⟨wr.heap.size,5,none⟩=some (.int .i64 y.rt.2.1)/\W.cell? ⟨wr.heap.size,6,none⟩=some (.int .i64 y.rt.2.2.1)/\W.cell? ⟨wr.heap.size,7,none⟩=some (.bool y.rt.2.2.2)/\W.cell? ⟨wr.heap.size,8,none⟩=some (.slice y.la y.ls.length y.lc)/\W.cell? ⟨wr.heap.size,9,none⟩=some (.int .i64 y.mx)/\W.cell? ⟨wr.heap.size,10,none⟩=some (.slice y.ca y.co.length y.cc)/\W.cell? ⟨wr.heap.size,11,none⟩=some (.slice y.ka y.cl.length y.kc)/\W.cell? ⟨w.heap.size,0,none⟩=some (.slice g.ta g.ts.length g.tc)/\W.cell? ⟨w.heap.size,1,none⟩=some (.slice g.fa g.fs.length g.fc)/\W.cell? ⟨w.heap.size,2,none⟩=some (.slice (some ⟨b,off,none⟩) g.ms.length g.mc)/\W.cell? ⟨w.heap.size,3,none⟩=some (.int .i64 g.en)):=λW hW=>⟨HPz.out W hW,HK.out W hW⟩
     have HQk:Hid (q=k+1):=hk;clear hk;by_cases g3:y.ow<z.ow
     ·have HBad:Hid (imB g=false):=HNr.out g3;clear HY HN HZ0 HZk HNk;refine wp_region_held_drew (S:=(λW=>W.cell? ⟨b,off+k * 12+1,none⟩=some (.int .i64 z.ow)/\W.cell? ⟨wr.heap.size,0,none⟩=some (.string y.nm)/\W.cell? ⟨wr.heap.size,1,none⟩=some (.int .i64 y.ow)/\W.cell? ⟨wr.heap.size,2,none⟩=some (.int .i64 y.fl)/\W.cell? ⟨wr.heap.size,3,none⟩=some (.slice y.pa y.ps.length y.pc)/\W.cell? ⟨wr.heap.size,4,none⟩=some (.int .i64 y.rt.1)/\W.cell? ⟨wr.heap.size,5,none⟩=some (.int .i64 y.rt.2.1)/\W.cell? ⟨wr.heap.size,6,none⟩=some (.int .i64 y.rt.2.2.1)/\W.cell? ⟨wr.heap.size,7,none⟩=some (.bool y.rt.2.2.2)/\W.cell? ⟨wr.heap.size,8,none⟩=some (.slice y.la y.ls.length y.lc)/\W.cell? ⟨wr.heap.size,9,none⟩=some (.int .i64 y.mx)/\W.cell? ⟨wr.heap.size,10,none⟩=some (.slice y.ca y.co.length y.cc)/\W.cell? ⟨wr.heap.size,11,none⟩=some (.slice y.ka y.cl.length y.kc)/\W.cell? ⟨w.heap.size,0,none⟩=some (.slice g.ta g.ts.length g.tc)/\W.cell? ⟨w.heap.size,1,none⟩=some (.slice g.fa g.fs.length g.fc)/\W.cell? ⟨w.heap.size,2,none⟩=some (.slice (some ⟨b,off,none⟩) g.ms.length g.mc)/\W.cell? ⟨w.heap.size,3,none⟩=some (.int .i64 g.en))) (by kernel_rfl) (HK2.out _ (zad _)) (λyb=>?_)
      refine tY 0 zsr (.pointer (some ⟨wr.heap.size,1,none⟩)) yb ?_;refine tY 1 zsQ (.int .i64 y.ow) yb ?_;refine tY 2 zsw (.bool false) yb ?_;refine tY 3 zsB (.bool false) yb ?_;refine tY 4 zth (.pointer (some ⟨wr.heap.size,1,none⟩)) yb ?_;refine tY 5 zsE (.int .i64 y.ow) yb ?_;refine tY 6 zs1 (.int .i64 g.ts.length) yb ?_;refine tY 7 zs7 (.bool false) yb ?_;refine tY 8 zs2 (.bool false) yb ?_;refine tY 9 zsC (.bool false) yb ?_;refine tY 10 zjW (.int .i64 q) yb ?_;refine tY 11 zkZ (.bool true) yb ?_;refine tY 12 zkx (.bool true) yb ?_;refine tY 13 zjZ (.pointer (some ⟨wr.heap.size,1,none⟩)) yb ?_;refine tY 14 zj5 (.int .i64 y.ow) yb ?_;refine tY 15 zk2 (.pointer (some ⟨w.heap.size,2,none⟩)) yb ?_;refine tY 16 zkU (.slice (some ⟨b,off,none⟩) g.ms.length g.mc) yb ?_;refine tY 17 zkM (.int .i64 q) yb ?_;refine tY 18 zkt (.int .i64 k) yb ?_;refine tY 19 zjK (.pointer (some ⟨b,off+k * 12,none⟩)) yb ?_;refine tY 20 zju (.pointer (some ⟨b,off+k * 12+1,none⟩)) yb ?_;refine tY 21 zjY (.int .i64 z.ow) yb ?_;refine tY 22 zjH (.bool true) yb ?_;refine tY 23 zje (.bool true) yb ?_;refine tY 24 zkY (.bool true) yb ?_;refine tY 25 zkr (.bool true) yb ?_;refine tN 26 zj9 yb ?_;refine tN 27 zkz yb ?_;refine tN 28 zjn yb ?_;refine tN 29 zkG yb ?_;refine tY 30 zjD (.bool true) yb ?_;refine wpAnyH_done (by kernel_rfl) ?_ _
      have HB1:Hid (Below w0.heap.size w0 wA.drew):=zaa HBA.out (zad _);go_wp2_with fail
      go_ret;exact⟨zab HBad.out.symm,zaa HB0.out HB1.out⟩
     have HLe:Hid (z.ow<=y.ow):=by show _<=_;omega
     cases hm:rmB g.ts.length g.fs.length g.ms.length y with
     | false =>
      have HBad:Hid (imB g=false):=HN.out (by rw[zmF,hm];simp)
      rw[hm]at HMy;clear hm HY HN HZ0 HZk HNk;refine wp_region_held_drew (S:=(λW=>W.cell? ⟨b,off+k * 12+1,none⟩=some (.int .i64 z.ow)/\W.cell? ⟨wr.heap.size,0,none⟩=some (.string y.nm)/\W.cell? ⟨wr.heap.size,1,none⟩=some (.int .i64 y.ow)/\W.cell? ⟨wr.heap.size,2,none⟩=some (.int .i64 y.fl)/\W.cell? ⟨wr.heap.size,3,none⟩=some (.slice y.pa y.ps.length y.pc)/\W.cell? ⟨wr.heap.size,4,none⟩=some (.int .i64 y.rt.1)/\W.cell? ⟨wr.heap.size,5,none⟩=some (.int .i64 y.rt.2.1)/\W.cell? ⟨wr.heap.size,6,none⟩=some (.int .i64 y.rt.2.2.1)/\W.cell? ⟨wr.heap.size,7,none⟩=some (.bool y.rt.2.2.2)/\W.cell? ⟨wr.heap.size,8,none⟩=some (.slice y.la y.ls.length y.lc)/\W.cell? ⟨wr.heap.size,9,none⟩=some (.int .i64 y.mx)/\W.cell? ⟨wr.heap.size,10,none⟩=some (.slice y.ca y.co.length y.cc)/\W.cell? ⟨wr.heap.size,11,none⟩=some (.slice y.ka y.cl.length y.kc)/\W.cell? ⟨w.heap.size,0,none⟩=some (.slice g.ta g.ts.length g.tc)/\W.cell? ⟨w.heap.size,1,none⟩=some (.slice g.fa g.fs.length g.fc)/\W.cell? ⟨w.heap.size,2,none⟩=some (.slice (some ⟨b,off,none⟩) g.ms.length g.mc)/\W.cell? ⟨w.heap.size,3,none⟩=some (.int .i64 g.en))) (by kernel_rfl) (HK2.out _ (zad _)) (λyb=>?_)
      refine tY 0 zsr (.pointer (some ⟨wr.heap.size,1,none⟩)) yb ?_;refine tY 1 zsQ (.int .i64 y.ow) yb ?_;refine tY 2 zsw (.bool false) yb ?_;refine tY 3 zsB (.bool false) yb ?_;refine tY 4 zth (.pointer (some ⟨wr.heap.size,1,none⟩)) yb ?_;refine tY 5 zsE (.int .i64 y.ow) yb ?_;refine tY 6 zs1 (.int .i64 g.ts.length) yb ?_;refine tY 7 zs7 (.bool false) yb ?_;refine tY 8 zs2 (.bool false) yb ?_;refine tY 9 zsC (.bool false) yb ?_;refine tY 10 zjW (.int .i64 q) yb ?_;refine tY 11 zkZ (.bool true) yb ?_;refine tY 12 zkx (.bool true) yb ?_;refine tY 13 zjZ (.pointer (some ⟨wr.heap.size,1,none⟩)) yb ?_;refine tY 14 zj5 (.int .i64 y.ow) yb ?_;refine tY 15 zk2 (.pointer (some ⟨w.heap.size,2,none⟩)) yb ?_;refine tY 16 zkU (.slice (some ⟨b,off,none⟩) g.ms.length g.mc) yb ?_;refine tY 17 zkM (.int .i64 q) yb ?_;refine tY 18 zkt (.int .i64 k) yb ?_;refine tY 19 zjK (.pointer (some ⟨b,off+k * 12,none⟩)) yb ?_;refine tY 20 zju (.pointer (some ⟨b,off+k * 12+1,none⟩)) yb ?_;refine tY 21 zjY (.int .i64 z.ow) yb ?_;refine tY 22 zjH (.bool false) yb ?_;refine tY 23 zje (.bool false) yb ?_;refine tY 24 zkY (.bool false) yb ?_;refine tY 25 zkr (.bool false) yb ?_;refine tY 26 zj9 (.agg #[.string y.nm,.int .i64 y.ow,.int .i64 y.fl,.slice y.pa y.ps.length y.pc,.int .i64 y.rt.1,.int .i64 y.rt.2.1,.int .i64 y.rt.2.2.1,.bool y.rt.2.2.2,.slice y.la y.ls.length y.lc,.int .i64 y.mx,.slice y.ca y.co.length y.cc,.slice y.ka y.cl.length y.kc]) yb ?_;refine tY 27 zkz (.agg #[.slice g.ta g.ts.length g.tc,.slice g.fa g.fs.length g.fc,.slice (some ⟨b,off,none⟩) g.ms.length g.mc,.int .i64 g.en]) yb ?_;refine wpAnyH_ready (rs:=[28]) (by kernel_rfl) (by simp) ?_
      refine AllReadyH.cons (o:=zjn) rfl (λK hK=>?_) AllReadyH.nil
      go_simp
      refine (HMy.out _ (zad _)).mono ?_;rintro e w1 ⟨rfl,hb1⟩;have hBc:Below wA.heap.size wA w1:=zaa (zad _) hb1
      try go_wp2_with fail
      refine hK.out _ _ (HK2.out _ hBc) (λyb=>?_)
      clear hK K
      try simp only[Act.put,sA,s0,sS]
      refine tY 29 zkG (.bool true) yb ?_;refine tY 30 zjD (.bool true) yb ?_;refine wpAnyH_done (by kernel_rfl) ?_ _
      have HB1:Hid (Below w0.heap.size w0 w1):=zaa HBA.out hBc;clear hBc hb1;go_wp2_with fail
      go_ret;exact⟨zab HBad.out.symm,zaa HB0.out HB1.out⟩
     | true =>
      have HY2:Hid _:=HY.out (by rw[zmF,HNu.out,hm];rfl)
      have HZ2:Hid _:=HZr.out HLe.out;rw[hm]at HMy;clear hm HY HN HZ0 HZk HNk;refine wp_region_held_drew (S:=(λW=>W.cell? ⟨b,off+k * 12+1,none⟩=some (.int .i64 z.ow)/\W.cell? ⟨wr.heap.size,0,none⟩=some (.string y.nm)/\W.cell? ⟨wr.heap.size,1,none⟩=some (.int .i64 y.ow)/\W.cell? ⟨wr.heap.size,2,none⟩=some (.int .i64 y.fl)/\W.cell? ⟨wr.heap.size,3,none⟩=some (.slice y.pa y.ps.length y.pc)/\W.cell? ⟨wr.heap.size,4,none⟩=some (.int .i64 y.rt.1)/\W.cell? ⟨wr.heap.size,5,none⟩=some (.int .i64 y.rt.2.1)/\W.cell? ⟨wr.heap.size,6,none⟩=some (.int .i64 y.rt.2.2.1)/\W.cell? ⟨wr.heap.size,7,none⟩=some (.bool y.rt.2.2.2)/\W.cell? ⟨wr.heap.size,8,none⟩=some (.slice y.la y.ls.length y.lc)/\W.cell? ⟨wr.heap.size,9,none⟩=some (.int .i64 y.mx)/\W.cell? ⟨wr.heap.size,10,none⟩=some (.slice y.ca y.co.length y.cc)/\W.cell? ⟨wr.heap.size,11,none⟩=some (.slice y.ka y.cl.length y.kc)/\W.cell? ⟨w.heap.size,0,none⟩=some (.slice g.ta g.ts.length g.tc)/\W.cell? ⟨w.heap.size,1,none⟩=some (.slice g.fa g.fs.length g.fc)/\W.cell? ⟨w.heap.size,2,none⟩=some (.slice (some ⟨b,off,none⟩) g.ms.length g.mc)/\W.cell? ⟨w.heap.size,3,none⟩=some (.int .i64 g.en))) (by kernel_rfl) (HK2.out _ (zad _)) (λyb=>?_)
      refine tY 0 zsr (.pointer (some ⟨wr.heap.size,1,none⟩)) yb ?_;refine tY 1 zsQ (.int .i64 y.ow) yb ?_;refine tY 2 zsw (.bool false) yb ?_;refine tY 3 zsB (.bool false) yb ?_;refine tY 4 zth (.pointer (some ⟨wr.heap.size,1,none⟩)) yb ?_;refine tY 5 zsE (.int .i64 y.ow) yb ?_;refine tY 6 zs1 (.int .i64 g.ts.length) yb ?_;refine tY 7 zs7 (.bool false) yb ?_;refine tY 8 zs2 (.bool false) yb ?_;refine tY 9 zsC (.bool false) yb ?_;refine tY 10 zjW (.int .i64 q) yb ?_;refine tY 11 zkZ (.bool true) yb ?_;refine tY 12 zkx (.bool true) yb ?_;refine tY 13 zjZ (.pointer (some ⟨wr.heap.size,1,none⟩)) yb ?_;refine tY 14 zj5 (.int .i64 y.ow) yb ?_;refine tY 15 zk2 (.pointer (some ⟨w.heap.size,2,none⟩)) yb ?_;refine tY 16 zkU (.slice (some ⟨b,off,none⟩) g.ms.length g.mc) yb ?_;refine tY 17 zkM (.int .i64 q) yb ?_;refine tY 18 zkt (.int .i64 k) yb ?_;refine tY 19 zjK (.pointer (some ⟨b,off+k * 12,none⟩)) yb ?_;refine tY 20 zju (.pointer (some ⟨b,off+k * 12+1,none⟩)) yb ?_;refine tY 21 zjY (.int .i64 z.ow) yb ?_;refine tY 22 zjH (.bool false) yb ?_;refine tY 23 zje (.bool false) yb ?_;refine tY 24 zkY (.bool false) yb ?_;refine tY 25 zkr (.bool false) yb ?_;refine tY 26 zj9 (.agg #[.string y.nm,.int .i64 y.ow,.int .i64 y.fl,.slice y.pa y.ps.length y.pc,.int .i64 y.rt.1,.int .i64 y.rt.2.1,.int .i64 y.rt.2.2.1,.bool y.rt.2.2.2,.slice y.la y.ls.length y.lc,.int .i64 y.mx,.slice y.ca y.co.length y.cc,.slice y.ka y.cl.length y.kc]) yb ?_;refine tY 27 zkz (.agg #[.slice g.ta g.ts.length g.tc,.slice g.fa g.fs.length g.fc,.slice (some ⟨b,off,none⟩) g.ms.length g.mc,.int .i64 g.en]) yb ?_;refine wpAnyH_ready (rs:=[28]) (by kernel_rfl) (by simp) ?_
      refine AllReadyH.cons (o:=zjn) rfl (λK hK=>?_) AllReadyH.nil
      go_simp
      refine (HMy.out _ (zad _)).mono ?_;rintro e w1 ⟨rfl,hb1⟩;have hBc:Below wA.heap.size wA w1:=zaa (zad _) hb1
      try go_wp2_with fail
      refine hK.out _ _ (HK2.out _ hBc) (λyb=>?_)
      clear hK K
      try simp only[Act.put,sA,s0,sS]
      refine tY 29 zkG (.bool false) yb ?_;refine tY 30 zjD (.bool false) yb ?_;refine wpAnyH_done (by kernel_rfl) ?_ _
      have HB1:Hid (Below w0.heap.size w0 w1):=zaa HBA.out hBc;clear hBc hb1;go_wp2_with fail
      go_roundw
      case rel=>exact⟨q+1,by omega,by go_num,HB1.out,HY2.out,HZ2.out⟩
      case measure=>simp[intOf];omega
    have HT4:Hid (g.ms.all (mdB g.ts.length g.fs.length g.ms.length)=true):=zbQ hql HA.out;have HT5:Hid (zdH (g.ms.map (·.ow))=true):=zlh HZ.out (by simp;omega)
    have HYes:Hid (imB g=true):=HOK.out HT1.out HT2.out HT3.out HT4.out HT5.out;have c1:=(HAT.out wr hB).cell;unfold imA at c1;clear HA hB HZ;go_wp2_with fail
    go_ret;exact⟨zab HYes.out.symm,zaa HB0.out HBr.out⟩
end Go.Proofs.YtkedhjdipnhgdaaGreat
