import Derived.Test.YtkedhjdipnhgdaaGreatR16
namespace Go.Proofs.YtkedhjdipnhgdaaGreat
set_option maxHeartbeats 16000000
set_option linter.all false
open RowKit
attribute [local go_sem ↓] wp_at_zero wp_at_succ
def zem (x:TD):Bool:=decide (20<x.fs.length)||decide (100<x.nm.size)
def zcO (x:MD):Bool:=decide (30<x.ps.length)||decide (30<x.ls.length)||decide (200<x.co.length)||decide (20<x.cl.length)||decide (100<x.nm.size)
def zcb (g:Img):Bool:=decide (40<g.ts.length)||decide (80<g.fs.length)||decide (80<g.ms.length)||(g.ts.any zem||g.ms.any zcO)
theorem zlU {α:Type} {p:α->Bool} {l:List α} {q:Nat} (hq:q<l.length) (h:(l.take q).any p=false) (hx:p l[q]=false):(l.take (q+1)).any p=false:=by
 rw[List.take_succ_eq_append_getElem hq,List.any_append,h];simpa using hx
theorem zpF {α:Type} {p:α->Bool} {l:List α} {q:Nat} (hq:q<l.length) (hx:p l[q]=true):l.any p=true:=by
 rw[List.any_eq_true];exact⟨_,List.getElem_mem hq,hx⟩
theorem zlv {α:Type} {p:α->Bool} {l:List α} {q:Nat} (hq:¬ q<l.length) (h:(l.take q).any p=false):l.any p=false:=by
 rwa [List.take_of_length_le (by omega)]at h
set_option maxRecDepth 100000 in
theorem zol {g:Img} {w:World} (hg:Im w g) :
 Calls Tryz.prog 5 #[imV g] w λe w'=>e=.returned (.bool (zcb g))/\Below w.heap.size w w':=by
 obtain⟨w0,hw0⟩:∃ W,W=w.alloc (.cells #[.slice g.ta g.ts.length g.tc,.slice g.fa g.fs.length g.fc,.slice g.ma g.ms.length g.mc,.int .i64 g.en] 26):=⟨_,rfl⟩;have HW0:Hid (w0=_):=hw0;have hb0:Below w.heap.size w w0:=by rw[hw0];exact zac _ _ _
 have HB0:Hid (Below w.heap.size w w0):=hb0;have hA:At w0 w.heap.size #[.slice g.ta g.ts.length g.tc,.slice g.fa g.fs.length g.fc,.slice g.ma g.ms.length g.mc,.int .i64 g.en] 26:=by rw[hw0];exact At.made _ _ _
 have HAT:Hid (∀ W,Below w0.heap.size w0 W->At W w.heap.size #[.slice g.ta g.ts.length g.tc,.slice g.fa g.fs.length g.fc,.slice g.ma g.ms.length g.mc,.int .i64 g.en] 26):=λW hW=>hA.later hW
 have HXt:Hid (∀ W,Below w0.heap.size w0 W->Es tdE W (.slice g.ta g.ts.length g.tc) g.ts):=λW hW=>hg.ts.later (zaa hb0 hW)
 have HXm:Hid (∀ W,Below w0.heap.size w0 W->Es mdE W (.slice g.ma g.ms.length g.mc) g.ms):=λW hW=>hg.ms.later (zaa hb0 hW)
 have htl:=hg.ts.len;have hfl:=hg.fs.len;have hml:=hg.ms.len;have HTl:Hid (∀ x∈g.ts,x.fs.length<=maxLen):=λx hx=>(hg.tok x hx).len
 have HMl:Hid (∀ x∈g.ms,x.ps.length<=maxLen/\x.ls.length<=maxLen/\x.co.length<=maxLen/\x.cl.length<=maxLen):=λx hx=>⟨(hg.mok x hx).ps.len,(hg.mok x hx).ls.len,(hg.mok x hx).co.len,(hg.mok x hx).cl.len⟩
 unfold maxLen at htl hfl hml;have c1:=hA.cell;have HF:Hid (zcb g=(decide (40<g.ts.length)||decide (80<g.fs.length)||decide (80<g.ms.length)||(g.ts.any zem||g.ms.any zcO))):=rfl
 clear hw0 hb0 hA hg;unfold imV;go_enter Tryz.func5,Tryz.ntmps5;by_cases h1:40<g.ts.length
 ·have i1:(40:Int)<(g.ts.length:Int):=by omega
  go_wp2_with (rw[<- HW0.out])
  go_ret;exact⟨zab (by rw[HF.out,decide_eq_true h1];rfl),HB0.out⟩
 have i1:¬ (40:Int)<(g.ts.length:Int):=by omega
 by_cases h2:80<g.fs.length
 ·have i2:(80:Int)<(g.fs.length:Int):=by omega
  go_wp2_with (rw[<- HW0.out])
  go_ret;exact⟨zab (by rw[HF.out,decide_eq_true h2];simp),HB0.out⟩
 have i2:¬ (80:Int)<(g.fs.length:Int):=by omega
 by_cases h3:80<g.ms.length
 ·have i3:(80:Int)<(g.ms.length:Int):=by omega
  go_wp2_with (rw[<- HW0.out])
  go_ret;exact⟨zab (by rw[HF.out,decide_eq_true h3];simp),HB0.out⟩
 have i3:¬ (80:Int)<(g.ms.length:Int):=by omega
 have HG:Hid (zcb g=(g.ts.any zem||g.ms.any zcO)):=by show _=_;rw[HF.out,decide_eq_false h1,decide_eq_false h2,decide_eq_false h3];rfl
 clear HF h1 h2 h3;go_wp2_with (rw[<- HW0.out])
 go_loopw [3] (λz wr=>∃ q:Nat,q<=g.ts.length/\z=.int .i64 q/\wr=w0/\Hid ((g.ts.take q).any zem=false)) (λz _=>g.ts.length - (intOf z).toNat)
 case atStart=>exact⟨0,Nat.zero_le _,rfl,rfl,by show _=_;simp⟩
 case round =>
  obtain⟨q,hq,rfl,rfl,HA⟩:=hrel;by_cases hql:q<g.ts.length
  ·obtain⟨b,off,hfa,hb,h6,h7,hc⟩:=(HXt.out _ (Below.refl _ _)).at hql;obtain⟨k0,k1,k2,k3⟩:=(show El tdE _ b (off+q * 4) g.ts[q] from hc q hql).cells_T
   have HY:Hid (zem g.ts[q]=false->(g.ts.take (q+1)).any zem=false):=λh=>zlU hql HA.out h
   have HN:Hid (zem g.ts[q]=true->zcb g=true):=λh=>by rw[HG.out,zpF hql h];rfl
   have hyl:=HTl.out _ (List.getElem_mem hql);generalize g.ts[q]=y at *;unfold maxLen at h7 hyl;rw[hfa]at c1;clear hfa hc;by_cases g1:20<y.fs.length
   ·have g1':(20:Int)<(y.fs.length:Int):=by omega
    have HBad:Hid (zcb g=true):=HN.out (by unfold zem;rw[decide_eq_true g1];rfl)
    go_wp2_with fail
    go_ret;exact⟨zab HBad.out.symm,HB0.out⟩
   have g1':¬ (20:Int)<(y.fs.length:Int):=by omega
   by_cases g2:100<y.nm.size
   ·have g2':(100:Int)<(y.nm.size:Int):=by omega
    have HBad:Hid (zcb g=true):=HN.out (by unfold zem;rw[decide_eq_true g2];simp)
    go_wp2_with fail
    go_ret;exact⟨zab HBad.out.symm,HB0.out⟩
   have g2':¬ (100:Int)<(y.nm.size:Int):=by omega
   have HY2:Hid _:=HY.out (by unfold zem;rw[decide_eq_false g1,decide_eq_false g2];rfl)
   clear HY HN;go_wp2_with fail
   go_roundw
   case rel=>exact⟨q+1,by omega,by go_num,by simp,HY2.out⟩
   case measure=>simp[intOf];omega
  have HG1:Hid (zcb g=g.ms.any zcO):=by show _=_;rw[HG.out,zlv hql HA.out];rfl
  clear HA;go_wp2_with fail
  clear c1;obtain⟨wo,rfl⟩:∃ wo,wo=wr:=⟨_,rfl⟩;go_loopw [4] (λz wr2=>∃ q:Nat,q<=g.ms.length/\z=.int .i64 q/\Below wo.heap.size wo wr2/\Hid ((g.ms.take q).any zcO=false)) (λz _=>g.ms.length - (intOf z).toNat)
  case atStart=>exact⟨0,Nat.zero_le _,rfl,Below.refl _ _,by show _=_;simp⟩
  case round =>
   obtain⟨q,hq,rfl,hB,HA⟩:=hrel;have HBr:Hid (Below wo.heap.size wo wr):=hB;have c1:=(HAT.out wr hB).cell;by_cases hql2:q<g.ms.length
   ·obtain⟨b,off,hfa,hb,h6,h7,hc⟩:=(HXm.out wr hB).at hql2;obtain⟨k0,k1,k2,k3,k4,k5,k6,k7,k8,k9,k10,k11⟩:=(show El mdE wr b (off+q * 12) g.ms[q] from hc q hql2).cells_M
    have HY:Hid (zcO g.ms[q]=false->(g.ms.take (q+1)).any zcO=false):=λh=>zlU hql2 HA.out h
    have HN:Hid (zcO g.ms[q]=true->zcb g=true):=λh=>by rw[HG1.out,zpF hql2 h]
    obtain⟨y1,y2,y3,y4⟩:=HMl.out _ (List.getElem_mem hql2);generalize g.ms[q]=y at *;unfold maxLen at h7 y1 y2 y3 y4;rw[hfa]at c1;obtain⟨wA,hwA⟩:∃ W,W=wr.alloc (.cells (mdA y) 51):=⟨_,rfl⟩;have HWA:Hid (wA=_):=hwA;have hbA:Below wr.heap.size wr wA:=by rw[hwA];exact zac _ _ _
    have HBA:Hid (Below wo.heap.size wo wA):=zaa hB hbA;have hAA:At wA wr.heap.size (mdA y) 51:=by rw[hwA];exact At.made _ _ _
    have cA:=hAA.cell;unfold mdA at cA HWA;clear hfa hc hwA hbA hAA hB;by_cases g0:30<y.ps.length
    ·have g0':(30:Int)<(y.ps.length:Int):=by omega
     have HBad:Hid (zcb g=true):=HN.out (by unfold zcO;rw[decide_eq_true g0];rfl)
     clear HY HN;go_wp2_with (rw[<- HWA.out])
     go_ret;exact⟨zab HBad.out.symm,zaa HB0.out HBA.out⟩
    have g0':¬ (30:Int)<(y.ps.length:Int):=by omega
    by_cases g1:30<y.ls.length
    ·have g1':(30:Int)<(y.ls.length:Int):=by omega
     have HBad:Hid (zcb g=true):=HN.out (by unfold zcO;rw[decide_eq_true g1];simp)
     clear HY HN;go_wp2_with (rw[<- HWA.out])
     go_ret;exact⟨zab HBad.out.symm,zaa HB0.out HBA.out⟩
    have g1':¬ (30:Int)<(y.ls.length:Int):=by omega
    by_cases g2:200<y.co.length
    ·have g2':(200:Int)<(y.co.length:Int):=by omega
     have HBad:Hid (zcb g=true):=HN.out (by unfold zcO;rw[decide_eq_true g2];simp)
     clear HY HN;go_wp2_with (rw[<- HWA.out])
     go_ret;exact⟨zab HBad.out.symm,zaa HB0.out HBA.out⟩
    have g2':¬ (200:Int)<(y.co.length:Int):=by omega
    by_cases g3:20<y.cl.length
    ·have g3':(20:Int)<(y.cl.length:Int):=by omega
     have HBad:Hid (zcb g=true):=HN.out (by unfold zcO;rw[decide_eq_true g3];simp)
     clear HY HN;go_wp2_with (rw[<- HWA.out])
     go_ret;exact⟨zab HBad.out.symm,zaa HB0.out HBA.out⟩
    have g3':¬ (20:Int)<(y.cl.length:Int):=by omega
    by_cases g4:100<y.nm.size
    ·have g4':(100:Int)<(y.nm.size:Int):=by omega
     have HBad:Hid (zcb g=true):=HN.out (by unfold zcO;rw[decide_eq_true g4];simp)
     clear HY HN;go_wp2_with (rw[<- HWA.out])
     go_ret;exact⟨zab HBad.out.symm,zaa HB0.out HBA.out⟩
    have g4':¬ (100:Int)<(y.nm.size:Int):=by omega
    have HY2:Hid _:=HY.out (by unfold zcO;rw[decide_eq_false g0,decide_eq_false g1,decide_eq_false g2,decide_eq_false g3,decide_eq_false g4];rfl)
    clear HY HN;go_wp2_with (rw[<- HWA.out])
    go_roundw
    case rel=>exact⟨q+1,by omega,by go_num,HBA.out,HY2.out⟩
    case measure=>simp[intOf];omega
   have HNo:Hid (zcb g=false):=by show _=_;rw[HG1.out,zlv hql2 HA.out]
   clear HA hB;go_wp2_with fail
   go_ret;exact⟨zab HNo.out.symm,zaa HB0.out HBr.out⟩
end Go.Proofs.YtkedhjdipnhgdaaGreat
