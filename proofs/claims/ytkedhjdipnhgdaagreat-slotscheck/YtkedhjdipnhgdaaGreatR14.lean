import Derived.Test.YtkedhjdipnhgdaaGreatR11
import Derived.Test.YtkedhjdipnhgdaaGreatR07
namespace Go.Proofs.YtkedhjdipnhgdaaGreat
set_option maxHeartbeats 16000000
set_option linter.all false
open RowKit
attribute [local go_sem ↓] wp_at_zero wp_at_succ
theorem zhs {b off cap:Nat} {l:List Ty} {w:World} {f:FuncId} {bs cs:Array Value} {p:Ty->Bool} (hb:b<w.heap.size) (hc:∀ i (hi:i<l.length),El tyE w b (off+i * 4) l[i]) (hl:l.length<=maxLen) (hf:Tells Tryz.prog tv w f bs cs p l) :
 Calls Tryz.prog 231 #[.slice (some ⟨b,off,none⟩) l.length cap,.func (.func f) bs cs] w λe w' =>
  (∃ k:Int,e=.returned (.int .i64 k)/\(0<=k↔l.any p=true))/\Below w.heap.size w w':=by
 unfold maxLen at hl;have HC:Hid (∀ i (hi:i<l.length),El tyE w b (off+i * 4) l[i]):=hc;have HF:Hid (Tells Tryz.prog tv w f bs cs p l):=hf;have hen:=hf.enter;clear hc hf;go_enter Tryz.func231,Tryz.ntmps231;go_wp2_with fail
 go_loopw [5,8] (λ_ z wr=>∃ q:Nat,q<=l.length/\z=.int .i64 q/\Below w.heap.size w wr/\(l.take q).any p=false) (λ_ z _=>l.length - (intOf z).toNat)
 case atStart=>exact⟨0,Nat.zero_le _,rfl,Below.refl _ _,by simp⟩
 case round =>
  obtain⟨q,hq,rfl,hB,hany⟩:=hrel;have HAn:Hid ((l.take q).any p=false):=hany;have hsz:=hB.size;clear hany;by_cases hql:q<l.length
  ·obtain⟨c0,c1,c2,c3⟩:=((HC.out q hql).below hB hb).cells_Y;have HN:Hid (p l[q]=false->(l.take (q+1)).any p=false):=zaS hql HAn.out;have HY:Hid (p l[q]=true->l.any p=true):=λh=>List.any_eq_true.2 ⟨_,List.getElem_mem hql,h⟩
   have HL:Hid (Calls Tryz.prog f (bs.push (tv l[q]) ++ cs) wr λe w'=>e=.returned (.bool (p l[q]))/\Below wr.heap.size wr w'):=HF.out.tells wr hB _ (List.getElem_mem hql)
   generalize l[q]=x at *;have HBL:Hid (Below w.heap.size w wr):=hB;clear hB
   cases hx:p x with
   | false =>
    have H1:Hid ((l.take (q+1)).any p=false):=HN.out hx;rw[hx]at HL;go_wp2_with fail
    refine Calls.mono HL.out ?_;rintro e w1 ⟨rfl,hb1⟩;have hB1:=zaa HBL.out hb1;clear hb1;go_wp2_with fail
    go_roundw
    case rel=>exact⟨q+1,by omega,by go_num,hB1,H1.out⟩
    case measure=>simp[intOf];omega
   | true =>
    have H1:Hid (l.any p=true):=HY.out hx;rw[hx]at HL;go_wp2_with fail
    refine Calls.mono HL.out ?_;rintro e w1 ⟨rfl,hb1⟩;have hB1:=zaa HBL.out hb1;clear hb1;go_wp2_with fail
    go_ret;exact⟨⟨_,rfl,⟨λ_=>H1.out,λ_=>by omega⟩⟩,hB1⟩
  ·have HF':Hid (l.any p=false):=by
    show _=_;have:=HAn.out
    rwa [List.take_of_length_le (by omega)]at this
   go_wp2;go_ret;exact⟨⟨_,rfl,⟨λh=>absurd h (by decide),λh=>absurd h (by rw[HF'.out];decide)⟩⟩,hB⟩
theorem zhm (a:Option Addr) (cap:Nat) (f:Value) (w:World) :
 Calls Tryz.prog 231 #[.slice a 0 cap,f] w λe w'=>e=.returned (.int .i64 (-1))/\w'=w:=by
 go_enter Tryz.func231,Tryz.ntmps231;go_wp2;refine wp_loop_rounds 1 ?_;rw[rounds_succ];go_wp2;go_ret;exact⟨rfl,rfl⟩
theorem zeT {v:Value} {l:List Ty} {w:World} (hX:Es tyE w v l) {f:FuncId} {bs cs:Array Value} {p:Ty->Bool} (hf:Tells Tryz.prog tv w f bs cs p l) :
 Calls Tryz.prog 213 #[v,.func (.func f) bs cs] w λe w'=>e=.returned (.bool (l.any p))/\Below w.heap.size w w':=by
 have HI:Hid (Calls Tryz.prog 231 #[v,.func (.func f) bs cs] w λe w'=>(∃ k:Int,e=.returned (.int .i64 k)/\(0<=k↔l.any p=true))/\Below w.heap.size w w'):=by
  by_cases hne:l=[]
  ·subst hne;obtain⟨a,c,rfl,_,_⟩:=hX.shape;refine (zhm a c _ w).mono ?_;rintro e w' ⟨rfl,rfl⟩;exact⟨⟨_,rfl,⟨λh=>absurd h (by decide),λh=>by simp at h⟩⟩,Below.refl _ _⟩
  ·have hl:=hX.len;obtain⟨b,off,cap,rfl,h1,h2,hb,hc⟩:=hX.parts hne;exact zhs hb hc hl hf
 clear hX hf;go_enter Tryz.func213,Tryz.ntmps213;go_wp2_with fail
 refine Calls.mono HI.out ?_;rintro e w1 ⟨⟨k,rfl,hk⟩,hb1⟩;have HK:Hid (decide (0<=k)=l.any p):=by
  show _=_;rw[Bool.eq_iff_iff,decide_eq_true_iff];exact hk
 clear hk;go_wp2;go_ret;exact⟨zab HK.out,hb1⟩
theorem zjg {x:Ty} {g:Nat} {w:World} {f:FuncId} {bs cs:Array Value} {y:Bool} (hg:w.cell? ⟨g,0,none⟩=some (.func (.func f) bs cs)) (hlt:g<w.heap.size)
 (hen:∀ args W,(callFunc f args).run Tryz.prog W=.ok (.enter f args) W) (hc:∀ W,Below w.heap.size w W->Calls Tryz.prog f (bs.push (tv x) ++ cs) W λe w'=>e=.returned (.bool y)/\Below W.heap.size W w') :
 Calls Tryz.prog 214 #[tv x,.pointer (some ⟨g,0,none⟩)] w λe w'=>e=.returned (.bool (!y))/\Below w.heap.size w w':=by
 obtain⟨w0,hw0⟩:∃ W,W=w.alloc (.cells #[.int .i64 x.1,.int .i64 x.2.1,.int .i64 x.2.2.1,.bool x.2.2.2] 47):=⟨_,rfl⟩;have HW0:Hid (w0=_):=hw0;have hb0:Below w.heap.size w w0:=by rw[hw0];exact zac _ _ _
 have HB0:Hid (Below w.heap.size w w0):=hb0;have hA:At w0 w.heap.size #[.int .i64 x.1,.int .i64 x.2.1,.int .i64 x.2.2.1,.bool x.2.2.2] 47:=by rw[hw0];exact At.made w _ _
 have hg0:w0.cell? ⟨g,0,none⟩=some (.func (.func f) bs cs):=by rw[<- hg];exact hb0.cell (p:=⟨g,0,none⟩) hlt
 have HCL:Hid (Calls Tryz.prog f (bs.push (.agg #[.int .i64 x.1,.int .i64 x.2.1,.int .i64 x.2.2.1,.bool x.2.2.2]) ++ cs) w0 λe w'=>e=.returned (.bool y)/\Below w0.heap.size w0 w'):=hc w0 hb0
 have hcells:=hA.cell;clear hc hg hw0 hb0 hA;unfold tv;go_enter Tryz.func214,Tryz.ntmps214;go_wp2_with (rw[<- HW0.out])
 refine Calls.mono HCL.out ?_;rintro e w1 ⟨rfl,hb1⟩;have HB1:Hid (Below w.heap.size w w1):=zaa HB0.out hb1;clear hb1 hcells;go_wp2;go_ret;exact⟨rfl,HB1.out⟩
theorem zf5 {v:Value} {l:List Ty} {w:World} (hX:Es tyE w v l) {f:FuncId} {bs cs:Array Value} {p:Ty->Bool} (hf:Tells Tryz.prog tv w f bs cs p l) :
 Calls Tryz.prog 191 #[v,.func (.func f) bs cs] w λe w'=>e=.returned (.bool (l.all p))/\Below w.heap.size w w':=by
 have HR:Hid (l.all p=!(l.any λx=>!p x)):=zbx p l
 obtain⟨w0,hw0⟩:∃ W,W=w.alloc (.cells #[.func (.func f) bs cs] 74):=⟨_,rfl⟩;have HW0:Hid (w0=_):=hw0;have hb0:Below w.heap.size w w0:=by rw[hw0];exact zac _ _ _
 have HB0:Hid (Below w.heap.size w w0):=hb0;have hA:At w0 w.heap.size #[.func (.func f) bs cs] 74:=by rw[hw0];exact At.made w _ _
 have HCo:Hid (Calls Tryz.prog 213 #[v,.func (.func 214) #[] #[.pointer (some ⟨w.heap.size,0,none⟩)]] w0 λe w'=>e=.returned (.bool (l.any λx=>!p x))/\Below w0.heap.size w0 w'):=by
  refine zeT (hX.later hb0) ⟨zah Tryz.func214 (by kernel_rfl) rfl,λW hW x hx=>?_⟩
  have hA1:=hA.later hW;have:=zjg (x:=x) (w:=W) hA1.cell0 hA1.lt hf.enter (λW2 hW2=>hf.tells W2 (zaa (zaa hb0 hW) hW2) x hx)
  simpa using this
 obtain⟨sa,sc,hsv,_,_⟩:=hX.shape;clear hw0 hb0 hA hX hf;subst hsv;go_enter Tryz.func191,Tryz.ntmps191;go_wp2_with (rw[<- HW0.out])
 refine Calls.mono HCo.out ?_;rintro e w1 ⟨rfl,hb1⟩;have HB1:Hid (Below w.heap.size w w1):=zaa HB0.out hb1;clear hb1;go_wp2;go_ret;exact⟨zab HR.out.symm,HB1.out⟩
theorem zht {b off cap:Nat} {l:List Ins} {w:World} {f:FuncId} {bs cs:Array Value} {p:Ins->Bool} (hb:b<w.heap.size) (hc:∀ i (hi:i<l.length),El zcv w b (off+i * 6) l[i]) (hl:l.length<=maxLen) (hf:Tells Tryz.prog iv w f bs cs p l) :
 Calls Tryz.prog 232 #[.slice (some ⟨b,off,none⟩) l.length cap,.func (.func f) bs cs] w λe w' =>
  (∃ k:Int,e=.returned (.int .i64 k)/\(0<=k↔l.any p=true))/\Below w.heap.size w w':=by
 unfold maxLen at hl;have HC:Hid (∀ i (hi:i<l.length),El zcv w b (off+i * 6) l[i]):=hc;have HF:Hid (Tells Tryz.prog iv w f bs cs p l):=hf;have hen:=hf.enter;clear hc hf;go_enter Tryz.func232,Tryz.ntmps232;go_wp2_with fail
 go_loopw [5,8] (λ_ z wr=>∃ q:Nat,q<=l.length/\z=.int .i64 q/\Below w.heap.size w wr/\(l.take q).any p=false) (λ_ z _=>l.length - (intOf z).toNat)
 case atStart=>exact⟨0,Nat.zero_le _,rfl,Below.refl _ _,by simp⟩
 case round =>
  obtain⟨q,hq,rfl,hB,hany⟩:=hrel;have HAn:Hid ((l.take q).any p=false):=hany;have hsz:=hB.size;clear hany;by_cases hql:q<l.length
  ·obtain⟨c0,c1,c2,c3,c4,c5⟩:=((HC.out q hql).below hB hb).cells_I;have HN:Hid (p l[q]=false->(l.take (q+1)).any p=false):=zaS hql HAn.out;have HY:Hid (p l[q]=true->l.any p=true):=λh=>List.any_eq_true.2 ⟨_,List.getElem_mem hql,h⟩
   have HL:Hid (Calls Tryz.prog f (bs.push (iv l[q]) ++ cs) wr λe w'=>e=.returned (.bool (p l[q]))/\Below wr.heap.size wr w'):=HF.out.tells wr hB _ (List.getElem_mem hql)
   generalize l[q]=x at *;have HBL:Hid (Below w.heap.size w wr):=hB;clear hB
   cases hx:p x with
   | false =>
    have H1:Hid ((l.take (q+1)).any p=false):=HN.out hx;rw[hx]at HL;go_wp2_with fail
    refine Calls.mono HL.out ?_;rintro e w1 ⟨rfl,hb1⟩;have hB1:=zaa HBL.out hb1;clear hb1;go_wp2_with fail
    go_roundw
    case rel=>exact⟨q+1,by omega,by go_num,hB1,H1.out⟩
    case measure=>simp[intOf];omega
   | true =>
    have H1:Hid (l.any p=true):=HY.out hx;rw[hx]at HL;go_wp2_with fail
    refine Calls.mono HL.out ?_;rintro e w1 ⟨rfl,hb1⟩;have hB1:=zaa HBL.out hb1;clear hb1;go_wp2_with fail
    go_ret;exact⟨⟨_,rfl,⟨λ_=>H1.out,λ_=>by omega⟩⟩,hB1⟩
  ·have HF':Hid (l.any p=false):=by
    show _=_;have:=HAn.out
    rwa [List.take_of_length_le (by omega)]at this
   go_wp2;go_ret;exact⟨⟨_,rfl,⟨λh=>absurd h (by decide),λh=>absurd h (by rw[HF'.out];decide)⟩⟩,hB⟩
theorem zhd (a:Option Addr) (cap:Nat) (f:Value) (w:World) :
 Calls Tryz.prog 232 #[.slice a 0 cap,f] w λe w'=>e=.returned (.int .i64 (-1))/\w'=w:=by
 go_enter Tryz.func232,Tryz.ntmps232;go_wp2;refine wp_loop_rounds 1 ?_;rw[rounds_succ];go_wp2;go_ret;exact⟨rfl,rfl⟩
theorem zff {v:Value} {l:List Ins} {w:World} (hX:Es zcv w v l) {f:FuncId} {bs cs:Array Value} {p:Ins->Bool} (hf:Tells Tryz.prog iv w f bs cs p l) :
 Calls Tryz.prog 215 #[v,.func (.func f) bs cs] w λe w'=>e=.returned (.bool (l.any p))/\Below w.heap.size w w':=by
 have HI:Hid (Calls Tryz.prog 232 #[v,.func (.func f) bs cs] w λe w'=>(∃ k:Int,e=.returned (.int .i64 k)/\(0<=k↔l.any p=true))/\Below w.heap.size w w'):=by
  by_cases hne:l=[]
  ·subst hne;obtain⟨a,c,rfl,_,_⟩:=hX.shape;refine (zhd a c _ w).mono ?_;rintro e w' ⟨rfl,rfl⟩;exact⟨⟨_,rfl,⟨λh=>absurd h (by decide),λh=>by simp at h⟩⟩,Below.refl _ _⟩
  ·have hl:=hX.len;obtain⟨b,off,cap,rfl,h1,h2,hb,hc⟩:=hX.parts hne;exact zht hb hc hl hf
 clear hX hf;go_enter Tryz.func215,Tryz.ntmps215;go_wp2_with fail
 refine Calls.mono HI.out ?_;rintro e w1 ⟨⟨k,rfl,hk⟩,hb1⟩;have HK:Hid (decide (0<=k)=l.any p):=by
  show _=_;rw[Bool.eq_iff_iff,decide_eq_true_iff];exact hk
 clear hk;go_wp2;go_ret;exact⟨zab HK.out,hb1⟩
theorem zj0 {x:Ins} {g:Nat} {w:World} {f:FuncId} {bs cs:Array Value} {y:Bool} (hg:w.cell? ⟨g,0,none⟩=some (.func (.func f) bs cs)) (hlt:g<w.heap.size)
 (hen:∀ args W,(callFunc f args).run Tryz.prog W=.ok (.enter f args) W) (hc:∀ W,Below w.heap.size w W->Calls Tryz.prog f (bs.push (iv x) ++ cs) W λe w'=>e=.returned (.bool y)/\Below W.heap.size W w') :
 Calls Tryz.prog 216 #[iv x,.pointer (some ⟨g,0,none⟩)] w λe w'=>e=.returned (.bool (!y))/\Below w.heap.size w w':=by
 obtain⟨w0,hw0⟩:∃ W,W=w.alloc (.cells #[.int .i64 x.1,.int .i64 x.2.1,.int .i64 x.2.2.1,.int .i64 x.2.2.2.1,.int .i64 x.2.2.2.2.1,.bool x.2.2.2.2.2] 65):=⟨_,rfl⟩;have HW0:Hid (w0=_):=hw0;have hb0:Below w.heap.size w w0:=by rw[hw0];exact zac _ _ _
 have HB0:Hid (Below w.heap.size w w0):=hb0;have hA:At w0 w.heap.size #[.int .i64 x.1,.int .i64 x.2.1,.int .i64 x.2.2.1,.int .i64 x.2.2.2.1,.int .i64 x.2.2.2.2.1,.bool x.2.2.2.2.2] 65:=by rw[hw0];exact At.made w _ _
 have hg0:w0.cell? ⟨g,0,none⟩=some (.func (.func f) bs cs):=by rw[<- hg];exact hb0.cell (p:=⟨g,0,none⟩) hlt
 have HCL:Hid (Calls Tryz.prog f (bs.push (.agg #[.int .i64 x.1,.int .i64 x.2.1,.int .i64 x.2.2.1,.int .i64 x.2.2.2.1,.int .i64 x.2.2.2.2.1,.bool x.2.2.2.2.2]) ++ cs) w0 λe w'=>e=.returned (.bool y)/\Below w0.heap.size w0 w'):=hc w0 hb0
 have hcells:=hA.cell;clear hc hg hw0 hb0 hA;unfold iv;go_enter Tryz.func216,Tryz.ntmps216;go_wp2_with (rw[<- HW0.out])
 refine Calls.mono HCL.out ?_;rintro e w1 ⟨rfl,hb1⟩;have HB1:Hid (Below w.heap.size w w1):=zaa HB0.out hb1;clear hb1 hcells;go_wp2;go_ret;exact⟨rfl,HB1.out⟩
theorem zmX {v:Value} {l:List Ins} {w:World} (hX:Es zcv w v l) {f:FuncId} {bs cs:Array Value} {p:Ins->Bool} (hf:Tells Tryz.prog iv w f bs cs p l) :
 Calls Tryz.prog 193 #[v,.func (.func f) bs cs] w λe w'=>e=.returned (.bool (l.all p))/\Below w.heap.size w w':=by
 have HR:Hid (l.all p=!(l.any λx=>!p x)):=zbx p l
 obtain⟨w0,hw0⟩:∃ W,W=w.alloc (.cells #[.func (.func f) bs cs] 171):=⟨_,rfl⟩;have HW0:Hid (w0=_):=hw0;have hb0:Below w.heap.size w w0:=by rw[hw0];exact zac _ _ _
 have HB0:Hid (Below w.heap.size w w0):=hb0;have hA:At w0 w.heap.size #[.func (.func f) bs cs] 171:=by rw[hw0];exact At.made w _ _
 have HCo:Hid (Calls Tryz.prog 215 #[v,.func (.func 216) #[] #[.pointer (some ⟨w.heap.size,0,none⟩)]] w0 λe w'=>e=.returned (.bool (l.any λx=>!p x))/\Below w0.heap.size w0 w'):=by
  refine zff (hX.later hb0) ⟨zah Tryz.func216 (by kernel_rfl) rfl,λW hW x hx=>?_⟩
  have hA1:=hA.later hW;have:=zj0 (x:=x) (w:=W) hA1.cell0 hA1.lt hf.enter (λW2 hW2=>hf.tells W2 (zaa (zaa hb0 hW) hW2) x hx)
  simpa using this
 obtain⟨sa,sc,hsv,_,_⟩:=hX.shape;clear hw0 hb0 hA hX hf;subst hsv;go_enter Tryz.func193,Tryz.ntmps193;go_wp2_with (rw[<- HW0.out])
 refine Calls.mono HCo.out ?_;rintro e w1 ⟨rfl,hb1⟩;have HB1:Hid (Below w.heap.size w w1):=zaa HB0.out hb1;clear hb1;go_wp2;go_ret;exact⟨zab HR.out.symm,HB1.out⟩
theorem zj2 {x:Cl} {g:Nat} {w:World} {f:FuncId} {bs cs:Array Value} {y:Bool} (hg:w.cell? ⟨g,0,none⟩=some (.func (.func f) bs cs)) (hlt:g<w.heap.size)
 (hen:∀ args W,(callFunc f args).run Tryz.prog W=.ok (.enter f args) W) (hc:∀ W,Below w.heap.size w W->Calls Tryz.prog f (bs.push (clV x) ++ cs) W λe w'=>e=.returned (.bool y)/\Below W.heap.size W w') :
 Calls Tryz.prog 225 #[clV x,.pointer (some ⟨g,0,none⟩)] w λe w'=>e=.returned (.bool (!y))/\Below w.heap.size w w':=by
 obtain⟨w0,hw0⟩:∃ W,W=w.alloc (.cells #[.int .i64 x.k,.int .i64 x.tf,.int .i64 x.tt,.int .i64 x.hf,.int .i64 x.ht,.int .i64 x.fi,.int .i64 x.t0,.int .i64 x.t1,.int .i64 x.t2,.bool x.t3] 85):=⟨_,rfl⟩;have HW0:Hid (w0=_):=hw0;have hb0:Below w.heap.size w w0:=by rw[hw0];exact zac _ _ _
 have HB0:Hid (Below w.heap.size w w0):=hb0;have hA:At w0 w.heap.size #[.int .i64 x.k,.int .i64 x.tf,.int .i64 x.tt,.int .i64 x.hf,.int .i64 x.ht,.int .i64 x.fi,.int .i64 x.t0,.int .i64 x.t1,.int .i64 x.t2,.bool x.t3] 85:=by rw[hw0];exact At.made w _ _
 have hg0:w0.cell? ⟨g,0,none⟩=some (.func (.func f) bs cs):=by rw[<- hg];exact hb0.cell (p:=⟨g,0,none⟩) hlt
 have HCL:Hid (Calls Tryz.prog f (bs.push (.agg #[.int .i64 x.k,.int .i64 x.tf,.int .i64 x.tt,.int .i64 x.hf,.int .i64 x.ht,.int .i64 x.fi,.int .i64 x.t0,.int .i64 x.t1,.int .i64 x.t2,.bool x.t3]) ++ cs) w0 λe w'=>e=.returned (.bool y)/\Below w0.heap.size w0 w'):=hc w0 hb0
 have hcells:=hA.cell;clear hc hg hw0 hb0 hA;unfold clV;go_enter Tryz.func225,Tryz.ntmps225;go_wp2_with (rw[<- HW0.out])
 refine Calls.mono HCL.out ?_;rintro e w1 ⟨rfl,hb1⟩;have HB1:Hid (Below w.heap.size w w1):=zaa HB0.out hb1;clear hb1 hcells;go_wp2;go_ret;exact⟨rfl,HB1.out⟩
theorem zm4 {v:Value} {l:List Cl} {w:World} (hX:Es zci w v l) {f:FuncId} {bs cs:Array Value} {p:Cl->Bool} (hf:Tells Tryz.prog clV w f bs cs p l) :
 Calls Tryz.prog 198 #[v,.func (.func f) bs cs] w λe w'=>e=.returned (.bool (l.all p))/\Below w.heap.size w w':=by
 have HR:Hid (l.all p=!(l.any λx=>!p x)):=zbx p l
 obtain⟨w0,hw0⟩:∃ W,W=w.alloc (.cells #[.func (.func f) bs cs] 174):=⟨_,rfl⟩;have HW0:Hid (w0=_):=hw0;have hb0:Below w.heap.size w w0:=by rw[hw0];exact zac _ _ _
 have HB0:Hid (Below w.heap.size w w0):=hb0;have hA:At w0 w.heap.size #[.func (.func f) bs cs] 174:=by rw[hw0];exact At.made w _ _
 have HCo:Hid (Calls Tryz.prog 224 #[v,.func (.func 225) #[] #[.pointer (some ⟨w.heap.size,0,none⟩)]] w0 λe w'=>e=.returned (.bool (l.any λx=>!p x))/\Below w0.heap.size w0 w'):=by
  refine zdp (hX.later hb0) ⟨zah Tryz.func225 (by kernel_rfl) rfl,λW hW x hx=>?_⟩
  have hA1:=hA.later hW;have:=zj2 (x:=x) (w:=W) hA1.cell0 hA1.lt hf.enter (λW2 hW2=>hf.tells W2 (zaa (zaa hb0 hW) hW2) x hx)
  simpa using this
 obtain⟨sa,sc,hsv,_,_⟩:=hX.shape;clear hw0 hb0 hA hX hf;subst hsv;go_enter Tryz.func198,Tryz.ntmps198;go_wp2_with (rw[<- HW0.out])
 refine Calls.mono HCo.out ?_;rintro e w1 ⟨rfl,hb1⟩;have HB1:Hid (Below w.heap.size w w1):=zaa HB0.out hb1;clear hb1;go_wp2;go_ret;exact⟨zab HR.out.symm,HB1.out⟩
theorem zgo {b off cap:Nat} {l:List Int} {w:World} {f:FuncId} {bs cs:Array Value} {p:Int->Bool} (hb:b<w.heap.size) (hc:∀ i (hi:i<l.length),El zch w b (off+i * 1) l[i]) (hl:l.length<=maxLen) (hf:Tells Tryz.prog zew w f bs cs p l) :
 Calls Tryz.prog 99 #[.slice (some ⟨b,off,none⟩) l.length cap,.func (.func f) bs cs] w λe w' =>
  (∃ k:Int,e=.returned (.int .i64 k)/\(0<=k↔l.any p=true))/\Below w.heap.size w w':=by
 unfold maxLen at hl;have HC:Hid (∀ i (hi:i<l.length),El zch w b (off+i * 1) l[i]):=hc;have HF:Hid (Tells Tryz.prog zew w f bs cs p l):=hf;have hen:=hf.enter;clear hc hf;go_enter Tryz.func99,Tryz.ntmps99;go_wp2_with fail
 go_loopw [5,8] (λ_ z wr=>∃ q:Nat,q<=l.length/\z=.int .i64 q/\Below w.heap.size w wr/\(l.take q).any p=false) (λ_ z _=>l.length - (intOf z).toNat)
 case atStart=>exact⟨0,Nat.zero_le _,rfl,Below.refl _ _,by simp⟩
 case round =>
  obtain⟨q,hq,rfl,hB,hany⟩:=hrel;have HAn:Hid ((l.take q).any p=false):=hany;have hsz:=hB.size;clear hany;by_cases hql:q<l.length
  ·have c0:=((HC.out q hql).below hB hb).cells_N;have HN:Hid (p l[q]=false->(l.take (q+1)).any p=false):=zaS hql HAn.out;have HY:Hid (p l[q]=true->l.any p=true):=λh=>List.any_eq_true.2 ⟨_,List.getElem_mem hql,h⟩
   have HL:Hid (Calls Tryz.prog f (bs.push (zew l[q]) ++ cs) wr λe w'=>e=.returned (.bool (p l[q]))/\Below wr.heap.size wr w'):=HF.out.tells wr hB _ (List.getElem_mem hql)
   generalize l[q]=x at *;have HBL:Hid (Below w.heap.size w wr):=hB;clear hB
   cases hx:p x with
   | false =>
    have H1:Hid ((l.take (q+1)).any p=false):=HN.out hx;rw[hx]at HL;go_wp2_with fail
    refine Calls.mono HL.out ?_;rintro e w1 ⟨rfl,hb1⟩;have hB1:=zaa HBL.out hb1;clear hb1;go_wp2_with fail
    go_roundw
    case rel=>exact⟨q+1,by omega,by go_num,hB1,H1.out⟩
    case measure=>simp[intOf];omega
   | true =>
    have H1:Hid (l.any p=true):=HY.out hx;rw[hx]at HL;go_wp2_with fail
    refine Calls.mono HL.out ?_;rintro e w1 ⟨rfl,hb1⟩;have hB1:=zaa HBL.out hb1;clear hb1;go_wp2_with fail
    go_ret;exact⟨⟨_,rfl,⟨λ_=>H1.out,λ_=>by omega⟩⟩,hB1⟩
  ·have HF':Hid (l.any p=false):=by
    show _=_;have:=HAn.out
    rwa [List.take_of_length_le (by omega)]at this
   go_wp2;go_ret;exact⟨⟨_,rfl,⟨λh=>absurd h (by decide),λh=>absurd h (by rw[HF'.out];decide)⟩⟩,hB⟩
theorem zdi (a:Option Addr) (cap:Nat) (f:Value) (w:World) :
 Calls Tryz.prog 99 #[.slice a 0 cap,f] w λe w'=>e=.returned (.int .i64 (-1))/\w'=w:=by
 go_enter Tryz.func99,Tryz.ntmps99;go_wp2;refine wp_loop_rounds 1 ?_;rw[rounds_succ];go_wp2;go_ret;exact⟨rfl,rfl⟩
theorem zbd {v:Value} {l:List Int} {w:World} (hX:Es zch w v l) {f:FuncId} {bs cs:Array Value} {p:Int->Bool} (hf:Tells Tryz.prog zew w f bs cs p l) :
 Calls Tryz.prog 159 #[v,.func (.func f) bs cs] w λe w'=>e=.returned (.bool (l.any p))/\Below w.heap.size w w':=by
 have HI:Hid (Calls Tryz.prog 99 #[v,.func (.func f) bs cs] w λe w'=>(∃ k:Int,e=.returned (.int .i64 k)/\(0<=k↔l.any p=true))/\Below w.heap.size w w'):=by
  by_cases hne:l=[]
  ·subst hne;obtain⟨a,c,rfl,_,_⟩:=hX.shape;refine (zdi a c _ w).mono ?_;rintro e w' ⟨rfl,rfl⟩;exact⟨⟨_,rfl,⟨λh=>absurd h (by decide),λh=>by simp at h⟩⟩,Below.refl _ _⟩
  ·have hl:=hX.len;obtain⟨b,off,cap,rfl,h1,h2,hb,hc⟩:=hX.parts hne;exact zgo hb hc hl hf
 clear hX hf;go_enter Tryz.func159,Tryz.ntmps159;go_wp2_with fail
 refine Calls.mono HI.out ?_;rintro e w1 ⟨⟨k,rfl,hk⟩,hb1⟩;have HK:Hid (decide (0<=k)=l.any p):=by
  show _=_;rw[Bool.eq_iff_iff,decide_eq_true_iff];exact hk
 clear hk;go_wp2;go_ret;exact⟨zab HK.out,hb1⟩
theorem zkN {x:Int} {g:Nat} {w:World} {f:FuncId} {bs cs:Array Value} {y:Bool} (hg:w.cell? ⟨g,0,none⟩=some (.func (.func f) bs cs)) (hlt:g<w.heap.size)
 (hen:∀ args W,(callFunc f args).run Tryz.prog W=.ok (.enter f args) W) (hc:∀ W,Below w.heap.size w W->Calls Tryz.prog f (bs.push (zew x) ++ cs) W λe w'=>e=.returned (.bool y)/\Below W.heap.size W w') :
 Calls Tryz.prog 184 #[zew x,.pointer (some ⟨g,0,none⟩)] w λe w'=>e=.returned (.bool (!y))/\Below w.heap.size w w':=by
 have HCL:Hid (Calls Tryz.prog f (bs.push (.int .i64 x) ++ cs) w λe w'=>e=.returned (.bool y)/\Below w.heap.size w w'):=hc w (Below.refl _ _)
 clear hc;unfold zew;go_enter Tryz.func184,Tryz.ntmps184;go_wp2_with fail
 refine Calls.mono HCL.out ?_;rintro e w1 ⟨rfl,hb1⟩;have HB1:Hid (Below w.heap.size w w1):=hb1;clear hb1;go_wp2;go_ret;exact⟨rfl,HB1.out⟩
theorem zmO {v:Value} {l:List Int} {w:World} (hX:Es zch w v l) {f:FuncId} {bs cs:Array Value} {p:Int->Bool} (hf:Tells Tryz.prog zew w f bs cs p l) :
 Calls Tryz.prog 147 #[v,.func (.func f) bs cs] w λe w'=>e=.returned (.bool (l.all p))/\Below w.heap.size w w':=by
 have HR:Hid (l.all p=!(l.any λx=>!p x)):=zbx p l
 obtain⟨w0,hw0⟩:∃ W,W=w.alloc (.cells #[.func (.func f) bs cs] 104):=⟨_,rfl⟩;have HW0:Hid (w0=_):=hw0;have hb0:Below w.heap.size w w0:=by rw[hw0];exact zac _ _ _
 have HB0:Hid (Below w.heap.size w w0):=hb0;have hA:At w0 w.heap.size #[.func (.func f) bs cs] 104:=by rw[hw0];exact At.made w _ _
 have HCo:Hid (Calls Tryz.prog 159 #[v,.func (.func 184) #[] #[.pointer (some ⟨w.heap.size,0,none⟩)]] w0 λe w'=>e=.returned (.bool (l.any λx=>!p x))/\Below w0.heap.size w0 w'):=by
  refine zbd (hX.later hb0) ⟨zah Tryz.func184 (by kernel_rfl) rfl,λW hW x hx=>?_⟩
  have hA1:=hA.later hW;have:=zkN (x:=x) (w:=W) hA1.cell0 hA1.lt hf.enter (λW2 hW2=>hf.tells W2 (zaa (zaa hb0 hW) hW2) x hx)
  simpa using this
 obtain⟨sa,sc,hsv,_,_⟩:=hX.shape;clear hw0 hb0 hA hX hf;subst hsv;go_enter Tryz.func147,Tryz.ntmps147;go_wp2_with (rw[<- HW0.out])
 refine Calls.mono HCo.out ?_;rintro e w1 ⟨rfl,hb1⟩;have HB1:Hid (Below w.heap.size w w1):=zaa HB0.out hb1;clear hb1;go_wp2;go_ret;exact⟨zab HR.out.symm,HB1.out⟩
end Go.Proofs.YtkedhjdipnhgdaaGreat
