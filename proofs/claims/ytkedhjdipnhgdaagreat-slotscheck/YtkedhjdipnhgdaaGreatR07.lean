import Derived.Test.YtkedhjdipnhgdaaGreatR05
namespace Go.Proofs.YtkedhjdipnhgdaaGreat
set_option maxHeartbeats 16000000
set_option linter.all false
open RowKit
attribute [local go_sem ↓] wp_at_zero wp_at_succ
theorem zbx {α:Type} (p:α->Bool):∀ l:List α,l.all p=!(l.any λx=>!p x)
 | []=>rfl
 | x :: r=>by rw[List.all_cons,List.any_cons,zbx p r];cases p x <;> simp
theorem At.cell0 {w:World} {g:Nat} {v:Value} {t:TypeId} (h:At w g #[v] t):w.cell? ⟨g,0,none⟩=some v:=h.cell 0
theorem At.box2 {w:World} {g:Nat} {a b:Value} {t:TypeId} (h:At w g #[a,b] t):w.cell? ⟨g,0,none⟩=some a/\w.cell? ⟨g,1,none⟩=some b:=⟨h.cell 0,h.cell 1⟩
theorem zac (w:World) (C:Array Value) (t:TypeId):Below w.heap.size w (w.alloc (.cells C t)):=(Below.refl _ _).alloc (Nat.le_refl _) _
theorem zpe {x:Sp} {g:Nat} {w:World} {f:FuncId} {bs cs:Array Value} {y:Bool} (hg:w.cell? ⟨g,0,none⟩=some (.func (.func f) bs cs)) (hlt:g<w.heap.size)
 (hen:∀ args W,(callFunc f args).run Tryz.prog W=.ok (.enter f args) W) (hc:∀ W,Below w.heap.size w W->Calls Tryz.prog f (bs.push (zcV x) ++ cs) W λe w'=>e=.returned (.bool y)/\Below W.heap.size W w') :
 Calls Tryz.prog 253 #[zcV x,.pointer (some ⟨g,0,none⟩)] w λe w'=>e=.returned (.bool (!y))/\Below w.heap.size w w':=by
 have HC:Hid (∀ W,Below w.heap.size w W->Calls Tryz.prog f (bs.push (zcV x) ++ cs) W λe w'=>e=.returned (.bool y)/\Below W.heap.size W w'):=hc
 obtain⟨w0,hw0⟩:∃ W,W=w.alloc (.cells #[.int .i64 x.1,.int .i64 x.2] 199):=⟨_,rfl⟩;have HW0:Hid (w0=_):=hw0;have hb0:Below w.heap.size w w0:=by rw[hw0];exact zac _ _ _
 have HB0:Hid (Below w.heap.size w w0):=hb0;have hA:At w0 w.heap.size #[.int .i64 x.1,.int .i64 x.2] 199:=by rw[hw0];exact At.made w _ _
 have hg0:w0.cell? ⟨g,0,none⟩=some (.func (.func f) bs cs):=by rw[<- hg];exact hb0.cell (p:=⟨g,0,none⟩) hlt
 have HCL:Hid (Calls Tryz.prog f (bs.push (.agg #[.int .i64 x.1,.int .i64 x.2]) ++ cs) w0 λe w'=>e=.returned (.bool y)/\Below w0.heap.size w0 w'):=hc w0 hb0
 obtain⟨c0,c1⟩:=hA.box2;clear hc hg hw0 hb0 hA;unfold zcV;go_enter Tryz.func253,Tryz.ntmps253;go_wp2_with (rw[<- HW0.out])
 refine Calls.mono HCL.out ?_;rintro e w1 ⟨rfl,hb1⟩;have HB1:Hid (Below w.heap.size w w1):=zaa HB0.out hb1;clear hb1;go_wp2;go_ret;exact⟨rfl,HB1.out⟩
theorem zqY {v:Value} {l:List Sp} {w:World} (hX:Es spE w v l) {f:FuncId} {bs cs:Array Value} {p:Sp->Bool} (hf:Tells Tryz.prog zcV w f bs cs p l) :
 Calls Tryz.prog 241 #[v,.func (.func f) bs cs] w λe w'=>e=.returned (.bool (l.all p))/\Below w.heap.size w w':=by
 have HR:Hid (l.all p=!(l.any λx=>!p x)):=zbx p l
 obtain⟨w0,hw0⟩:∃ W,W=w.alloc (.cells #[.func (.func f) bs cs] 202):=⟨_,rfl⟩;have HW0:Hid (w0=_):=hw0;have hb0:Below w.heap.size w w0:=by rw[hw0];exact zac _ _ _
 have HB0:Hid (Below w.heap.size w w0):=hb0;have hA:At w0 w.heap.size #[.func (.func f) bs cs] 202:=by rw[hw0];exact At.made w _ _
 have HCo:Hid (Calls Tryz.prog 239 #[v,.func (.func 253) #[] #[.pointer (some ⟨w.heap.size,0,none⟩)]] w0 λe w'=>e=.returned (.bool (l.any λx=>!p x))/\Below w0.heap.size w0 w'):=by
  refine zbe (hX.later hb0) ⟨zah Tryz.func253 (by kernel_rfl) rfl,λW hW x hx=>?_⟩
  have hA1:=hA.later hW;have:=zpe (x:=x) (w:=W) hA1.cell0 hA1.lt hf.enter (λW2 hW2=>hf.tells W2 (zaa (zaa hb0 hW) hW2) x hx)
  simpa using this
 clear hw0 hb0 hA hX hf;go_enter Tryz.func241,Tryz.ntmps241;go_wp2_with (rw[<- HW0.out])
 refine Calls.mono HCo.out ?_;rintro e w1 ⟨rfl,hb1⟩;have HB1:Hid (Below w.heap.size w w1):=zaa HB0.out hb1;clear hb1;go_wp2;go_ret;exact⟨zab HR.out.symm,HB1.out⟩
theorem zej (s:Sp) (w:World) (l:List Sp):Tells Tryz.prog zcV w 244 #[zcV s] #[] (zeV s) l:=
 ⟨zah Tryz.func244 (by kernel_rfl) rfl,λW _ x _=>by simpa using zkC s x W⟩
theorem zoN {x:Sp} {g:Nat} {vb:Value} {lb:List Sp} {w:World} (hg:w.cell? ⟨g,0,none⟩=some vb) (hlt:g<w.heap.size) (hb:Es spE w vb lb) :
 Calls Tryz.prog 251 #[zcV x,.pointer (some ⟨g,0,none⟩)] w λe w'=>e=.returned (.bool (lb.any (zeV x)))/\Below w.heap.size w w':=by
 obtain⟨w0,hw0⟩:∃ W,W=w.alloc (.cells #[.int .i64 x.1,.int .i64 x.2] 199):=⟨_,rfl⟩;have HW0:Hid (w0=_):=hw0;have hb0:Below w.heap.size w w0:=by rw[hw0];exact zac _ _ _
 have HB0:Hid (Below w.heap.size w w0):=hb0;have hA:At w0 w.heap.size #[.int .i64 x.1,.int .i64 x.2] 199:=by rw[hw0];exact At.made w _ _
 have hg0:w0.cell? ⟨g,0,none⟩=some vb:=by rw[<- hg];exact hb0.cell (p:=⟨g,0,none⟩) hlt
 have HCo:Hid (Calls Tryz.prog 239 #[vb,.func (.func 244) #[.agg #[.int .i64 x.1,.int .i64 x.2]] #[]] w0 λe w'=>e=.returned (.bool (lb.any (zeV x)))/\Below w0.heap.size w0 w'):=zbe (hb.later hb0) (zej x w0 lb)
 obtain⟨c0,c1⟩:=hA.box2;obtain⟨va,vc,hvb,_,_⟩:=hb.shape;clear hb hg hw0 hb0 hA;subst hvb;unfold zcV;go_enter Tryz.func251,Tryz.ntmps251;go_wp2_with (rw[<- HW0.out])
 refine Calls.mono HCo.out ?_;rintro e w1 ⟨rfl,hb1⟩;have HB1:Hid (Below w.heap.size w w1):=zaa HB0.out hb1;clear hb1;go_wp2;go_ret;exact⟨rfl,HB1.out⟩
theorem zlD {va vb:Value} {la lb:List Sp} {w:World} (ha:Es spE w va la) (hb:Es spE w vb lb) :
 Calls Tryz.prog 238 #[va,vb] w λe w'=>e=.returned (.bool (zdP la lb))/\Below w.heap.size w w':=by
 obtain⟨w0,hw0⟩:∃ W,W=w.alloc (.cells #[vb] 184):=⟨_,rfl⟩;have HW0:Hid (w0=_):=hw0;have hb0:Below w.heap.size w w0:=by rw[hw0];exact zac _ _ _
 have HB0:Hid (Below w.heap.size w w0):=hb0;have hA:At w0 w.heap.size #[vb] 184:=by rw[hw0];exact At.made w _ _
 have HCo:Hid (Calls Tryz.prog 239 #[va,.func (.func 251) #[] #[.pointer (some ⟨w.heap.size,0,none⟩)]] w0 λe w'=>e=.returned (.bool (zdP la lb))/\Below w0.heap.size w0 w'):=by
  refine zbe (ha.later hb0) ⟨zah Tryz.func251 (by kernel_rfl) rfl,λW hW x hx=>?_⟩
  have hA1:=hA.later hW;have:=zoN (x:=x) (w:=W) hA1.cell0 hA1.lt ((hb.later hb0).later hW);simpa using this
 obtain⟨aa,ca,hva,_,_⟩:=ha.shape;obtain⟨ab,cb,hvb,_,_⟩:=hb.shape;clear ha hb hw0 hb0 hA;subst hva hvb;go_enter Tryz.func238,Tryz.ntmps238;go_wp2_with (rw[<- HW0.out])
 refine Calls.mono HCo.out ?_;rintro e w1 ⟨rfl,hb1⟩;have HB1:Hid (Below w.heap.size w w1):=zaa HB0.out hb1;clear hb1;go_wp2;go_ret;exact⟨rfl,HB1.out⟩
theorem Tryz.sizeSpan:(Tryz.prog.info? 199).map (·.size)=some 2:=by kernel_rfl
theorem zm0 {f:Nat->Bool} {q:Nat}:(List.range (q+1)).any f=((List.range q).any f||f q):=by rw[List.range_succ,List.any_append];simp
theorem zhe (a:Option Addr) (cap:Nat) (w:World) :
 Calls Tryz.prog 223 #[.slice a 0 cap] w λe w'=>e=.returned (.bool false)/\w'=w:=by
 go_enter Tryz.func223,Tryz.ntmps223;go_wp2;refine wp_loop_rounds 1 ?_;rw[rounds_succ];go_wp2;go_ret;exact⟨rfl,rfl⟩
theorem zhv {b off cap:Nat} {l:List Sp} {w:World} (hE:Es spE w (.slice (some ⟨b,off,none⟩) l.length cap) l) (hb:b<w.heap.size) (hc:∀ i (hi:i<l.length),El spE w b (off+i * 2) l[i]) (hl:l.length<=maxLen) (hcap:l.length<=cap) (hm:cap<=maxLen) :
 Calls Tryz.prog 223 #[.slice (some ⟨b,off,none⟩) l.length cap] w λe w'=>e=.returned (.bool (zfu l))/\Below w.heap.size w w':=by
 unfold maxLen at hl hm;have HC:Hid (∀ i (hi:i<l.length),El spE w b (off+i * 2) l[i]):=hc;have HE:Hid (Es spE w (.slice (some ⟨b,off,none⟩) l.length cap) l):=hE;clear hc hE;go_enter Tryz.func223,Tryz.ntmps223;go_wp2_with fail
 go_loopw [7] (λz wr=>∃ q:Nat,q<=l.length/\z=.int .i64 q/\Below w.heap.size w wr/\(List.range q).any (ziU l)=false) (λz _=>l.length - (intOf z).toNat)
 case atStart=>exact⟨0,Nat.zero_le _,rfl,Below.refl _ _,by simp⟩
 case round =>
  obtain⟨q,hq,rfl,hB,hany⟩:=hrel;have HAn:Hid ((List.range q).any (ziU l)=false):=hany;have HBL:Hid (Below w.heap.size w wr):=hB;clear hany;by_cases hql:q<l.length
  ·obtain⟨c0,c1⟩:=((HC.out q hql).below hB hb).two;have HOv:Hid (ziU l q=(l.take q).any (zeV l[q])):=by show _=_;unfold ziU;rw[List.getD_eq_getElem?_getD,List.getElem?_eq_getElem hql];rfl
   obtain⟨hsl,hEs⟩:=zb0 (P:=Tryz.prog) (HE.out.later hB) q (by omega) 184 199 Tryz.underlying184 Tryz.sizeSpan
   have HEs:Hid (Es spE wr (.slice (some ⟨b,off,none⟩) q cap) (l.take q)):=hEs;generalize l[q]=x at *;obtain⟨w0,hw0⟩:∃ W,W=wr.alloc (.cells #[.int .i64 x.1,.int .i64 x.2] 199):=⟨_,rfl⟩;have HW0:Hid (w0=_):=hw0;have hb0:Below wr.heap.size wr w0:=by rw[hw0];exact zac _ _ _
   have HB0:Hid (Below wr.heap.size wr w0):=hb0;have hA:At w0 wr.heap.size #[.int .i64 x.1,.int .i64 x.2] 199:=by rw[hw0];exact At.made wr _ _
   have HK:Hid (∀ w',Below w0.heap.size w0 w'->w'.cell? ⟨wr.heap.size,0,none⟩=some (.int .i64 x.1)/\w'.cell? ⟨wr.heap.size,1,none⟩=some (.int .i64 x.2)):=λw' h=>(hA.later h).box2
   obtain⟨d0,d1⟩:=hA.box2;have HCo:Hid (∀ W,Below w0.heap.size w0 W->Calls Tryz.prog 239 #[.slice (some ⟨b,off,none⟩) q cap,.func (.func 244) #[.agg #[.int .i64 x.1,.int .i64 x.2]] #[]] W λe w'=>e=.returned (.bool ((l.take q).any (zeV x)))/\Below W.heap.size W w'):=λW hW=>zbe ((HEs.out.later hb0).later hW) (zej x W _)
   clear hB hw0 hb0 hA hEs;go_wp2_with (rw[<- HW0.out])
   go_region_held3 (λw'=>w'.cell? ⟨wr.heap.size,0,none⟩=some (.int .i64 x.1)/\w'.cell? ⟨wr.heap.size,1,none⟩=some (.int .i64 x.2))
    (first | (exact HK.out _ (zad _)) | (exact HK.out _ (zaa (zad _) hb1)))
    (first | (go_at_call 239;refine (HCo.out _ (zad _)).mono ?_;rintro e w1 ⟨rfl,hb1⟩))
   rename_i hheld
   clear hheld;have hB1:Below w.heap.size w w1:=zaa (zaa HBL.out HB0.out) (zaa (zad _) hb1);clear hb1 d0 d1
   cases hy:(l.take q).any (zeV x) with
   | false =>
    have H1:Hid ((List.range (q+1)).any (ziU l)=false):=by show _=_;rw[zm0,HAn.out,HOv.out,hy];rfl
    go_wp2_with fail
    go_roundw
    case rel=>exact⟨q+1,by omega,by go_num,hB1,H1.out⟩
    case measure=>simp[intOf];omega
   | true =>
    have H1:Hid (zfu l=true):=by
     show _=_;exact List.any_eq_true.2 ⟨q,List.mem_range.2 hql,by rw[HOv.out,hy]⟩
    go_wp2_with fail
    go_ret;exact⟨zab H1.out.symm,hB1⟩
  ·have HF':Hid (zfu l=false):=by
    show _=_;have:=HAn.out
    rwa [show q=l.length by omega]at this
   go_wp2;go_ret;exact⟨zab HF'.out.symm,HBL.out⟩
theorem ziP {v:Value} {l:List Sp} {w:World} (h:Es spE w v l) :
 Calls Tryz.prog 223 #[v] w λe w'=>e=.returned (.bool (zfu l))/\Below w.heap.size w w':=by
 by_cases hne:l=[]
 ·subst hne;obtain⟨a,c,rfl,_,_⟩:=h.shape;refine (zhe a c w).mono ?_;rintro e w' ⟨rfl,rfl⟩;exact⟨rfl,Below.refl _ _⟩
 ·have hl:=h.len;obtain⟨b,off,cap,rfl,h1,h2,hb,hc⟩:=h.parts hne;exact zhv h hb hc hl h1 h2
theorem zv6 (W:World) (a b:Sp):(binOp .eql 199 (.agg #[.int .i64 a.1,.int .i64 a.2]) (.agg #[.int .i64 b.1,.int .i64 b.2])).run Tryz.prog W=.ok (.bool (decide (a=b))) W:=by
 obtain⟨a1,a2⟩:=a;obtain⟨b1,b2⟩:=b;have:decide ((a1,a2)=(b1,b2))=(a1==b1&&a2==b2):=by rw[Bool.eq_iff_iff];simp
 rw[this];simp[go_sem]
 cases h1:(a1==b1) <;> cases h2:(a2==b2) <;> simp_all[go_sem]
theorem zxb (W:World) (a b:Sp):(binOp .neq 199 (.agg #[.int .i64 a.1,.int .i64 a.2]) (.agg #[.int .i64 b.1,.int .i64 b.2])).run Tryz.prog W=.ok (.bool (!decide (a=b))) W:=by
 obtain⟨a1,a2⟩:=a;obtain⟨b1,b2⟩:=b;have:decide ((a1,a2)=(b1,b2))=(a1==b1&&a2==b2):=by rw[Bool.eq_iff_iff];simp
 rw[this];simp[go_sem]
 cases h1:(a1==b1) <;> cases h2:(a2==b2) <;> simp_all[go_sem]
theorem zmJ {x o:Sp} {g:Nat} {w:World} (hg:At w g #[.int .i64 o.1,.int .i64 o.2] 199) :
 Calls Tryz.prog 242 #[zcV x,.pointer (some ⟨g,0,none⟩)] w λe w'=>e=.returned (.bool (zbK x o&&!decide (x=o)))/\Below w.heap.size w w':=by
 obtain⟨w0,hw0⟩:∃ W,W=w.alloc (.cells #[.int .i64 x.1,.int .i64 x.2] 199):=⟨_,rfl⟩;have HW0:Hid (w0=_):=hw0;have hb0:Below w.heap.size w w0:=by rw[hw0];exact zac _ _ _
 have HB0:Hid (Below w.heap.size w w0):=hb0;have hA:At w0 w.heap.size #[.int .i64 x.1,.int .i64 x.2] 199:=by rw[hw0];exact At.made w _ _
 have HK:Hid (∀ w',Below w0.heap.size w0 w'->(w'.cell? ⟨w.heap.size,0,none⟩=some (.int .i64 x.1)/\w'.cell? ⟨w.heap.size,1,none⟩=some (.int .i64 x.2))/\(w'.cell? ⟨g,0,none⟩=some (.int .i64 o.1)/\w'.cell? ⟨g,1,none⟩=some (.int .i64 o.2))):=λw' h=>⟨(hA.later h).box2,((hg.later hb0).later h).box2⟩
 obtain⟨⟨c0,c1⟩,c2,c3⟩:=HK.out w0 (Below.refl _ _);have hne:=λW=>zxb W x o
 have HPa:Hid (∀ W,Calls Tryz.prog 243 #[.agg #[.int .i64 x.1,.int .i64 x.2],.agg #[.int .i64 o.1,.int .i64 o.2]] W λe w'=>e=.returned (.bool (zbK x o))/\Below W.heap.size W w'):=λW=>zbS x o W
 clear hg hw0 hb0 hA;unfold zcV;go_enter Tryz.func242,Tryz.ntmps242;go_wp2_with (first | (rw[<- HW0.out]) | fail)
 refine (HPa.out _).mono ?_;rintro e w1 ⟨rfl,hb1⟩;obtain⟨⟨e0,e1⟩,e2,e3⟩:=HK.out w1 hb1;have HB1:Hid (Below w.heap.size w w1):=zaa HB0.out hb1;clear hb1 c0 c1 c2 c3
 cases hp:zbK x o with
 | false =>
  go_wp2;go_ret;exact⟨zab (by rw[hp];rfl),HB1.out⟩
 | true =>
  go_wp2;go_ret;exact⟨zab (by rw[hp];rfl),HB1.out⟩
theorem zpl {o:Sp} {g:Nat} {va:Value} {la:List Sp} {w:World} (hg:w.cell? ⟨g,0,none⟩=some va) (hlt:g<w.heap.size) (ha:Es spE w va la) :
 Calls Tryz.prog 240 #[zcV o,.pointer (some ⟨g,0,none⟩)] w λe w'=>e=.returned (.bool (zns la o))/\Below w.heap.size w w':=by
 obtain⟨w0,hw0⟩:∃ W,W=w.alloc (.cells #[.int .i64 o.1,.int .i64 o.2] 199):=⟨_,rfl⟩;have HW0:Hid (w0=_):=hw0;have hb0:Below w.heap.size w w0:=by rw[hw0];exact zac _ _ _
 have HB0:Hid (Below w.heap.size w w0):=hb0;have hA:At w0 w.heap.size #[.int .i64 o.1,.int .i64 o.2] 199:=by rw[hw0];exact At.made w _ _
 have hg0:w0.cell? ⟨g,0,none⟩=some va:=by rw[<- hg];exact hb0.cell (p:=⟨g,0,none⟩) hlt
 have HAl:Hid (Calls Tryz.prog 241 #[va,.func (.func 242) #[] #[.pointer (some ⟨w.heap.size,0,none⟩)]] w0 λe w'=>e=.returned (.bool (zns la o))/\Below w0.heap.size w0 w'):=by
  refine zqY (p:=λs=>zbK s o&&!decide (s=o)) (ha.later hb0) ⟨zah Tryz.func242 (by kernel_rfl) rfl,λW hW x hx=>?_⟩
  simpa using zmJ (x:=x) (hA.later hW)
 obtain⟨aa,ca,hva,_,_⟩:=ha.shape;clear ha hg hw0 hb0 hA;subst hva;unfold zcV;go_enter Tryz.func240,Tryz.ntmps240;go_wp2_with (rw[<- HW0.out])
 refine Calls.mono HAl.out ?_;rintro e w1 ⟨rfl,hb1⟩;have HB1:Hid (Below w.heap.size w w1):=zaa HB0.out hb1;clear hb1;go_wp2;go_ret;exact⟨rfl,HB1.out⟩
theorem zoC {va vb:Value} {la lb:List Sp} {w:World} (ha:Es spE w va la) (hb:Es spE w vb lb) (na:la≠[]) (nb:lb≠[]) :
 Calls Tryz.prog 221 #[va,vb] w λe w'=>e=.returned (.bool (zcS la lb))/\Below w.heap.size w w':=by
 have hla:=ha.len;have hlb:=hb.len;unfold maxLen at hla hlb;have pa:0<la.length:=List.length_pos_iff.2 na;have pb:0<lb.length:=List.length_pos_iff.2 nb;obtain⟨ba,oa,ca,rfl,ha1,ha2,hba,hca⟩:=ha.parts na;obtain⟨bb,ob,cb,rfl,hb1,hb2,hbb,hcb⟩:=hb.parts nb;unfold maxLen at ha2 hb2;obtain⟨w0,hw0⟩:∃ W,W=w.alloc (.cells #[.slice (some ⟨ba,oa,none⟩) la.length ca] 184):=⟨_,rfl⟩;have HW0:Hid (w0=_):=hw0;have hb0:Below w.heap.size w w0:=by rw[hw0];exact zac _ _ _
 have HB0:Hid (Below w.heap.size w w0):=hb0;have hA:At w0 w.heap.size #[.slice (some ⟨ba,oa,none⟩) la.length ca] 184:=by rw[hw0];exact At.made w _ _
 have HEa:Hid (Es spE w0 (.slice (some ⟨ba,oa,none⟩) la.length ca) la):=ha.later hb0;have HEb:Hid (Es spE w0 (.slice (some ⟨bb,ob,none⟩) lb.length cb) lb):=hb.later hb0;have HAt:Hid (At w0 w.heap.size #[.slice (some ⟨ba,oa,none⟩) la.length ca] 184):=hA;have HM:Hid (Calls Tryz.prog 238 #[.slice (some ⟨ba,oa,none⟩) la.length ca,.slice (some ⟨bb,ob,none⟩) lb.length cb] w0 λe w'=>e=.returned (.bool (zdP la lb))/\Below w0.heap.size w0 w'):=zlD HEa.out HEb.out
 have HFa:Hid (la.headD (0,0)=la[0]):=by cases la with | nil=>exact absurd rfl na | cons x r=>rfl
 have HFb:Hid (lb.headD (0,0)=lb[0]):=by cases lb with | nil=>exact absurd rfl nb | cons x r=>rfl
 have HTa:Hid (la.drop 1=la.tail):=by cases la <;> rfl
 have HTb:Hid (lb.drop 1=lb.tail):=by cases lb <;> rfl
 have HCa:Hid (∀ w',Below w0.heap.size w0 w'->zxv w' ba oa la[0]):=λw' h=>by
  have:=((hca 0 pa).below (zaa hb0 h) hba).two;simpa using this
 have HCb:Hid (∀ w',Below w0.heap.size w0 w'->zxv w' bb ob lb[0]):=λw' h=>by
  have:=((hcb 0 pb).below (zaa hb0 h) hbb).two;simpa using this
 have k0:=hA.cell0;clear ha hb hca hcb hw0 hb0 hA hba hbb;go_enter Tryz.func221,Tryz.ntmps221;go_wp2_with (rw[<- HW0.out])
 refine Calls.mono HM.out ?_;rintro e w1 ⟨rfl,hb1'⟩;have HB1:Hid (Below w0.heap.size w0 w1):=hb1';have k1:w1.cell? ⟨w.heap.size,0,none⟩=some (.slice (some ⟨ba,oa,none⟩) la.length ca):=(HAt.out.later hb1').cell0;clear hb1' k0 HM
 cases hm:zdP la lb with
 | false =>
  go_wp2_with fail
  go_ret;exact⟨zab (by unfold zcS;rw[if_neg (by rw[hm];decide)]),zaa HB0.out HB1.out⟩
 | true =>
  have HR:Hid (zcS la lb=if la[0]=lb[0] then !zdP la.tail lb.tail else lb.any (zns la)):=by show _=_;unfold zcS;rw[if_pos hm,HFa.out,HFb.out]
  obtain⟨c0,c1⟩:=HCa.out w1 HB1.out;obtain⟨d0,d1⟩:=HCb.out w1 HB1.out;have heq0:=λW=>zv6 W la[0] lb[0]
  generalize la[0]=x at *;generalize lb[0]=y at *;by_cases hxy:x=y
  ·have heq:∀ W:World,(binOp .eql 199 (.agg #[.int .i64 x.1,.int .i64 x.2]) (.agg #[.int .i64 y.1,.int .i64 y.2])).run Tryz.prog W=.ok (.bool true) W:=λW=>by rw[heq0,decide_eq_true hxy]
   have HR2:Hid (zcS la lb=!zdP la.tail lb.tail):=by show _=_;rw[HR.out,if_pos hxy]
   obtain⟨a',ca',hsa,hEa,_,_⟩:=zcZ (P:=Tryz.prog) HEa.out 1 (by omega) 184 199 Tryz.underlying184 Tryz.sizeSpan
   obtain⟨b',cb',hsb,hEb,_,_⟩:=zcZ (P:=Tryz.prog) HEb.out 1 (by omega) 184 199 Tryz.underlying184 Tryz.sizeSpan
   replace hsa:∀ (W:World) (k:IntKind),(Instr.slice 184 (.slice (some ⟨ba,oa,none⟩) la.length ca) (some (.int k 1)) none none).run Tryz.prog W=.ok (.slice a' (la.length - 1) ca') W:=hsa
   replace hsb:∀ (W:World) (k:IntKind),(Instr.slice 184 (.slice (some ⟨bb,ob,none⟩) lb.length cb) (some (.int k 1)) none none).run Tryz.prog W=.ok (.slice b' (lb.length - 1) cb') W:=hsb
   have HMt:Hid (∀ W,Below w0.heap.size w0 W->Calls Tryz.prog 238 #[.slice a' (la.length - 1) ca',.slice b' (lb.length - 1) cb'] W λe w'=>e=.returned (.bool (zdP la.tail lb.tail))/\Below W.heap.size W w'):=λW hW=>by
    rw[<- HTa.out,<- HTb.out];exact zlD (hEa.later hW) (hEb.later hW)
   have HKk:Hid (∀ W,Below w0.heap.size w0 W->W.cell? ⟨w.heap.size,0,none⟩=some (.slice (some ⟨ba,oa,none⟩) la.length ca)):=λW hW=>(HAt.out.later hW).cell0
   clear heq0 hxy hEa hEb;go_wp2_with fail
   go_quiet (fail)
   go_wp2_with fail
   clear heq c0 c1 d0 d1 k1;have hBq:Below w0.heap.size w0 (w1.drewN nq):=zaa HB1.out (Below.drewN (Below.refl _ _) _);generalize w1.drewN nq=wq at *;have HBq:Hid (Below w0.heap.size w0 wq):=hBq;have kq:=HKk.out wq hBq;clear hBq;go_region_held3 (λw'=>w'.cell? ⟨w.heap.size,0,none⟩=some (.slice (some ⟨ba,oa,none⟩) la.length ca))
    (first | (exact HKk.out _ (zaa HBq.out (zad _))) | (exact HKk.out _ (zaa HBq.out (zaa (zad _) hb2))))
    (first | (go_at_call 238;refine (HMt.out _ (zaa HBq.out (zad _))).mono ?_;rintro e w2 ⟨rfl,hb2⟩))
   rename_i hheld
   clear hheld;have HB2:Hid (Below w.heap.size w w2):=zaa (zaa HB0.out HBq.out) (zaa (zad _) hb2);clear hb2;go_wp2_with fail
   go_ret;exact⟨zab HR2.out.symm,HB2.out⟩
  ·have heq:∀ W:World,(binOp .eql 199 (.agg #[.int .i64 x.1,.int .i64 x.2]) (.agg #[.int .i64 y.1,.int .i64 y.2])).run Tryz.prog W=.ok (.bool false) W:=λW=>by rw[heq0,decide_eq_false hxy]
   have HR2:Hid (zcS la lb=lb.any (zns la)):=by show _=_;rw[HR.out,if_neg hxy]
   have HCo:Hid (∀ W,Below w0.heap.size w0 W->Calls Tryz.prog 239 #[.slice (some ⟨bb,ob,none⟩) lb.length cb,.func (.func 240) #[] #[.pointer (some ⟨w.heap.size,0,none⟩)]] W λe w'=>e=.returned (.bool (lb.any (zns la)))/\Below W.heap.size W w'):=λW hW=>by
    refine zbe (HEb.out.later hW) ⟨zah Tryz.func240 (by kernel_rfl) rfl,λW2 hW2 z hz=>?_⟩
    have hA1:=HAt.out.later (zaa hW hW2);have:=zpl (o:=z) (w:=W2) hA1.cell0 hA1.lt (HEa.out.later (zaa hW hW2));simpa using this
   clear heq0 hxy;go_wp2_with fail
   go_quiet (fail)
   go_wp2_with fail
   have HBq:Hid (Below w0.heap.size w0 (w1.drewN nq)):=zaa HB1.out (Below.drewN (Below.refl _ _) _);refine (HCo.out _ HBq.out).mono ?_;rintro e w2 ⟨rfl,hb2⟩;have HB2:Hid (Below w.heap.size w w2):=zaa (zaa HB0.out HBq.out) hb2;clear hb2;go_wp2_with fail
   go_ret;exact⟨zab HR2.out.symm,HB2.out⟩
theorem zlx (c:Cl):zaj c≠[]:=by unfold zaj;split <;> simp
theorem zmH {c:Cl} {g:Nat} {vl:Value} {ll:List Sp} {w:World} (hg:w.cell? ⟨g,0,none⟩=some vl) (hlt:g<w.heap.size) (hl:Es spE w vl ll) (nl:ll≠[]) :
 Calls Tryz.prog 220 #[clV c,.pointer (some ⟨g,0,none⟩)] w λe w'=>e=.returned (.bool (!zcS (zaj c) ll))/\Below w.heap.size w w':=by
 obtain⟨w0,hw0⟩:∃ W,W=w.alloc (.cells #[.int .i64 c.k,.int .i64 c.tf,.int .i64 c.tt,.int .i64 c.hf,.int .i64 c.ht,.int .i64 c.fi,.int .i64 c.t0,.int .i64 c.t1,.int .i64 c.t2,.bool c.t3] 85):=⟨_,rfl⟩;have HW0:Hid (w0=_):=hw0;have hb0:Below w.heap.size w w0:=by rw[hw0];exact zac _ _ _
 have HB0:Hid (Below w.heap.size w w0):=hb0;have hA:At w0 w.heap.size (clC c).toArray 85:=by rw[hw0];exact At.made w (clC c).toArray _
 obtain⟨al,cl,hvl,_,_⟩:=hl.shape;subst hvl;have HK:Hid (∀ w',Below w0.heap.size w0 w'->w'.cell? ⟨g,0,none⟩=some (.slice al ll.length cl)/\Ten w' w.heap.size 0 c):=λw' h=>⟨by rw[<- hg];exact (zaa hb0 h).cell (p:=⟨g,0,none⟩) hlt,(hA.later h).ten⟩
 have HSp:Hid (∀ W,Calls Tryz.prog 219 #[.agg #[.int .i64 c.k,.int .i64 c.tf,.int .i64 c.tt,.int .i64 c.hf,.int .i64 c.ht,.int .i64 c.fi,.int .i64 c.t0,.int .i64 c.t1,.int .i64 c.t2,.bool c.t3]] W λe w'=>∃ v,e=.returned v/\OwnE spE w' W.heap.size 199 v (zaj c)/\Below W.heap.size W w'):=λW=>zfd c W
 have HFi:Hid (∀ W v,Below w0.heap.size w0 W->Es spE W v (zaj c)->Calls Tryz.prog 221 #[v,.slice al ll.length cl] W λe w'=>e=.returned (.bool (zcS (zaj c) ll))/\Below W.heap.size W w'):=λW v hW hv=>zoC hv ((hl.later hb0).later hW) (zlx c) nl
 obtain⟨kg,c0,c1,c2,c3,c4,c5,c6,c7,c8,c9⟩:=HK.out w0 (Below.refl _ _);clear hg hl hw0 hb0 hA;unfold clV;go_enter Tryz.func220,Tryz.ntmps220;go_wp2_with (rw[<- HW0.out])
 go_region_held3 (λw'=>w'.cell? ⟨g,0,none⟩=some (.slice al ll.length cl)/\w'.cell? ⟨w.heap.size,0,none⟩=some (.int .i64 c.k)/\w'.cell? ⟨w.heap.size,1,none⟩=some (.int .i64 c.tf)/\w'.cell? ⟨w.heap.size,2,none⟩=some (.int .i64 c.tt)/\w'.cell? ⟨w.heap.size,3,none⟩=some (.int .i64 c.hf)/\w'.cell? ⟨w.heap.size,4,none⟩=some (.int .i64 c.ht)/\w'.cell? ⟨w.heap.size,5,none⟩=some (.int .i64 c.fi)/\w'.cell? ⟨w.heap.size,6,none⟩=some (.int .i64 c.t0)/\w'.cell? ⟨w.heap.size,7,none⟩=some (.int .i64 c.t1)/\w'.cell? ⟨w.heap.size,8,none⟩=some (.int .i64 c.t2)/\w'.cell? ⟨w.heap.size,9,none⟩=some (.bool c.t3))
  (first | (exact HK.out _ (zad _)) | (exact HK.out _ (zaa (zad _) hb1)) | (exact HK.out _ (zaa (zaa (zad _) hb1) hb2)))
  (first | (go_at_call 219;refine (HSp.out _).mono ?_;rintro e w1 ⟨v1,rfl,ho1,hb1⟩) | (go_at_call 221;refine (HFi.out _ _ (zaa (zad _) hb1) ho1.es).mono ?_;rintro e w2 ⟨rfl,hb2⟩))
 rename_i hheld
 clear hheld;have HB2:Hid (Below w.heap.size w w2):=zaa (zaa HB0.out (zaa (zad _) hb1)) hb2;clear hb1 hb2 ho1 c0 c1 c2 c3 c4 c5 c6 c7 c8 c9 kg;go_wp2_with fail
 go_ret;exact⟨rfl,HB2.out⟩
theorem zhc (n:Int) (c:Cl) (w:World) :
 Calls Tryz.prog 222 #[.int .i64 n,clV c] w λe w'=>e=.returned (.bool (zgf n c))/\Below w.heap.size w w':=by
 obtain⟨w0,hw0⟩:∃ W,W=(w.alloc (.cells #[.int .i64 c.k,.int .i64 c.tf,.int .i64 c.tt,.int .i64 c.hf,.int .i64 c.ht,.int .i64 c.fi,.int .i64 c.t0,.int .i64 c.t1,.int .i64 c.t2,.bool c.t3] 85)).alloc (.cells #[.int .i64 0,.int .i64 n] 199):=⟨_,rfl⟩;have HW0:Hid (w0=_):=hw0;have hb0:Below w.heap.size w w0:=by rw[hw0];exact zbN (zac _ _ _) _
 have HB0:Hid (Below w.heap.size w w0):=hb0;have hA:At w0 w.heap.size (clC c).toArray 85:=by rw[hw0];exact (At.made w (clC c).toArray _).next _
 have hS:At w0 (w.heap.size+1) #[.int .i64 0,.int .i64 n] 199:=by
  rw[hw0];have:=At.made (w.alloc (.cells #[.int .i64 c.k,.int .i64 c.tf,.int .i64 c.tt,.int .i64 c.hf,.int .i64 c.ht,.int .i64 c.fi,.int .i64 c.t0,.int .i64 c.t1,.int .i64 c.t2,.bool c.t3] 85)) #[.int .i64 0,.int .i64 n] 199;simpa using this
 have HK:Hid (∀ w',Below w0.heap.size w0 w'->(w'.cell? ⟨w.heap.size+1,0,none⟩=some (.int .i64 0)/\w'.cell? ⟨w.heap.size+1,1,none⟩=some (.int .i64 n))/\Ten w' w.heap.size 0 c):=λw' h=>⟨(hS.later h).box2,(hA.later h).ten⟩
 have HTR:Hid (∀ W,Calls Tryz.prog 235 #[.agg #[.int .i64 c.k,.int .i64 c.tf,.int .i64 c.tt,.int .i64 c.hf,.int .i64 c.ht,.int .i64 c.fi,.int .i64 c.t0,.int .i64 c.t1,.int .i64 c.t2,.bool c.t3]] W λe w'=>e=.returned (.agg #[.int .i64 c.tf,.int .i64 c.tt])/\Below W.heap.size W w'):=λW=>zeH c W
 have HHA:Hid (∀ W,Calls Tryz.prog 236 #[.agg #[.int .i64 c.k,.int .i64 c.tf,.int .i64 c.tt,.int .i64 c.hf,.int .i64 c.ht,.int .i64 c.fi,.int .i64 c.t0,.int .i64 c.t1,.int .i64 c.t2,.bool c.t3]] W λe w'=>e=.returned (.agg #[.int .i64 c.hf,.int .i64 c.ht])/\Below W.heap.size W w'):=λW=>zdE c W
 have HFI:Hid (∀ W,Calls Tryz.prog 237 #[.agg #[.int .i64 c.k,.int .i64 c.tf,.int .i64 c.tt,.int .i64 c.hf,.int .i64 c.ht,.int .i64 c.fi,.int .i64 c.t0,.int .i64 c.t1,.int .i64 c.t2,.bool c.t3]] W λe w'=>e=.returned (.agg #[.int .i64 c.fi,.int .i64 c.hf])/\Below W.heap.size W w'):=λW=>zd5 c W
 have HP1:Hid (∀ W,Calls Tryz.prog 243 #[.agg #[.int .i64 c.tf,.int .i64 c.tt],.agg #[.int .i64 0,.int .i64 n]] W λe w'=>e=.returned (.bool (zbK (zcI c) (0,n)))/\Below W.heap.size W w'):=λW=>zbS (zcI c) (0,n) W
 have HP2:Hid (∀ W,Calls Tryz.prog 243 #[.agg #[.int .i64 c.hf,.int .i64 c.ht],.agg #[.int .i64 0,.int .i64 n]] W λe w'=>e=.returned (.bool (zbK (zex c) (0,n)))/\Below W.heap.size W w'):=λW=>zbS (zex c) (0,n) W
 have HP3:Hid (∀ W,Calls Tryz.prog 243 #[.agg #[.int .i64 c.fi,.int .i64 c.hf],.agg #[.int .i64 0,.int .i64 n]] W λe w'=>e=.returned (.bool (zbK (zgd c) (0,n)))/\Below W.heap.size W w'):=λW=>zbS (zgd c) (0,n) W
 have HR:Hid (zgf n c=(decide (1<=c.k)&&decide (c.k<=4)&&zbK (zcI c) (0,n)&&zbK (zex c) (0,n)&&(if c.k=2 then zbK (zgd c) (0,n) else decide (c.fi = -1)))):=rfl
 obtain⟨⟨s0,s1⟩,c0,c1,c2,c3,c4,c5,c6,c7,c8,c9⟩:=HK.out w0 (Below.refl _ _);clear hw0 hb0 hA hS;unfold clV;go_enter Tryz.func222,Tryz.ntmps222;go_wp2_with (rw[<- HW0.out])
 by_cases h1:c.k<1
 ·have HR2:Hid (zgf n c=false):=by show _=_;rw[HR.out,decide_eq_false (by omega)];rfl
  go_quiet (fail)
  go_wp2_with fail
  go_ret;exact⟨zab HR2.out.symm,zaa HB0.out (Below.drewN (Below.refl _ _) _)⟩
 ·by_cases h4:4<c.k
  ·have HR2:Hid (zgf n c=false):=by show _=_;rw[HR.out,decide_eq_true (by omega:1<=c.k),decide_eq_false (by omega:¬ c.k<=4)];rfl
   go_quiet (fail)
   go_wp2_with fail
   go_ret;exact⟨zab HR2.out.symm,zaa HB0.out (Below.drewN (Below.refl _ _) _)⟩
  ·cases hp1:zbK (zcI c) (0,n) with
   | false =>
    have HR2:Hid (zgf n c=false):=by show _=_;rw[HR.out,hp1];simp
    rw[hp1]at HP1;go_region_with (first
     | (go_at_call 235;refine (HTR.out _).mono ?_;rintro e w1 ⟨rfl,hb1⟩;obtain⟨⟨s0',s1'⟩,c0',c1',c2',c3',c4',c5',c6',c7',c8',c9'⟩:=HK.out w1 (zaa (zad _) hb1))
     | (go_at_call 243;refine (HP1.out _).mono ?_;rintro e w2 ⟨rfl,hb2⟩))
    all_goals
     have HB2:Hid (Below w.heap.size w w2):=zaa HB0.out (zaa (zaa (zad _) hb1) hb2);clear hb1 hb2;go_wp2_with fail
     go_ret;exact⟨zab HR2.out.symm,HB2.out⟩
   | true =>
    rw[hp1]at HP1;go_region_held3 (λw'=>(w'.cell? ⟨w.heap.size+1,0,none⟩=some (.int .i64 0)/\w'.cell? ⟨w.heap.size+1,1,none⟩=some (.int .i64 n))/\w'.cell? ⟨w.heap.size,0,none⟩=some (.int .i64 c.k)/\w'.cell? ⟨w.heap.size,1,none⟩=some (.int .i64 c.tf)/\w'.cell? ⟨w.heap.size,2,none⟩=some (.int .i64 c.tt)/\w'.cell? ⟨w.heap.size,3,none⟩=some (.int .i64 c.hf)/\w'.cell? ⟨w.heap.size,4,none⟩=some (.int .i64 c.ht)/\w'.cell? ⟨w.heap.size,5,none⟩=some (.int .i64 c.fi)/\w'.cell? ⟨w.heap.size,6,none⟩=some (.int .i64 c.t0)/\w'.cell? ⟨w.heap.size,7,none⟩=some (.int .i64 c.t1)/\w'.cell? ⟨w.heap.size,8,none⟩=some (.int .i64 c.t2)/\w'.cell? ⟨w.heap.size,9,none⟩=some (.bool c.t3))
     (first | (exact HK.out _ (zad _)) | (exact HK.out _ (zaa (zad _) hb1)) | (exact HK.out _ (zaa (zaa (zad _) hb1) hb2)) | (exact HK.out _ (zaa (zaa (zaa (zad _) hb1) hb2) hb3)) | (exact HK.out _ (zaa (zaa (zaa (zaa (zad _) hb1) hb2) hb3) hb4)))
     (first
       | (go_at_call 235;refine (HTR.out _).mono ?_;rintro e w1 ⟨rfl,hb1⟩)
       | (go_at_call 236;refine (HHA.out _).mono ?_;rintro e w3 ⟨rfl,hb3⟩)
       | (go_at_call_of 243 (Value.agg #[Value.int IntKind.i64 c.tf,Value.int IntKind.i64 c.tt]);refine (HP1.out _).mono ?_;rintro e w2 ⟨rfl,hb2⟩)
       | (go_at_call 243;refine (HP2.out _).mono ?_;rintro e w4 ⟨rfl,hb4⟩))
    rename_i hheld
    clear hheld;have HB4:Hid (Below w0.heap.size w0 w4):=zaa (zaa (zaa (zaa (zad _) hb1) hb2) hb3) hb4;have HK4:Hid (∀ w',Below w4.heap.size w4 w'->(w'.cell? ⟨w.heap.size+1,0,none⟩=some (.int .i64 0)/\w'.cell? ⟨w.heap.size+1,1,none⟩=some (.int .i64 n))/\Ten w' w.heap.size 0 c):=λw' h=>HK.out w' (zaa HB4.out h)
    clear hb1 hb2 hb3 hb4 s0 s1 c0 c1 c2 c3 c4 c5 c6 c7 c8 c9;obtain⟨⟨s0,s1⟩,c0,c1,c2,c3,c4,c5,c6,c7,c8,c9⟩:=HK.out w4 HB4.out
    cases hp2:zbK (zex c) (0,n) with
    | false =>
     have HR2:Hid (zgf n c=false):=by show _=_;rw[HR.out,hp2];simp
     go_wp2_with fail
     go_ret;exact⟨zab HR2.out.symm,zaa HB0.out HB4.out⟩
    | true =>
     by_cases hk:c.k=2
     ·have hk':(c.k==2)=true:=by rw[hk];rfl
      have HR2:Hid (zgf n c=zbK (zgd c) (0,n)):=by show _=_;rw[HR.out,hp1,hp2,decide_eq_true (by omega:1<=c.k),decide_eq_true (by omega:c.k<=4),if_pos hk];simp
      clear hk;go_wp2_with fail
      go_region_held3 (λw'=>(w'.cell? ⟨w.heap.size+1,0,none⟩=some (.int .i64 0)/\w'.cell? ⟨w.heap.size+1,1,none⟩=some (.int .i64 n))/\w'.cell? ⟨w.heap.size,0,none⟩=some (.int .i64 c.k)/\w'.cell? ⟨w.heap.size,1,none⟩=some (.int .i64 c.tf)/\w'.cell? ⟨w.heap.size,2,none⟩=some (.int .i64 c.tt)/\w'.cell? ⟨w.heap.size,3,none⟩=some (.int .i64 c.hf)/\w'.cell? ⟨w.heap.size,4,none⟩=some (.int .i64 c.ht)/\w'.cell? ⟨w.heap.size,5,none⟩=some (.int .i64 c.fi)/\w'.cell? ⟨w.heap.size,6,none⟩=some (.int .i64 c.t0)/\w'.cell? ⟨w.heap.size,7,none⟩=some (.int .i64 c.t1)/\w'.cell? ⟨w.heap.size,8,none⟩=some (.int .i64 c.t2)/\w'.cell? ⟨w.heap.size,9,none⟩=some (.bool c.t3))
       (first | (exact HK4.out _ (zad _)) | (exact HK4.out _ (zaa (zad _) hb5)) | (exact HK4.out _ (zaa (zaa (zad _) hb5) hb6)))
       (first
         | (go_at_call 237;refine (HFI.out _).mono ?_;rintro e w5 ⟨rfl,hb5⟩)
         | (go_at_call 243;refine (HP3.out _).mono ?_;rintro e w6 ⟨rfl,hb6⟩))
      rename_i hheld
      clear hheld;have HB6:Hid (Below w.heap.size w w6):=zaa (zaa HB0.out HB4.out) (zaa (zaa (zad _) hb5) hb6);clear hb5 hb6;go_wp2_with fail
      go_ret;exact⟨zab HR2.out.symm,HB6.out⟩
     ·have hk':(c.k==2)=false:=by rw[beq_eq_false_iff_ne];exact hk
      have HR2:Hid (zgf n c=decide (c.fi = -1)):=by show _=_;rw[HR.out,hp1,hp2,decide_eq_true (by omega:1<=c.k),decide_eq_true (by omega:c.k<=4),if_neg hk];simp
      clear hk;go_wp2_with fail
      go_ret;refine⟨zab ?_,zaa HB0.out HB4.out⟩;rw[HR2.out,Bool.eq_iff_iff];simp
end Go.Proofs.YtkedhjdipnhgdaaGreat
