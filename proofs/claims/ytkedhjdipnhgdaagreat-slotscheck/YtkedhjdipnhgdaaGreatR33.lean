import Derived.Test.YtkedhjdipnhgdaaGreatR28
namespace Go.Proofs.YtkedhjdipnhgdaaGreat
set_option maxHeartbeats 16000000
set_option linter.all false
open RowKit
attribute [local go_sem ↓] wp_at_zero wp_at_succ
def znp (g:Img) (t:Int):Bool:=decide (zag g t=0)&&!zaf (flI g t) 8
theorem zo6 {g:Img} {q:Nat} {w:World} (hg:Im w g) (hi:imB g=true) (hq:q<g.ts.length) :
 Calls Tryz.prog 158 #[imV g,.int .i64 q] w λe w'=>e=.returned (.bool (znp g (q:Int)))/\Below w.heap.size w w':=by
 obtain⟨w0,hw0⟩:∃ W,W=w.alloc (.cells (imC g) 26):=⟨_,rfl⟩;have HW0:Hid (w0=_):=hw0;obtain⟨hb0,hgb⟩:=GB.made hg hw0;have HB0:Hid (Below w.heap.size w w0):=hb0;have HG:Hid (GB w0 w.heap.size g):=hgb;have HI:Hid (imB g=true):=hi;have hln:=zax hi;obtain⟨tb,off,hta,h8,h9,hty⟩:=hgb.ty (by intro e;rw[e]at hq;simp at hq)
 have HTA:Hid (g.ta=some ⟨tb,off,none⟩):=hta;have HTY:Hid (∀ W,Below w0.heap.size w0 W->∀ k (hk:k<g.ts.length),W.cell? ⟨tb,off+k * 4,none⟩=some (.string g.ts[k].nm)/\W.cell? ⟨tb,off+k * 4+1,none⟩=some (.int .i64 g.ts[k].fl)/\W.cell? ⟨tb,off+k * 4+2,none⟩=some (.int .i64 g.ts[k].ex)/\W.cell? ⟨tb,off+k * 4+3,none⟩=some (.slice g.ts[k].fa g.ts[k].fs.length g.ts[k].fc)):=λW hW k hk=>(hty W hW).2 k hk
 have HC4:Hid (∀ W,Below w0.heap.size w0 W->W.cell? ⟨w.heap.size,0,none⟩=some (.slice (some ⟨tb,off,none⟩) g.ts.length g.tc)/\W.cell? ⟨w.heap.size,1,none⟩=some (.slice g.fa g.fs.length g.fc)/\W.cell? ⟨w.heap.size,2,none⟩=some (.slice g.ma g.ms.length g.mc)/\W.cell? ⟨w.heap.size,3,none⟩=some (.int .i64 g.en)):=λW hW=>by
  have:=(HG.out.later hW).cells;rw[HTA.out]at this;exact this
 have HKd:Hid (∀ W,Below w0.heap.size w0 W->Calls Tryz.prog 16 #[.agg #[.slice (some ⟨tb,off,none⟩) g.ts.length g.tc,.slice g.fa g.fs.length g.fc,.slice g.ma g.ms.length g.mc,.int .i64 g.en],.int .i64 q] W λe w'=>e=.returned (.int .i64 (zaN g.ts[q].fl))/\Below W.heap.size W w'):=λW hW=>by
  have:=zaQ (q:Int) (HG.out.im.later hW) (FlOk.of HI.out);rw[zec hq]at this;unfold imV at this;rw[HTA.out]at this;exact this
 obtain⟨c0,c1,c2,c3⟩:=HC4.out w0 (Below.refl _ _);have hqi:(q:Int)<(g.ts.length:Int):=by omega
 unfold maxLen at h9;unfold imC at HW0;rw[hta]at HW0;have HFl:Hid (0<=g.ts[q].fl/\g.ts[q].fl<=31):=FlOk.of HI.out _ (List.getElem_mem hq);have HR:Hid (znp g (q:Int)=(decide (zaN g.ts[q].fl=0)&&!zaf g.ts[q].fl 8)):=by show _=_;unfold znp;rw[zec hq,zek hq]
 clear hw0 hb0 hgb hty hta;unfold imV;rw[HTA.out];go_enter Tryz.func158,Tryz.ntmps158;go_wp2_with (rw[<- HW0.out])
 refine Calls.mono (HKd.out _ (Below.refl _ _)) ?_;rintro e w1 ⟨rfl,hb1⟩;have HB1:Hid (Below w0.heap.size w0 w1):=hb1;clear hb1 c0 c1 c2 c3;obtain⟨c0,c1,c2,c3⟩:=HC4.out w1 HB1.out;obtain⟨_,k1,_,_⟩:=HTY.out w1 HB1.out q hq;obtain⟨_,_,_,hf8⟩:=ziN HFl.out;generalize g.ts[q].fl=f at *;by_cases hk:zaN f=0
 ·rw[hk]
  cases hb:zaf f 8 with
  | true =>
   have hf:bits .and .i64 f 8=8:=by rw[hf8,if_pos hb]
   have HR2:Hid (znp g (q:Int)=false):=by show _=_;rw[HR.out,hb];simp
   clear hf8 hb hk;go_wp2_with fail
   go_ret;exact⟨zab HR2.out.symm,zaa HB0.out HB1.out⟩
  | false =>
   have hf:bits .and .i64 f 8=0:=by rw[hf8,if_neg (by rw[hb];decide)]
   have HR2:Hid (znp g (q:Int)=true):=by show _=_;rw[HR.out,hb,hk];rfl
   clear hf8 hb hk;go_wp2_with fail
   go_ret;exact⟨zab HR2.out.symm,zaa HB0.out HB1.out⟩
 ·have HR2:Hid (znp g (q:Int)=false):=by show _=_;rw[HR.out,decide_eq_false hk];rfl
  have hk':(zaN f==0)=false:=by rw[beq_eq_false_iff_ne];exact hk
  clear hf8;go_wp2_with fail
  go_ret;exact⟨zab HR2.out.symm,zaa HB0.out HB1.out⟩
theorem znC {g:Img} {q:Nat} {w:World} (hg:Im w g) (hi:imB g=true) (hq:q<g.ts.length) :
 Calls Tryz.prog 114 #[imV g,.int .i64 q] w λe w'=>e=.returned (.bool (zb5 g (q:Int)))/\Below w.heap.size w w':=by
 have hexq:=(zbD hi hq).1;have HE:Hid (zb5 g (q:Int)=((decide (g.ts[q].ex = -1)||znp g g.ts[q].ex)&&(match (upL g (q:Int)).getLast? with | some u=>decide (exI g u = -1) | none=>true))):=by
  show _=_;unfold zb5 znp;rw[zbi hq]
  cases (upL g (q:Int)).getLast? <;> rfl
 obtain⟨w0,hw0⟩:∃ W,W=w.alloc (.cells (imC g) 26):=⟨_,rfl⟩;have HW0:Hid (w0=_):=hw0;obtain⟨hb0,hgb⟩:=GB.made hg hw0;have HB0:Hid (Below w.heap.size w w0):=hb0;have HG:Hid (GB w0 w.heap.size g):=hgb;have HI:Hid (imB g=true):=hi;have hln:=zax hi;obtain⟨tb,off,hta,h8,h9,hty⟩:=hgb.ty (by intro e;rw[e]at hq;simp at hq)
 have HTA:Hid (g.ta=some ⟨tb,off,none⟩):=hta;have HTY:Hid (∀ W,Below w0.heap.size w0 W->∀ k (hk:k<g.ts.length),W.cell? ⟨tb,off+k * 4,none⟩=some (.string g.ts[k].nm)/\W.cell? ⟨tb,off+k * 4+1,none⟩=some (.int .i64 g.ts[k].fl)/\W.cell? ⟨tb,off+k * 4+2,none⟩=some (.int .i64 g.ts[k].ex)/\W.cell? ⟨tb,off+k * 4+3,none⟩=some (.slice g.ts[k].fa g.ts[k].fs.length g.ts[k].fc)):=λW hW k hk=>(hty W hW).2 k hk
 have HC4:Hid (∀ W,Below w0.heap.size w0 W->W.cell? ⟨w.heap.size,0,none⟩=some (.slice (some ⟨tb,off,none⟩) g.ts.length g.tc)/\W.cell? ⟨w.heap.size,1,none⟩=some (.slice g.fa g.fs.length g.fc)/\W.cell? ⟨w.heap.size,2,none⟩=some (.slice g.ma g.ms.length g.mc)/\W.cell? ⟨w.heap.size,3,none⟩=some (.int .i64 g.en)):=λW hW=>by
  have:=(HG.out.later hW).cells;rw[HTA.out]at this;exact this
 obtain⟨c0,c1,c2,c3⟩:=HC4.out w0 (Below.refl _ _);have hqi:(q:Int)<(g.ts.length:Int):=by omega
 unfold maxLen at h9;unfold imC at HW0;rw[hta]at HW0;have HUp:Hid (∀ W,Below w0.heap.size w0 W->Calls Tryz.prog 60 #[.agg #[.slice (some ⟨tb,off,none⟩) g.ts.length g.tc,.slice g.fa g.fs.length g.fc,.slice g.ma g.ms.length g.mc,.int .i64 g.en],.int .i64 q] W λe w'=>∃ v,e=.returned v/\OwnI w' W.heap.size v (upL g (q:Int))/\Below W.heap.size W w'):=λW hW=>by
  have:=ziE (t:=(q:Int)) (HG.out.im.later hW) HI.out (zeG (n:=g.ts.length) (by omega) (by rw[zai];omega))
  unfold imV at this;rw[HTA.out]at this;exact this
 have HOp:Hid (∀ W,Below w0.heap.size w0 W->∀ j,j<g.ts.length->Calls Tryz.prog 158 #[.agg #[.slice (some ⟨tb,off,none⟩) g.ts.length g.tc,.slice g.fa g.fs.length g.fc,.slice g.ma g.ms.length g.mc,.int .i64 g.en],.int .i64 (j:Int)] W λe w'=>e=.returned (.bool (znp g (j:Int)))/\Below W.heap.size W w'):=λW hW j hj=>by
  have:=zo6 (HG.out.im.later hW) HI.out hj;unfold imV at this;rw[HTA.out]at this;exact this
 obtain⟨_,_,k2,_⟩:=HTY.out w0 (Below.refl _ _) q hq;generalize g.ts[q].ex=ex at *;clear hw0 hb0 hgb hty hta;unfold imV;rw[HTA.out];go_enter Tryz.func114,Tryz.ntmps114;have HT:Hid (∀ (w1:World),Below w0.heap.size w0 w1->True):=λ_ _=>trivial
 by_cases hex:ex = -1
 ·have HOk:Hid ((decide (ex = -1)||znp g ex)=true):=by show _=_;rw[decide_eq_true hex];rfl
  subst hex;go_wp2_with (rw[<- HW0.out])
  refine Calls.mono (HUp.out w0 (Below.refl _ _)) ?_;rintro e w2 ⟨uv,rfl,hu,hb2⟩;have HB2:Hid (Below w0.heap.size w0 w2):=hb2;have hne:upL g (q:Int)≠[]:=by intro e;have:=zgC (g:=g) (t:=(q:Int)) (by rw[zai];omega);rw[e]at this;simp at this
  obtain⟨m,hm⟩:∃ m,(upL g (q:Int)).length=m+1:=⟨(upL g (q:Int)).length - 1,by have:=List.length_pos_iff.2 hne;omega⟩
  obtain⟨gl,capl,hlv,p1,p2,p3,p4,p5⟩:=hu.parts hne;have cz:=p5 m (by omega)
  obtain⟨z,hz,hzl⟩:=zaK ((zcw g (q:Int)).1 _ (List.getElem_mem (show m<(upL g (q:Int)).length by omega)))
  rw[hz]at cz;have HE4:Hid (zb5 g (q:Int)=decide (g.ts[z].ex = -1)):=by
   show _=_;rw[HE.out,HOk.out,Bool.true_and,List.getLast?_eq_getElem?,show (upL g (q:Int)).length - 1=m by omega,List.getElem?_eq_getElem (by omega),hz]
   simp only[zbi hzl]
  obtain⟨_,_,kz,_⟩:=HTY.out w2 HB2.out z hzl;have hzi:(z:Int)<(g.ts.length:Int):=by omega
  rw[hm]at hlv p1;subst hlv;unfold maxLen at p2;clear hb2 c0 c1 c2 c3 hu hne p5 HE hm hz k2 HOk;obtain⟨c0,c1,c2,c3⟩:=HC4.out w2 HB2.out;generalize g.ts[z].ex=ez at *;have HR:Hid (zb5 g (q:Int)=(ez == -1)):=by show _=_;rw[HE4.out,Bool.eq_iff_iff];simp
  go_wp2_with fail
  go_quiet (fail)
  go_wp2_with fail
  go_ret;exact⟨zab HR.out.symm,zaa HB0.out (Below.drewN HB2.out _)⟩
 ·obtain⟨j,rfl,hjl⟩:=zaK (hexq.resolve_left hex);have hjb:((j:Int) != -1)=true:=by rw[bne_iff_ne];omega
  go_wp2_with (rw[<- HW0.out])
  refine Calls.mono (HOp.out w0 (Below.refl _ _) j hjl) ?_;rintro e w1 ⟨rfl,hb1⟩;have HB1:Hid (Below w0.heap.size w0 w1):=hb1;clear hb1 c0 c1 c2 c3;obtain⟨c0,c1,c2,c3⟩:=HC4.out w1 HB1.out
  cases ho:znp g (j:Int) with
  | false =>
   have HR:Hid (zb5 g (q:Int)=false):=by show _=_;rw[HE.out,ho,decide_eq_false hex];rfl
   clear ho;go_wp2_with fail
   go_ret;exact⟨zab HR.out.symm,zaa HB0.out HB1.out⟩
  | true =>
   have HOk:Hid ((decide ((j:Int) = -1)||znp g (j:Int))=true):=by show _=_;rw[ho];simp
   clear ho;go_wp2_with fail
   refine Calls.mono (HUp.out w1 HB1.out) ?_;rintro e w2 ⟨uv,rfl,hu,hb2⟩;have HB2:Hid (Below w0.heap.size w0 w2):=zaa HB1.out hb2;have hne:upL g (q:Int)≠[]:=by intro e;have:=zgC (g:=g) (t:=(q:Int)) (by rw[zai];omega);rw[e]at this;simp at this
   obtain⟨m,hm⟩:∃ m,(upL g (q:Int)).length=m+1:=⟨(upL g (q:Int)).length - 1,by have:=List.length_pos_iff.2 hne;omega⟩
   obtain⟨gl,capl,hlv,p1,p2,p3,p4,p5⟩:=hu.parts hne;have cz:=p5 m (by omega)
   obtain⟨z,hz,hzl⟩:=zaK ((zcw g (q:Int)).1 _ (List.getElem_mem (show m<(upL g (q:Int)).length by omega)))
   rw[hz]at cz;have HE4:Hid (zb5 g (q:Int)=decide (g.ts[z].ex = -1)):=by
    show _=_;rw[HE.out,HOk.out,Bool.true_and,List.getLast?_eq_getElem?,show (upL g (q:Int)).length - 1=m by omega,List.getElem?_eq_getElem (by omega),hz]
    simp only[zbi hzl]
   obtain⟨_,_,kz,_⟩:=HTY.out w2 HB2.out z hzl;have hzi:(z:Int)<(g.ts.length:Int):=by omega
   rw[hm]at hlv p1;subst hlv;unfold maxLen at p2;clear hb2 c0 c1 c2 c3 hu hne p5 HE hm hz k2 HOk;obtain⟨c0,c1,c2,c3⟩:=HC4.out w2 HB2.out;generalize g.ts[z].ex=ez at *;have HR:Hid (zb5 g (q:Int)=(ez == -1)):=by show _=_;rw[HE4.out,Bool.eq_iff_iff];simp
   go_wp2_with fail
   go_quiet (fail)
   go_wp2_with fail
   go_ret;exact⟨zab HR.out.symm,zaa HB0.out (Below.drewN HB2.out _)⟩
theorem zky {α:Type} (t:Int) (f:α->Int):∀ (l:List α) (i:Int),pkN (λx=>decide (x=t)) i (l.map f)=pkN (λx=>decide (f x=t)) i l
 | [],_=>rfl
 | c :: r,i=>by
  simp only[List.map_cons,pkN];rw[zky t f r]
structure TellsN (P:Program) (w:World) (f:FuncId) (bs cs:Array Value) (os:List Int):Prop where
 enter:∀ args W,(callFunc f args).run P W=.ok (.enter f args) W
 tells:∀ W,Below w.heap.size w W->∀ i (h:i<os.length),Calls P f (bs.push (.int .i64 (i:Int)) ++ cs) W λe w'=>e=.returned (.int .i64 os[i])/\w'=W
theorem zeD {g:Img} {t:Int} {os:List Int} {f:FuncId} {bs cs:Array Value} {w:World} (hg:Im w g) (hn:os.length<=1000) (hf:TellsN Tryz.prog w f bs cs os) :
 Calls Tryz.prog 44 #[imV g,.int .i64 t,.int .i64 os.length,.func (.func f) bs cs] w λe w'=>∃ v,e=.returned v/\OwnI w' w.heap.size v (if zam t g.ts.length=true then pkN (λx=>decide (x=t)) 0 os else [])/\Below w.heap.size w w':=by
 obtain⟨w0,hw0⟩:∃ W,W=w.alloc (.cells (imC g) 26):=⟨_,rfl⟩;have HW0:Hid (w0=_):=hw0;obtain⟨hb0,hgb⟩:=GB.made hg hw0;have HB0:Hid (Below w.heap.size w w0):=hb0;have HTh:Hid (Calls Tryz.prog 40 #[.agg (imC g),.int .i64 t] w0 λe w'=>e=.returned (.bool (zam t g.ts.length))/\Below w0.heap.size w0 w'):=zc7 t hgb.im
 have hen:=hf.enter;have HF:Hid (TellsN Tryz.prog w f bs cs os):=hf;obtain⟨X,hX⟩:∃ X,X=(if zam t g.ts.length=true then pkN (λx=>decide (x=t)) 0 os else []):=⟨_,rfl⟩
 have HX:Hid (X=(if zam t g.ts.length=true then pkN (λx=>decide (x=t)) 0 os else [])):=hX
 rw[<- hX];obtain⟨c0,c1,c2,c3⟩:=hgb.cells;unfold imC at HW0 HTh;clear hw0 hb0 hgb hg hf hX;unfold imV;go_enter Tryz.func44,Tryz.ntmps44;go_wp2_with (rw[<- HW0.out])
 refine Calls.mono HTh.out ?_;rintro e w1 ⟨rfl,hb1⟩;have HB1:Hid (Below w.heap.size w w1):=zaa HB0.out hb1;clear hb1 c0 c1 c2 c3 HTh
 cases hnu:zam t g.ts.length with
 | false =>
  have HX2:Hid (X=[]):=by show _=_;rw[HX.out,hnu];rfl
  clear hnu;go_wp2_with fail
  go_ret;exact⟨_,rfl,by rw[HX2.out];exact OwnI.nil _ _,HB1.out⟩
 | true =>
  have HX2:Hid (X=pkN (λx=>decide (x=t)) 0 os):=by show _=_;rw[HX.out,hnu];rfl
  clear hnu;go_wp2_with fail
  go_loopw [9,10,16] (λlv _ z wr=>∃ q:Nat,q<=os.length/\z=.int .i64 q/\Hid (OwnI wr w1.heap.size lv (pkN (λx=>decide (x=t)) 0 (os.take q)))/\Hid (Below w1.heap.size w1 wr)) (λ_ _ z _=>os.length - (intOf z).toNat)
  case atStart=>exact⟨0,Nat.zero_le _,rfl,OwnI.nil _ _,Below.refl _ _⟩
  case round =>
   obtain⟨q,hq,rfl,HO,HB⟩:=hrel;by_cases hql:q<os.length
   ·have hqi:(q:Int)<(os.length:Int):=by omega
    have HT:Hid (pkN (λx=>decide (x=t)) 0 (os.take (q+1))=pkN (λx=>decide (x=t)) 0 (os.take q) ++ (if (λx=>decide (x=t)) os[q]=true then [(q:Int)] else [])):=zhq _ _ _ hql
    have hpl:=zbX (λx=>decide (x=t)) (os.take q) 0
    rw[List.length_take]at hpl;have HTl:Hid (Calls Tryz.prog f (bs.push (.int .i64 (q:Int)) ++ cs) wr λe w'=>e=.returned (.int .i64 os[q])/\w'=wr):=HF.out.tells wr (zaa HB1.out HB.out) q hql
    go_wp2_with fail
    refine Calls.mono HTl.out ?_;rintro e wz ⟨rfl,hz⟩;subst wz;clear HTl;by_cases hw:os[q]=t
    ·have hwb:(os[q]==t)=true:=by simpa using hw
     have HT2:Hid (pkN (λx=>decide (x=t)) 0 (os.take (q+1))=pkN (λx=>decide (x=t)) 0 (os.take q) ++ [(q:Int)]):=by show _=_;rw[HT.out,if_pos (by simpa using hw)]
     clear HT hw;generalize os[q]=y at *;go_wp2_with (at_builtin;go_must (refine zas (v:=u9) rfl (.tmp 24) (.tmp 26) rfl w1.heap.size rfl rfl (HO.out.later (zac _ _ _)) (zbf wr q _ rfl) (by omega) (Nat.le_trans HB.out.size (zac _ _ _).size) ?_;intro v5 w5 ho5 hg5;have hB5:=(zbN HB.out _).trans (zar (HO.out.later (zac _ _ _)) hg5 (Nat.le_refl _) (Nat.le_trans HB.out.size (zac _ _ _).size))))
     go_roundw
     case rel=>exact⟨q+1,by omega,by go_num,by rw[HT2.out];exact ho5,hB5⟩
     case measure=>simp[intOf];omega
    ·have hwb:(os[q]==t)=false:=by simpa using hw
     have HT2:Hid (pkN (λx=>decide (x=t)) 0 (os.take (q+1))=pkN (λx=>decide (x=t)) 0 (os.take q)):=by show _=_;rw[HT.out,if_neg (by simpa using hw),List.append_nil]
     clear HT hw;generalize os[q]=y at *;go_wp2_with fail
     go_roundw
     case rel=>exact⟨q+1,by omega,by go_num,by rw[HT2.out];exact HO.out,HB.out⟩
     case measure=>simp[intOf];omega
   ·have hqi:¬ (q:Int)<(os.length:Int):=by omega
    have HE:Hid (pkN (λx=>decide (x=t)) 0 (os.take q)=pkN (λx=>decide (x=t)) 0 os):=by show _=_;rw[List.take_of_length_le (by omega)]
    go_wp2_with fail
    go_ret;exact⟨_,rfl,by rw[HX2.out,<- HE.out];exact HO.out.mono HB1.out.size,zaa HB1.out HB.out⟩
theorem zfw {g:Img} {gb q:Nat} {w:World} (hG:GB w gb g) (hq:q<g.fs.length) :
 Calls Tryz.prog 201 #[.int .i64 q,.pointer (some ⟨gb,0,none⟩)] w λe w'=>e=.returned (.int .i64 g.fs[q].ow)/\w'=w:=by
 obtain⟨tb,off,hta,h1,h2,hty⟩:=hG.fd (by intro e;rw[e]at hq;simp at hq)
 obtain⟨d1,hd⟩:=hty w (Below.refl _ _);obtain⟨k0,k1,k2,k3,k4,k5,k6⟩:=(hd q hq).cells_F;unfold maxLen at h2;have hqi:(q:Int)<(g.fs.length:Int):=by omega
 clear hta hG hty hd;generalize g.fs[q]=x at *;go_enter Tryz.func201,Tryz.ntmps201;go_wp2_with fail
 go_ret;exact⟨rfl,rfl⟩
theorem zfh {g:Img} {gb q:Nat} {w:World} (hG:GB w gb g) (hq:q<g.ms.length) :
 Calls Tryz.prog 45 #[.int .i64 q,.pointer (some ⟨gb,0,none⟩)] w λe w'=>e=.returned (.int .i64 g.ms[q].ow)/\w'=w:=by
 obtain⟨tb,off,hta,h1,h2,hty⟩:=hG.md (by intro e;rw[e]at hq;simp at hq)
 obtain⟨d1,hd⟩:=hty w (Below.refl _ _);obtain⟨k0,k1,_⟩:=(hd q hq).cells_M;unfold maxLen at h2;have hqi:(q:Int)<(g.ms.length:Int):=by omega
 clear hta hG hty hd;generalize g.ms[q]=x at *;go_enter Tryz.func45,Tryz.ntmps45;go_wp2_with fail
 go_ret;exact⟨rfl,rfl⟩
theorem zcH {g:Img} {t:Int} {w:World} (hg:Im w g) (hi:imB g=true) :
 Calls Tryz.prog 164 #[imV g,.int .i64 t] w λe w'=>∃ v,e=.returned v/\OwnI w' w.heap.size v (zbg g t)/\Below w.heap.size w w':=by
 obtain⟨w0,hw0⟩:∃ W,W=w.alloc (.cells (imC g) 26):=⟨_,rfl⟩;have HW0:Hid (w0=_):=hw0;obtain⟨hb0,hgb⟩:=GB.made hg hw0;have HB0:Hid (Below w.heap.size w w0):=hb0;have hln:=zax hi;have HOw:Hid (Calls Tryz.prog 44 #[.agg (imC g),.int .i64 t,.int .i64 g.fs.length,.func (.func 201) #[] #[.pointer (some ⟨w.heap.size,0,none⟩)]] w0 λe w'=>∃ v,e=.returned v/\OwnI w' w0.heap.size v (zbg g t)/\Below w0.heap.size w0 w'):=by
  have:=zeD (t:=t) (os:=g.fs.map (·.ow)) hgb.im (by simp;omega) (f:=201) (bs:=#[]) (cs:=#[.pointer (some ⟨w.heap.size,0,none⟩)]) ⟨zah Tryz.func201 (by kernel_rfl) rfl,λW hW i h=>by
   simp only[List.length_map]at h;have:=zfw (hgb.later hW) h;simpa using this⟩
  rw[zky,List.length_map]at this;exact this
 obtain⟨c0,c1,c2,c3⟩:=hgb.cells;unfold imC at HW0 HOw;clear hw0 hb0 hgb hg hi;unfold imV;go_enter Tryz.func164,Tryz.ntmps164;go_wp2_with (rw[<- HW0.out])
 refine Calls.mono HOw.out ?_;rintro e w1 ⟨v,rfl,hv,hb1⟩;have HO1:Hid (OwnI w1 w0.heap.size v (zbg g t)):=hv;have HB1:Hid (Below w.heap.size w w1):=zaa HB0.out hb1;clear hb1 hv c0 c1 c2 c3 HOw;go_wp2_with fail
 go_ret;exact⟨_,rfl,HO1.out.mono HB0.out.size,HB1.out⟩
theorem zbI {g:Img} {t:Int} {w:World} (hg:Im w g) (hi:imB g=true) :
 Calls Tryz.prog 18 #[imV g,.int .i64 t] w λe w'=>∃ v,e=.returned v/\OwnI w' w.heap.size v (zat g t)/\Below w.heap.size w w':=by
 obtain⟨w0,hw0⟩:∃ W,W=w.alloc (.cells (imC g) 26):=⟨_,rfl⟩;have HW0:Hid (w0=_):=hw0;obtain⟨hb0,hgb⟩:=GB.made hg hw0;have HB0:Hid (Below w.heap.size w w0):=hb0;have hln:=zax hi;have HOw:Hid (Calls Tryz.prog 44 #[.agg (imC g),.int .i64 t,.int .i64 g.ms.length,.func (.func 45) #[] #[.pointer (some ⟨w.heap.size,0,none⟩)]] w0 λe w'=>∃ v,e=.returned v/\OwnI w' w0.heap.size v (zat g t)/\Below w0.heap.size w0 w'):=by
  have:=zeD (t:=t) (os:=g.ms.map (·.ow)) hgb.im (by simp;omega) (f:=45) (bs:=#[]) (cs:=#[.pointer (some ⟨w.heap.size,0,none⟩)]) ⟨zah Tryz.func45 (by kernel_rfl) rfl,λW hW i h=>by
   simp only[List.length_map]at h;have:=zfh (hgb.later hW) h;simpa using this⟩
  rw[zky,List.length_map]at this;exact this
 obtain⟨c0,c1,c2,c3⟩:=hgb.cells;unfold imC at HW0 HOw;clear hw0 hb0 hgb hg hi;unfold imV;go_enter Tryz.func18,Tryz.ntmps18;go_wp2_with (rw[<- HW0.out])
 refine Calls.mono HOw.out ?_;rintro e w1 ⟨v,rfl,hv,hb1⟩;have HO1:Hid (OwnI w1 w0.heap.size v (zat g t)):=hv;have HB1:Hid (Below w.heap.size w w1):=zaa HB0.out hb1;clear hb1 hv c0 c1 c2 c3 HOw;go_wp2_with fail
 go_ret;exact⟨_,rfl,HO1.out.mono HB0.out.size,HB1.out⟩
end Go.Proofs.YtkedhjdipnhgdaaGreat
