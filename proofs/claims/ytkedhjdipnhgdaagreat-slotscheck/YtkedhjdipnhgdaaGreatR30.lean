import Derived.Test.YtkedhjdipnhgdaaGreatR27
namespace Go.Proofs.YtkedhjdipnhgdaaGreat
set_option maxHeartbeats 16000000
set_option linter.all false
open RowKit
attribute [local go_sem ↓] wp_at_zero wp_at_succ
abbrev ztn:Oper:=⟨some 57,.load 26 (.tmp 2),26,"ref.go:152",#[],none⟩
abbrev ztq:Oper:=⟨some 58,.move (.tmp 7),40,"ref.go:152",#[],none⟩
abbrev ztt:Oper:=⟨some 59,.move (.tmp 8),3,"ref.go:152",#[],none⟩
abbrev ztv:Oper:=⟨some 60,.indexAddr 40 (.tmp 58) (.tmp 59),0,"ref.go:152",#[⟨1,.data⟩,⟨2,.data⟩],none⟩
abbrev ztm:Oper:=⟨some 61,.load 3 (.tmp 60),3,"ref.go:152",#[⟨3,.data⟩],none⟩
abbrev zts:Oper:=⟨some 62,.call ⟨.value (.func 23),#[.tmp 57,.tmp 61],#[26,3]⟩,3,"ref.go:152",#[⟨0,.data⟩,⟨4,.data⟩],none⟩
abbrev ztu:Oper:=⟨some 63,.binOp .neq 3 (.tmp 62) (.const (.int .i64 2)) 3,4,"ref.go:152",#[⟨5,.data⟩],none⟩
abbrev zto:Oper:=⟨some 64,.move (.tmp 63),4,"ref.go:152",#[⟨6,.data⟩,⟨5,.chain⟩],none⟩
abbrev ztx:Oper:=⟨some 65,.move (.tmp 7),40,"ref.go:152",#[⟨7,.guard⟩],some (7,false)⟩
abbrev ztr:Oper:=⟨some 66,.move (.tmp 8),3,"ref.go:152",#[⟨7,.guard⟩],some (7,false)⟩
abbrev znf:Oper:=⟨some 67,.slice 40 (.tmp 65) none (some (.tmp 66)) none,40,"ref.go:152",#[⟨8,.data⟩,⟨9,.data⟩,⟨7,.guard⟩],some (7,false)⟩
abbrev zmz:Oper:=⟨some 68,.move (.tmp 7),40,"ref.go:152",#[⟨7,.guard⟩],some (7,false)⟩
abbrev zng:Oper:=⟨some 69,.move (.tmp 8),3,"ref.go:152",#[⟨7,.guard⟩],some (7,false)⟩
abbrev zne:Oper:=⟨some 70,.indexAddr 40 (.tmp 68) (.tmp 69),0,"ref.go:152",#[⟨11,.data⟩,⟨12,.data⟩,⟨7,.guard⟩],some (7,false)⟩
abbrev znd:Oper:=⟨some 71,.load 3 (.tmp 70),3,"ref.go:152",#[⟨13,.data⟩,⟨7,.guard⟩],some (7,false)⟩
abbrev zmS:Oper:=⟨some 72,.call ⟨.value (.func 74),#[.tmp 67,.tmp 71],#[40,3]⟩,4,"ref.go:152",#[⟨10,.data⟩,⟨14,.data⟩,⟨7,.chain⟩,⟨7,.guard⟩],some (7,false)⟩
abbrev zmB:Oper:=⟨some 73,.pick (.tmp 64) (.const (.bool true)) (.tmp 72),4,"ref.go:152",#[⟨7,.data⟩,⟨15,.data⟩],none⟩
def FcOk (g:Img) (l:List Int) (i:Nat):Prop:=∀ k (h:k<l.length),k<i->zag g l[k]=2/\(l.take k).contains l[k]=false
theorem FcOk.zero (g:Img) (l:List Int):FcOk g l 0:=λk h hk=>absurd hk (by omega)
theorem FcOk.step {g:Img} {l:List Int} {i:Nat} (h:FcOk g l i) (hi:i<l.length) (h1:zag g l[i]=2) (h2:(l.take i).contains l[i]=false):FcOk g l (i+1):=λk hk hlt=>by
 by_cases e:k=i
 ·subst e;exact⟨h1,h2⟩
 ·exact h k hk (by omega)
def fcB (g:Img) (l:List Int):Bool:=l.all (λf=>decide (zag g f=2))&&zcE (λa b=>a != b) l
theorem zpv (l:List Int) (x:Int):l.all (λb=>x != b)=!l.contains x:=by
 induction l with
 | nil=>rfl
 | cons a r ih =>
  rw[List.all_cons,ih,List.contains_cons,Bool.not_or];rfl
theorem zkP {g:Img} {l:List Int}:fcB g l=true↔FcOk g l l.length:=by
 unfold fcB;rw[Bool.and_eq_true,List.all_eq_true,zdu];constructor
 ·rintro⟨h1,h2⟩ k hk _;refine⟨by simpa using h1 _ (List.getElem_mem hk), ?_⟩
  have:=h2 k hk;rw[zpv]at this;simpa using this
 ·intro h;refine⟨λx hx=>?_,λi hi=>?_⟩
  ·obtain⟨k,hk,rfl⟩:=List.mem_iff_getElem.1 hx;simpa using (h k hk hk).1
  ·rw[zpv,(h i hi hi).2];rfl
theorem zoY {g:Img} {q:Nat} (hq:q<g.ts.length):zcd g (q:Int)=(fcB g g.ts[q].fs&&(decide (zag g (q:Int)≠2)||!(zau g.ts.length (fsI g) (fsI g (q:Int))).contains (q:Int))):=by
 unfold zcd fcB;rw[zef hq]
theorem zlM {g:Img} {l:List Int} {i:Nat} {b:Bool} (hi:i<l.length) (h:zag g l[i]≠2):(fcB g l&&b)=false:=by
 cases hc:fcB g l with
 | false=>rfl
 | true=>exact absurd ((zkP.1 hc) i hi hi).1 h
theorem zl0 {g:Img} {l:List Int} {i:Nat} {b:Bool} (hi:i<l.length) (h:(l.take i).contains l[i]=true):(fcB g l&&b)=false:=by
 cases hc:fcB g l with
 | false=>rfl
 | true=>have:=((zkP.1 hc) i hi hi).2;rw[h]at this;cases this
theorem zlS {g:Img} {l:List Int} {i:Nat} {b:Bool} (hi:l.length<=i) (h:FcOk g l i):(fcB g l&&b)=b:=by
 rw[zkP.2 (λk hk _=>h k hk (by omega))];rfl
theorem zpg {g:Img} {q:Nat} (hq:q<g.ts.length) (he:g.ts[q].ex = -1):upL g (q:Int)=[(q:Int)]:=by
 unfold upL;rw[upG,if_pos ⟨by rw[zai];omega,by simp⟩,zbi hq,he,upG,if_neg (by simp[zam])]
 rfl
theorem zpw {g:Img} {q:Nat} (hq:q<g.ts.length) (he:g.ts[q].ex = -1):zb5 g (q:Int)=true:=by
 unfold zb5;rw[zpg hq he,zbi hq,he];simp[zbi hq,he]
theorem zpj {g:Img} {q:Nat} (hq:q<g.ts.length) (he:g.ts[q].ex≠-1):zb5 g (q:Int)=((decide (zag g g.ts[q].ex=0)&&!zaf (flI g g.ts[q].ex) 8)&&(match (upL g (q:Int)).getLast? with | some u=>decide (exI g u = -1) | none=>true)):=by
 unfold zb5;rw[zbi hq,decide_eq_false he];rfl
theorem zsZ {g:Img} {q:Nat} (hq:q<g.ts.length) (he:g.ts[q].ex = -1):zbj g (q:Int)=zau g.ts.length (fsI g) (fsI g (q:Int)):=by
 unfold zbj;rw[zpg hq he];simp
theorem znY {f e:Int} (h:zct f e=true) (hk:zaN f=2):e = -1:=by
 unfold zct at h;rw[if_pos hk,Bool.and_eq_true]at h;simpa using h.1
set_option maxRecDepth 100000 in
theorem ziY {g:Img} {q:Nat} {w:World} (hg:Im w g) (hi:imB g=true) (hq:q<g.ts.length) (hfl:zct g.ts[q].fl g.ts[q].ex=true) :
 Calls Tryz.prog 138 #[imV g,.int .i64 q] w λe w'=>e=.returned (.bool (zb5 g (q:Int)&&zcd g (q:Int)))/\Below w.heap.size w w':=by
 obtain⟨w0,hw0⟩:∃ W,W=w.alloc (.cells (imC g) 26):=⟨_,rfl⟩;have HW0:Hid (w0=_):=hw0;obtain⟨hb0,hgb⟩:=GB.made hg hw0;have HB0:Hid (Below w.heap.size w w0):=hb0;have HG:Hid (GB w0 w.heap.size g):=hgb;have HI:Hid (imB g=true):=hi;have HF2:Hid (zag g (q:Int)=2->zeq (zbj g (q:Int)) g.ts.length=zeq (zau g.ts.length (fsI g) (fsI g (q:Int))) g.ts.length):=λh=>by rw[zsZ hq (znY hfl (by rw[<- zec hq];exact h))]
 obtain⟨tb,off,hta,h8,h9,hty⟩:=hgb.ty (by intro e;rw[e]at hq;simp at hq)
 have HTA:Hid (g.ta=some ⟨tb,off,none⟩):=hta;have HKd:Hid (∀ W (t:Int),Below w0.heap.size w0 W->Calls Tryz.prog 23 #[.agg #[.slice (some ⟨tb,off,none⟩) g.ts.length g.tc,.slice g.fa g.fs.length g.fc,.slice g.ma g.ms.length g.mc,.int .i64 g.en],.int .i64 t] W λe w'=>e=.returned (.int .i64 (zag g t))/\Below W.heap.size W w'):=by
  intro W t hW;have:=zaF t (HG.out.im.later hW) (FlOk.of HI.out);unfold imV at this;rw[HTA.out]at this;exact this
 have HUp:Hid (∀ W,Below w0.heap.size w0 W->Calls Tryz.prog 73 #[.agg #[.slice (some ⟨tb,off,none⟩) g.ts.length g.tc,.slice g.fa g.fs.length g.fc,.slice g.ma g.ms.length g.mc,.int .i64 g.en],.int .i64 q] W λe w'=>∃ v,e=.returned v/\OwnI w' W.heap.size v (upL g (q:Int))/\Below W.heap.size W w'):=by
  intro W hW;have:=zdn (t:=(q:Int)) (HG.out.im.later hW) HI.out;unfold imV at this;rw[HTA.out]at this;exact this
 have HFs:Hid (∀ W,Below w0.heap.size w0 W->Calls Tryz.prog 53 #[.agg #[.slice (some ⟨tb,off,none⟩) g.ts.length g.tc,.slice g.fa g.fs.length g.fc,.slice g.ma g.ms.length g.mc,.int .i64 g.en],.int .i64 q] W λe w'=>∃ v,e=.returned v/\OwnI w' W.heap.size v (zeq (zbj g (q:Int)) g.ts.length)/\Below W.heap.size W w'):=by
  intro W hW;have:=zeb (t:=(q:Int)) (HG.out.im.later hW) HI.out;unfold imV at this;rw[HTA.out]at this;exact this
 have HC4:Hid (∀ W,Below w0.heap.size w0 W->W.cell? ⟨w.heap.size,0,none⟩=some (.slice (some ⟨tb,off,none⟩) g.ts.length g.tc)/\W.cell? ⟨w.heap.size,1,none⟩=some (.slice g.fa g.fs.length g.fc)/\W.cell? ⟨w.heap.size,2,none⟩=some (.slice g.ma g.ms.length g.mc)/\W.cell? ⟨w.heap.size,3,none⟩=some (.int .i64 g.en)):=λW hW=>by
  have:=(HG.out.later hW).cells;rw[HTA.out]at this;exact this
 have HTY:Hid (∀ W,Below w0.heap.size w0 W->∀ k (hk:k<g.ts.length),W.cell? ⟨tb,off+k * 4+1,none⟩=some (.int .i64 g.ts[k].fl)/\W.cell? ⟨tb,off+k * 4+2,none⟩=some (.int .i64 g.ts[k].ex)/\W.cell? ⟨tb,off+k * 4+3,none⟩=some (.slice g.ts[k].fa g.ts[k].fs.length g.ts[k].fc)):=λW hW k hk=>((hty W hW).2 k hk).2
 have HFI:Hid (∀ W,Below w0.heap.size w0 W->Is W (.slice g.ts[q].fa g.ts[q].fs.length g.ts[q].fc) g.ts[q].fs):=λW hW=>Sl.later (hgb.im.tok _ (List.getElem_mem hq)).toIs hW
 have hexq:=(zbD hi hq).1;have HE0:Hid (g.ts[q].ex = -1->zb5 g (q:Int)=true):=zpw hq;have HE1:Hid (g.ts[q].ex≠-1->zb5 g (q:Int)=((decide (zag g g.ts[q].ex=0)&&!zaf (flI g g.ts[q].ex) 8)&&(match (upL g (q:Int)).getLast? with | some u=>decide (exI g u = -1) | none=>true))):=zpj hq
 obtain⟨_,d1,d2,d3⟩:=(hty w0 (Below.refl _ _)).2 q hq;obtain⟨c0,c1,c2,c3⟩:=HC4.out w0 (Below.refl _ _);have HD3:Hid (∀ W,Below w0.heap.size w0 W->W.cell? ⟨tb,off+q * 4+3,none⟩=some (.slice g.ts[q].fa g.ts[q].fs.length g.ts[q].fc)):=λW hW=>(HTY.out W hW q hq).2.2
 have hqi:(q:Int)<(g.ts.length:Int):=by omega
 have hfl4:=(zbD hi hq).2.1;obtain⟨x,hx⟩:∃ x,x=g.ts[q]:=⟨_,rfl⟩;unfold imC at HW0;rw[hta]at HW0;unfold maxLen at h9;have HFQ:Hid (zcd g (q:Int)=(fcB g g.ts[q].fs&&(decide (zag g (q:Int)≠2)||!(zau g.ts.length (fsI g) (fsI g (q:Int))).contains (q:Int)))):=zoY hq
 rw[<- hx]at HD3 HFQ d1 d2 d3 HFI hexq HE0 HE1 hfl4;clear hw0 hb0 hgb hg hi hfl hty hta hx;unfold imV;rw[HTA.out];go_enter Tryz.func138,Tryz.ntmps138;by_cases hex:x.ex = -1
 ·have HX:Hid (zb5 g (q:Int)=true):=HE0.out hex;have hge:¬ 0<=x.ex:=by omega
  have HBs:Hid (Below w0.heap.size w0 w0):=Below.refl _ _;clear HE0 HE1 hex hexq;go_wp2_with (rw[<- HW0.out])
  clear c0 c1 c2 c3 d1 d2 d3;go_loopw [8] (λz wr=>∃ i:Nat,i<=x.fs.length/\z=.int .i64 i/\Hid (Below w0.heap.size w0 wr)/\Hid (FcOk g x.fs i)) (λz _=>x.fs.length - (intOf z).toNat)
  case atStart=>exact⟨0,Nat.zero_le _,rfl,HBs.out,FcOk.zero _ _⟩
  case round =>
   obtain⟨i,hi2,rfl,HB,HF⟩:=hrel;by_cases hil:i<x.fs.length
   ·have hii:(i:Int)<(x.fs.length:Int):=by omega
    obtain⟨fb,foff,hfa,hfb,_,h6,h7,hc⟩:=(HFI.out wr HB.out).at hil;have HCy:Hid (wr.cell? ⟨fb,foff+i,none⟩=some (.int .i64 x.fs[i])):=hc i hil;have HY:Hid (zag g x.fs[i]=2->(x.fs.take i).contains x.fs[i]=false->FcOk g x.fs (i+1)):=λh1 h2=>HF.out.step hil h1 h2
    have HN1:Hid (zag g x.fs[i]≠2->zcd g (q:Int)=false):=λh=>by rw[HFQ.out];exact zlM hil h
    have HN2:Hid ((x.fs.take i).contains x.fs[i]=true->zcd g (q:Int)=false):=λh=>by rw[HFQ.out];exact zl0 hil h
    have HSl:=zb0 (P:=Tryz.prog) (E:=zch) (show Es zch wr (.slice (some ⟨fb,foff,none⟩) x.fs.length x.fc) x.fs by have:=(HFI.out wr HB.out).toEs;rw[hfa]at this;exact this) i (by omega) 40 3 Tryz.underlying40 (by kernel_rfl)
    have hsl:=HSl.1;have HHs:Hid (∀ W,Below wr.heap.size wr W->Calls Tryz.prog 74 #[.slice (some ⟨fb,foff,none⟩) i x.fc,.int .i64 x.fs[i]] W λe w'=>e=.returned (.bool ((x.fs.take i).contains x.fs[i]))/\w'=W):=λW hW=>zaM (HSl.2.later hW).toIs _
    have HKy:Hid (∀ W,Below wr.heap.size wr W->Calls Tryz.prog 23 #[.agg #[.slice (some ⟨tb,off,none⟩) g.ts.length g.tc,.slice g.fa g.fs.length g.fc,.slice g.ma g.ms.length g.mc,.int .i64 g.en],.int .i64 x.fs[i]] W λe w'=>e=.returned (.int .i64 (zag g x.fs[i]))/\Below W.heap.size W w'):=λW hW=>HKd.out W _ (zaa HB.out hW)
    have HK:Hid (∀ W,Below wr.heap.size wr W->W.cell? ⟨w.heap.size,0,none⟩=some (.slice (some ⟨tb,off,none⟩) g.ts.length g.tc)/\W.cell? ⟨w.heap.size,1,none⟩=some (.slice g.fa g.fs.length g.fc)/\W.cell? ⟨w.heap.size,2,none⟩=some (.slice g.ma g.ms.length g.mc)/\W.cell? ⟨w.heap.size,3,none⟩=some (.int .i64 g.en)/\W.cell? ⟨fb,foff+i,none⟩=some (.int .i64 x.fs[i])):=λW hW=>⟨(HC4.out W (zaa HB.out hW)).1,(HC4.out W (zaa HB.out hW)).2.1,(HC4.out W (zaa HB.out hW)).2.2.1,(HC4.out W (zaa HB.out hW)).2.2.2,by rw[<- HCy.out];exact hW.cell (p:=⟨fb,foff+i,none⟩) hfb⟩
    rw[hfa];have HFA:Hid (x.fa=_):=hfa;obtain⟨hasv,hhv⟩:∃ b,b=(x.fs.take i).contains x.fs[i]:=⟨_,rfl⟩;rw[<- hhv]at HY HN2 HHs;unfold maxLen at h7;clear hc HSl hfa hhv HCy;generalize x.fs[i]=y at *;obtain⟨kv,hkv⟩:∃ k,k=zag g y:=⟨_,rfl⟩;rw[<- hkv]at HY HN1 HKy;clear hkv;obtain⟨e0,e1,e2,e3,e4⟩:=HK.out wr (Below.refl _ _);go_wp2_with fail
    by_cases hk2:kv=2
    ·subst hk2
     cases hasv with
     | true =>
      have HBad:Hid (zcd g (q:Int)=false):=HN2.out rfl;clear HY HN1 HN2;refine wp_region_held_drew (S:=(λW=>W.cell? ⟨w.heap.size,0,none⟩=some (.slice (some ⟨tb,off,none⟩) g.ts.length g.tc)/\W.cell? ⟨w.heap.size,1,none⟩=some (.slice g.fa g.fs.length g.fc)/\W.cell? ⟨w.heap.size,2,none⟩=some (.slice g.ma g.ms.length g.mc)/\W.cell? ⟨w.heap.size,3,none⟩=some (.int .i64 g.en)/\W.cell? ⟨fb,foff+i,none⟩=some (.int .i64 y))) (by kernel_rfl) (HK.out _ (zad _)) (λyb=>?_)
      refine tY 0 ztn (.agg #[.slice (some ⟨tb,off,none⟩) g.ts.length g.tc,.slice g.fa g.fs.length g.fc,.slice g.ma g.ms.length g.mc,.int .i64 g.en]) yb ?_;refine tY 1 ztq (.slice (some ⟨fb,foff,none⟩) x.fs.length x.fc) yb ?_;refine tY 2 ztt (.int .i64 i) yb ?_;refine tY 3 ztv (.pointer (some ⟨fb,foff+i,none⟩)) yb ?_;refine tY 4 ztm (.int .i64 y) yb ?_;refine wpAnyH_ready (rs:=[5]) (by kernel_rfl) (by simp) ?_
      refine AllReadyH.cons (o:=zts) rfl (λK hK=>?_) AllReadyH.nil
      go_simp
      refine (HKy.out _ (zad _)).mono ?_;rintro e w2 ⟨rfl,hb2⟩;have hBc:Below wr.heap.size wr w2:=zaa (zad _) hb2
      try go_wp2_with fail
      refine hK.out _ _ (HK.out _ hBc) (λyb=>?_)
      clear hK K
      try simp only[Act.put,sA,s0,sS]
      refine tY 6 ztu (.bool false) yb ?_;refine tY 7 zto (.bool false) yb ?_;refine tY 8 ztx (.slice (some ⟨fb,foff,none⟩) x.fs.length x.fc) yb ?_;refine tY 9 ztr (.int .i64 i) yb ?_;refine tY 10 znf (.slice (some ⟨fb,foff,none⟩) i x.fc) yb ?_;refine tY 11 zmz (.slice (some ⟨fb,foff,none⟩) x.fs.length x.fc) yb ?_;refine tY 12 zng (.int .i64 i) yb ?_;refine tY 13 zne (.pointer (some ⟨fb,foff+i,none⟩)) yb ?_;refine tY 14 znd (.int .i64 y) yb ?_;refine wpAnyH_ready (rs:=[15]) (by kernel_rfl) (by simp) ?_
      refine AllReadyH.cons (o:=zmS) rfl (λK hK=>?_) AllReadyH.nil
      go_simp
      refine (HHs.out _ hBc).mono ?_;rintro e wz ⟨rfl,hz⟩;subst wz
      try go_wp2_with fail
      refine hK.out _ _ (HK.out _ hBc) (λyb=>?_)
      clear hK K
      try simp only[Act.put,sA,s0,sS]
      refine tY 16 zmB (.bool true) yb ?_;refine wpAnyH_done (by kernel_rfl) ?_ _
      have HBe:Hid (Below w0.heap.size w0 w2):=zaa HB.out hBc;clear hBc hb2;go_wp2_with fail
      go_ret;exact⟨zab (by rw[HBad.out];simp),zaa HB0.out HBe.out⟩
     | false =>
      have HY2:Hid (FcOk g x.fs (i+1)):=HY.out rfl rfl;clear HY HN1 HN2;refine wp_region_held_drew (S:=(λW=>W.cell? ⟨w.heap.size,0,none⟩=some (.slice (some ⟨tb,off,none⟩) g.ts.length g.tc)/\W.cell? ⟨w.heap.size,1,none⟩=some (.slice g.fa g.fs.length g.fc)/\W.cell? ⟨w.heap.size,2,none⟩=some (.slice g.ma g.ms.length g.mc)/\W.cell? ⟨w.heap.size,3,none⟩=some (.int .i64 g.en)/\W.cell? ⟨fb,foff+i,none⟩=some (.int .i64 y))) (by kernel_rfl) (HK.out _ (zad _)) (λyb=>?_)
      refine tY 0 ztn (.agg #[.slice (some ⟨tb,off,none⟩) g.ts.length g.tc,.slice g.fa g.fs.length g.fc,.slice g.ma g.ms.length g.mc,.int .i64 g.en]) yb ?_;refine tY 1 ztq (.slice (some ⟨fb,foff,none⟩) x.fs.length x.fc) yb ?_;refine tY 2 ztt (.int .i64 i) yb ?_;refine tY 3 ztv (.pointer (some ⟨fb,foff+i,none⟩)) yb ?_;refine tY 4 ztm (.int .i64 y) yb ?_;refine wpAnyH_ready (rs:=[5]) (by kernel_rfl) (by simp) ?_
      refine AllReadyH.cons (o:=zts) rfl (λK hK=>?_) AllReadyH.nil
      go_simp
      refine (HKy.out _ (zad _)).mono ?_;rintro e w2 ⟨rfl,hb2⟩;have hBc:Below wr.heap.size wr w2:=zaa (zad _) hb2
      try go_wp2_with fail
      refine hK.out _ _ (HK.out _ hBc) (λyb=>?_)
      clear hK K
      try simp only[Act.put,sA,s0,sS]
      refine tY 6 ztu (.bool false) yb ?_;refine tY 7 zto (.bool false) yb ?_;refine tY 8 ztx (.slice (some ⟨fb,foff,none⟩) x.fs.length x.fc) yb ?_;refine tY 9 ztr (.int .i64 i) yb ?_;refine tY 10 znf (.slice (some ⟨fb,foff,none⟩) i x.fc) yb ?_;refine tY 11 zmz (.slice (some ⟨fb,foff,none⟩) x.fs.length x.fc) yb ?_;refine tY 12 zng (.int .i64 i) yb ?_;refine tY 13 zne (.pointer (some ⟨fb,foff+i,none⟩)) yb ?_;refine tY 14 znd (.int .i64 y) yb ?_;refine wpAnyH_ready (rs:=[15]) (by kernel_rfl) (by simp) ?_
      refine AllReadyH.cons (o:=zmS) rfl (λK hK=>?_) AllReadyH.nil
      go_simp
      refine (HHs.out _ hBc).mono ?_;rintro e wz ⟨rfl,hz⟩;subst wz
      try go_wp2_with fail
      refine hK.out _ _ (HK.out _ hBc) (λyb=>?_)
      clear hK K
      try simp only[Act.put,sA,s0,sS]
      refine tY 16 zmB (.bool false) yb ?_;refine wpAnyH_done (by kernel_rfl) ?_ _
      have HBe:Hid (Below w0.heap.size w0 w2):=zaa HB.out hBc;clear hBc hb2 e0 e1 e2 e3 e4;go_wp2_with fail
      go_roundw
      case rel=>exact⟨i+1,by omega,by go_num,HBe.out,HY2.out⟩
      case measure=>simp[intOf];omega
    ·have hkb:(kv != 2)=true:=by simpa using hk2
     have HBad:Hid (zcd g (q:Int)=false):=HN1.out hk2;clear HY HN1 HN2;refine wp_region_held_drew (S:=(λW=>W.cell? ⟨w.heap.size,0,none⟩=some (.slice (some ⟨tb,off,none⟩) g.ts.length g.tc)/\W.cell? ⟨w.heap.size,1,none⟩=some (.slice g.fa g.fs.length g.fc)/\W.cell? ⟨w.heap.size,2,none⟩=some (.slice g.ma g.ms.length g.mc)/\W.cell? ⟨w.heap.size,3,none⟩=some (.int .i64 g.en)/\W.cell? ⟨fb,foff+i,none⟩=some (.int .i64 y))) (by kernel_rfl) (HK.out _ (zad _)) (λyb=>?_)
     refine tY 0 ztn (.agg #[.slice (some ⟨tb,off,none⟩) g.ts.length g.tc,.slice g.fa g.fs.length g.fc,.slice g.ma g.ms.length g.mc,.int .i64 g.en]) yb ?_;refine tY 1 ztq (.slice (some ⟨fb,foff,none⟩) x.fs.length x.fc) yb ?_;refine tY 2 ztt (.int .i64 i) yb ?_;refine tY 3 ztv (.pointer (some ⟨fb,foff+i,none⟩)) yb ?_;refine tY 4 ztm (.int .i64 y) yb ?_;refine wpAnyH_ready (rs:=[5]) (by kernel_rfl) (by simp) ?_
     refine AllReadyH.cons (o:=zts) rfl (λK hK=>?_) AllReadyH.nil
     go_simp
     refine (HKy.out _ (zad _)).mono ?_;rintro e w2 ⟨rfl,hb2⟩;have hBc:Below wr.heap.size wr w2:=zaa (zad _) hb2
     try go_wp2_with fail
     refine hK.out _ _ (HK.out _ hBc) (λyb=>?_)
     clear hK K
     try simp only[Act.put,sA,s0,sS]
     refine tY 6 ztu (.bool true) yb ?_;refine tY 7 zto (.bool true) yb ?_;refine tN 8 ztx yb ?_;refine tN 9 ztr yb ?_;refine tN 10 znf yb ?_;refine tN 11 zmz yb ?_;refine tN 12 zng yb ?_;refine tN 13 zne yb ?_;refine tN 14 znd yb ?_;refine tN 15 zmS yb ?_;refine tY 16 zmB (.bool true) yb ?_;refine wpAnyH_done (by kernel_rfl) ?_ _
     have HBe:Hid (Below w0.heap.size w0 w2):=zaa HB.out hBc;clear hBc hb2;go_wp2_with fail
     go_ret;exact⟨zab (by rw[HBad.out];simp),zaa HB0.out HBe.out⟩
   ·have hii:¬ (i:Int)<(x.fs.length:Int):=by omega
    have HFE:Hid (zcd g (q:Int)=(decide (zag g (q:Int)≠2)||!(zau g.ts.length (fsI g) (fsI g (q:Int))).contains (q:Int))):=by show _=_;rw[HFQ.out];exact zlS (by omega) HF.out
    obtain⟨e0,e1,e2,e3⟩:=HC4.out wr HB.out;go_wp2_with fail
    refine Calls.mono (HKd.out _ _ HB.out) ?_;rintro e w4 ⟨rfl,hb4⟩;have HB4:Hid (Below w0.heap.size w0 w4):=zaa HB.out hb4;clear hb4 e0 e1 e2 e3;by_cases hk2:zag g (q:Int)=2
    ·rw[hk2];have HFc:Hid (zeq (zbj g (q:Int)) g.ts.length=zeq (zau g.ts.length (fsI g) (fsI g (q:Int))) g.ts.length):=HF2.out hk2;have HFE2:Hid (zcd g (q:Int)=!(zau g.ts.length (fsI g) (fsI g (q:Int))).contains (q:Int)):=by show _=_;rw[HFE.out,hk2];simp
     clear hk2;obtain⟨e0,e1,e2,e3⟩:=HC4.out w4 HB4.out;go_wp2_with fail
     refine Calls.mono (HFs.out w4 HB4.out) ?_;rintro e w5 ⟨fv,rfl,hf,hb5⟩;have HB5:Hid (Below w0.heap.size w0 w5):=zaa HB4.out hb5;have HHq:Hid (Calls Tryz.prog 74 #[fv,.int .i64 q] w5 λe w'=>e=.returned (.bool ((zau g.ts.length (fsI g) (fsI g (q:Int))).contains (q:Int)))/\w'=w5):=by
      have:=zaM hf.is (q:Int)
      rwa [HFc.out,zg6 (zcx _ _ _)]at this
     clear hf hb5 e0 e1 e2 e3;generalize (zau g.ts.length (fsI g) (fsI g (q:Int))).contains (q:Int)=r at *;go_wp2_with fail
     refine Calls.mono HHq.out ?_;rintro e wz ⟨rfl,hz⟩;subst wz;go_wp2_with fail
     go_ret;exact⟨zab (by rw[HX.out,HFE2.out];rfl),zaa HB0.out HB5.out⟩
    ·have hkb:(zag g (q:Int) != 2)=true:=by simpa using hk2
     have HFE2:Hid (zcd g (q:Int)=true):=by show _=_;rw[HFE.out,decide_eq_true hk2];rfl
     clear hk2;generalize zag g (q:Int)=kq at *;go_wp2_with fail
     go_ret;exact⟨zab (by rw[HX.out,HFE2.out];rfl),zaa HB0.out HB4.out⟩
 ·obtain⟨j,hj,hjl⟩:=zaK (hexq.resolve_left hex);have HE:Hid _:=HE1.out hex;have hji:(j:Int)<(g.ts.length:Int):=by omega
  rw[hj]at HE d2;clear HE0 HE1 hex hexq hj;go_wp2_with (rw[<- HW0.out])
  refine Calls.mono (HKd.out _ _ (Below.refl _ _)) ?_;rintro e w1 ⟨rfl,hb1⟩;have HB1:Hid (Below w0.heap.size w0 w1):=hb1;clear hb1 c0 c1 c2 c3 d1 d2 d3;obtain⟨c0,c1,c2,c3⟩:=HC4.out w1 HB1.out;obtain⟨k1,_,_⟩:=HTY.out w1 HB1.out j hjl;obtain⟨kv,hkv⟩:∃ k,k=zag g (j:Int):=⟨_,rfl⟩;rw[<- hkv]at HE;rw[<- hkv];clear hkv;by_cases hk0:kv=0
  ·subst hk0;have HBt:Hid (∀ W,Calls Tryz.prog 50 #[.int .i64 g.ts[j].fl,.int .i64 ((8:Nat):Int)] W λe w'=>e=.returned (.bool (zaf g.ts[j].fl 8))/\w'=W):=λW=>zdO (FlOk.of HI.out _ (List.getElem_mem hjl)) (by omega) W
   have HE2:Hid (zb5 g (q:Int)=(!zaf g.ts[j].fl 8&&(match (upL g (q:Int)).getLast? with | some u=>decide (exI g u = -1) | none=>true))):=by show _=_;rw[HE.out,zek hjl];simp
   generalize g.ts[j].fl=f at *;clear HE;go_wp2_with fail
   refine (HBt.out _).mono ?_;rintro e wz ⟨rfl,hz⟩;subst wz
   cases hb8:zaf f 8 with
   | true =>
    have HBad:Hid (zb5 g (q:Int)=false):=by show _=_;rw[HE2.out,hb8];rfl
    clear hb8 HE2;go_wp2_with fail
    go_ret;exact⟨zab (by rw[HBad.out];rfl),zaa HB0.out HB1.out⟩
   | false =>
    have HE3:Hid (zb5 g (q:Int)=(match (upL g (q:Int)).getLast? with | some u=>decide (exI g u = -1) | none=>true)):=by show _=_;rw[HE2.out,hb8];rfl
    clear hb8 HE2 k1;go_wp2_with fail
    refine Calls.mono (HUp.out _ HB1.out) ?_;rintro e w2 ⟨uv,rfl,hu,hb2⟩;have HB2:Hid (Below w0.heap.size w0 w2):=zaa HB1.out hb2;have hne:upL g (q:Int)≠[]:=by intro e;have:=zgC (g:=g) (t:=(q:Int)) (by rw[zai];omega);rw[e]at this;simp at this
    obtain⟨m,hm⟩:∃ m,(upL g (q:Int)).length=m+1:=⟨(upL g (q:Int)).length - 1,by have:=List.length_pos_iff.2 hne;omega⟩
    obtain⟨gl,capl,hlv,p1,p2,p3,p4,p5⟩:=hu.parts hne;have cz:=p5 m (by omega)
    obtain⟨z,hz,hzl⟩:=zaK ((zcw g (q:Int)).1 _ (List.getElem_mem (show m<(upL g (q:Int)).length by omega)))
    rw[hz]at cz;have HE4:Hid (zb5 g (q:Int)=decide (g.ts[z].ex = -1)):=by
     show _=_;rw[HE3.out,List.getLast?_eq_getElem?,show (upL g (q:Int)).length - 1=m by omega,List.getElem?_eq_getElem (by omega),hz]
     simp only[zbi hzl]
    have hexz:=(zbD HI.out hzl).1;obtain⟨_,kz,_⟩:=HTY.out w2 HB2.out z hzl;have hzi:(z:Int)<(g.ts.length:Int):=by omega
    rw[hm]at hlv p1;subst hlv;unfold maxLen at p2;clear hb2 c0 c1 c2 c3 hu hne p5 HE3 hm hz;obtain⟨c0,c1,c2,c3⟩:=HC4.out w2 HB2.out;generalize g.ts[z].ex=ez at *;by_cases hez:ez = -1
    ·have hge:¬ 0<=ez:=by omega
     have HX:Hid (zb5 g (q:Int)=true):=by show _=_;rw[HE4.out,decide_eq_true hez]
     clear hez HE4 hexz;have d3:=HD3.out w2 HB2.out;go_wp2_with fail
     go_quiet (fail)
     have HBs:Hid (Below w0.heap.size w0 (w2.drewN nq)):=Below.drewN HB2.out _;go_wp2_with fail
     clear c0 c1 c2 c3 d3 cz kz;go_loopw [8] (λz wr=>∃ i:Nat,i<=x.fs.length/\z=.int .i64 i/\Hid (Below w0.heap.size w0 wr)/\Hid (FcOk g x.fs i)) (λz _=>x.fs.length - (intOf z).toNat)
     case atStart=>exact⟨0,Nat.zero_le _,rfl,HBs.out,FcOk.zero _ _⟩
     case round =>
      obtain⟨i,hi2,rfl,HB,HF⟩:=hrel;by_cases hil:i<x.fs.length
      ·have hii:(i:Int)<(x.fs.length:Int):=by omega
       obtain⟨fb,foff,hfa,hfb,_,h6,h7,hc⟩:=(HFI.out wr HB.out).at hil;have HCy:Hid (wr.cell? ⟨fb,foff+i,none⟩=some (.int .i64 x.fs[i])):=hc i hil;have HY:Hid (zag g x.fs[i]=2->(x.fs.take i).contains x.fs[i]=false->FcOk g x.fs (i+1)):=λh1 h2=>HF.out.step hil h1 h2
       have HN1:Hid (zag g x.fs[i]≠2->zcd g (q:Int)=false):=λh=>by rw[HFQ.out];exact zlM hil h
       have HN2:Hid ((x.fs.take i).contains x.fs[i]=true->zcd g (q:Int)=false):=λh=>by rw[HFQ.out];exact zl0 hil h
       have HSl:=zb0 (P:=Tryz.prog) (E:=zch) (show Es zch wr (.slice (some ⟨fb,foff,none⟩) x.fs.length x.fc) x.fs by have:=(HFI.out wr HB.out).toEs;rw[hfa]at this;exact this) i (by omega) 40 3 Tryz.underlying40 (by kernel_rfl)
       have hsl:=HSl.1;have HHs:Hid (∀ W,Below wr.heap.size wr W->Calls Tryz.prog 74 #[.slice (some ⟨fb,foff,none⟩) i x.fc,.int .i64 x.fs[i]] W λe w'=>e=.returned (.bool ((x.fs.take i).contains x.fs[i]))/\w'=W):=λW hW=>zaM (HSl.2.later hW).toIs _
       have HKy:Hid (∀ W,Below wr.heap.size wr W->Calls Tryz.prog 23 #[.agg #[.slice (some ⟨tb,off,none⟩) g.ts.length g.tc,.slice g.fa g.fs.length g.fc,.slice g.ma g.ms.length g.mc,.int .i64 g.en],.int .i64 x.fs[i]] W λe w'=>e=.returned (.int .i64 (zag g x.fs[i]))/\Below W.heap.size W w'):=λW hW=>HKd.out W _ (zaa HB.out hW)
       have HK:Hid (∀ W,Below wr.heap.size wr W->W.cell? ⟨w.heap.size,0,none⟩=some (.slice (some ⟨tb,off,none⟩) g.ts.length g.tc)/\W.cell? ⟨w.heap.size,1,none⟩=some (.slice g.fa g.fs.length g.fc)/\W.cell? ⟨w.heap.size,2,none⟩=some (.slice g.ma g.ms.length g.mc)/\W.cell? ⟨w.heap.size,3,none⟩=some (.int .i64 g.en)/\W.cell? ⟨fb,foff+i,none⟩=some (.int .i64 x.fs[i])):=λW hW=>⟨(HC4.out W (zaa HB.out hW)).1,(HC4.out W (zaa HB.out hW)).2.1,(HC4.out W (zaa HB.out hW)).2.2.1,(HC4.out W (zaa HB.out hW)).2.2.2,by rw[<- HCy.out];exact hW.cell (p:=⟨fb,foff+i,none⟩) hfb⟩
       rw[hfa];have HFA:Hid (x.fa=_):=hfa;obtain⟨hasv,hhv⟩:∃ b,b=(x.fs.take i).contains x.fs[i]:=⟨_,rfl⟩;rw[<- hhv]at HY HN2 HHs;unfold maxLen at h7;clear hc HSl hfa hhv HCy;generalize x.fs[i]=y at *;obtain⟨kv,hkv⟩:∃ k,k=zag g y:=⟨_,rfl⟩;rw[<- hkv]at HY HN1 HKy;clear hkv;obtain⟨e0,e1,e2,e3,e4⟩:=HK.out wr (Below.refl _ _);go_wp2_with fail
       by_cases hk2:kv=2
       ·subst hk2
        cases hasv with
        | true =>
         have HBad:Hid (zcd g (q:Int)=false):=HN2.out rfl;clear HY HN1 HN2;refine wp_region_held_drew (S:=(λW=>W.cell? ⟨w.heap.size,0,none⟩=some (.slice (some ⟨tb,off,none⟩) g.ts.length g.tc)/\W.cell? ⟨w.heap.size,1,none⟩=some (.slice g.fa g.fs.length g.fc)/\W.cell? ⟨w.heap.size,2,none⟩=some (.slice g.ma g.ms.length g.mc)/\W.cell? ⟨w.heap.size,3,none⟩=some (.int .i64 g.en)/\W.cell? ⟨fb,foff+i,none⟩=some (.int .i64 y))) (by kernel_rfl) (HK.out _ (zad _)) (λyb=>?_)
         refine tY 0 ztn (.agg #[.slice (some ⟨tb,off,none⟩) g.ts.length g.tc,.slice g.fa g.fs.length g.fc,.slice g.ma g.ms.length g.mc,.int .i64 g.en]) yb ?_;refine tY 1 ztq (.slice (some ⟨fb,foff,none⟩) x.fs.length x.fc) yb ?_;refine tY 2 ztt (.int .i64 i) yb ?_;refine tY 3 ztv (.pointer (some ⟨fb,foff+i,none⟩)) yb ?_;refine tY 4 ztm (.int .i64 y) yb ?_;refine wpAnyH_ready (rs:=[5]) (by kernel_rfl) (by simp) ?_
         refine AllReadyH.cons (o:=zts) rfl (λK hK=>?_) AllReadyH.nil
         go_simp
         refine (HKy.out _ (zad _)).mono ?_;rintro e w2 ⟨rfl,hb2⟩;have hBc:Below wr.heap.size wr w2:=zaa (zad _) hb2
         try go_wp2_with fail
         refine hK.out _ _ (HK.out _ hBc) (λyb=>?_)
         clear hK K
         try simp only[Act.put,sA,s0,sS]
         refine tY 6 ztu (.bool false) yb ?_;refine tY 7 zto (.bool false) yb ?_;refine tY 8 ztx (.slice (some ⟨fb,foff,none⟩) x.fs.length x.fc) yb ?_;refine tY 9 ztr (.int .i64 i) yb ?_;refine tY 10 znf (.slice (some ⟨fb,foff,none⟩) i x.fc) yb ?_;refine tY 11 zmz (.slice (some ⟨fb,foff,none⟩) x.fs.length x.fc) yb ?_;refine tY 12 zng (.int .i64 i) yb ?_;refine tY 13 zne (.pointer (some ⟨fb,foff+i,none⟩)) yb ?_;refine tY 14 znd (.int .i64 y) yb ?_;refine wpAnyH_ready (rs:=[15]) (by kernel_rfl) (by simp) ?_
         refine AllReadyH.cons (o:=zmS) rfl (λK hK=>?_) AllReadyH.nil
         go_simp
         refine (HHs.out _ hBc).mono ?_;rintro e wz ⟨rfl,hz⟩;subst wz
         try go_wp2_with fail
         refine hK.out _ _ (HK.out _ hBc) (λyb=>?_)
         clear hK K
         try simp only[Act.put,sA,s0,sS]
         refine tY 16 zmB (.bool true) yb ?_;refine wpAnyH_done (by kernel_rfl) ?_ _
         have HBe:Hid (Below w0.heap.size w0 w2):=zaa HB.out hBc;clear hBc hb2;go_wp2_with fail
         go_ret;exact⟨zab (by rw[HBad.out];simp),zaa HB0.out HBe.out⟩
        | false =>
         have HY2:Hid (FcOk g x.fs (i+1)):=HY.out rfl rfl;clear HY HN1 HN2;refine wp_region_held_drew (S:=(λW=>W.cell? ⟨w.heap.size,0,none⟩=some (.slice (some ⟨tb,off,none⟩) g.ts.length g.tc)/\W.cell? ⟨w.heap.size,1,none⟩=some (.slice g.fa g.fs.length g.fc)/\W.cell? ⟨w.heap.size,2,none⟩=some (.slice g.ma g.ms.length g.mc)/\W.cell? ⟨w.heap.size,3,none⟩=some (.int .i64 g.en)/\W.cell? ⟨fb,foff+i,none⟩=some (.int .i64 y))) (by kernel_rfl) (HK.out _ (zad _)) (λyb=>?_)
         refine tY 0 ztn (.agg #[.slice (some ⟨tb,off,none⟩) g.ts.length g.tc,.slice g.fa g.fs.length g.fc,.slice g.ma g.ms.length g.mc,.int .i64 g.en]) yb ?_;refine tY 1 ztq (.slice (some ⟨fb,foff,none⟩) x.fs.length x.fc) yb ?_;refine tY 2 ztt (.int .i64 i) yb ?_;refine tY 3 ztv (.pointer (some ⟨fb,foff+i,none⟩)) yb ?_;refine tY 4 ztm (.int .i64 y) yb ?_;refine wpAnyH_ready (rs:=[5]) (by kernel_rfl) (by simp) ?_
         refine AllReadyH.cons (o:=zts) rfl (λK hK=>?_) AllReadyH.nil
         go_simp
         refine (HKy.out _ (zad _)).mono ?_;rintro e w2 ⟨rfl,hb2⟩;have hBc:Below wr.heap.size wr w2:=zaa (zad _) hb2
         try go_wp2_with fail
         refine hK.out _ _ (HK.out _ hBc) (λyb=>?_)
         clear hK K
         try simp only[Act.put,sA,s0,sS]
         refine tY 6 ztu (.bool false) yb ?_;refine tY 7 zto (.bool false) yb ?_;refine tY 8 ztx (.slice (some ⟨fb,foff,none⟩) x.fs.length x.fc) yb ?_;refine tY 9 ztr (.int .i64 i) yb ?_;refine tY 10 znf (.slice (some ⟨fb,foff,none⟩) i x.fc) yb ?_;refine tY 11 zmz (.slice (some ⟨fb,foff,none⟩) x.fs.length x.fc) yb ?_;refine tY 12 zng (.int .i64 i) yb ?_;refine tY 13 zne (.pointer (some ⟨fb,foff+i,none⟩)) yb ?_;refine tY 14 znd (.int .i64 y) yb ?_;refine wpAnyH_ready (rs:=[15]) (by kernel_rfl) (by simp) ?_
         refine AllReadyH.cons (o:=zmS) rfl (λK hK=>?_) AllReadyH.nil
         go_simp
         refine (HHs.out _ hBc).mono ?_;rintro e wz ⟨rfl,hz⟩;subst wz
         try go_wp2_with fail
         refine hK.out _ _ (HK.out _ hBc) (λyb=>?_)
         clear hK K
         try simp only[Act.put,sA,s0,sS]
         refine tY 16 zmB (.bool false) yb ?_;refine wpAnyH_done (by kernel_rfl) ?_ _
         have HBe:Hid (Below w0.heap.size w0 w2):=zaa HB.out hBc;clear hBc hb2 e0 e1 e2 e3 e4;go_wp2_with fail
         go_roundw
         case rel=>exact⟨i+1,by omega,by go_num,HBe.out,HY2.out⟩
         case measure=>simp[intOf];omega
       ·have hkb:(kv != 2)=true:=by simpa using hk2
        have HBad:Hid (zcd g (q:Int)=false):=HN1.out hk2;clear HY HN1 HN2;refine wp_region_held_drew (S:=(λW=>W.cell? ⟨w.heap.size,0,none⟩=some (.slice (some ⟨tb,off,none⟩) g.ts.length g.tc)/\W.cell? ⟨w.heap.size,1,none⟩=some (.slice g.fa g.fs.length g.fc)/\W.cell? ⟨w.heap.size,2,none⟩=some (.slice g.ma g.ms.length g.mc)/\W.cell? ⟨w.heap.size,3,none⟩=some (.int .i64 g.en)/\W.cell? ⟨fb,foff+i,none⟩=some (.int .i64 y))) (by kernel_rfl) (HK.out _ (zad _)) (λyb=>?_)
        refine tY 0 ztn (.agg #[.slice (some ⟨tb,off,none⟩) g.ts.length g.tc,.slice g.fa g.fs.length g.fc,.slice g.ma g.ms.length g.mc,.int .i64 g.en]) yb ?_;refine tY 1 ztq (.slice (some ⟨fb,foff,none⟩) x.fs.length x.fc) yb ?_;refine tY 2 ztt (.int .i64 i) yb ?_;refine tY 3 ztv (.pointer (some ⟨fb,foff+i,none⟩)) yb ?_;refine tY 4 ztm (.int .i64 y) yb ?_;refine wpAnyH_ready (rs:=[5]) (by kernel_rfl) (by simp) ?_
        refine AllReadyH.cons (o:=zts) rfl (λK hK=>?_) AllReadyH.nil
        go_simp
        refine (HKy.out _ (zad _)).mono ?_;rintro e w2 ⟨rfl,hb2⟩;have hBc:Below wr.heap.size wr w2:=zaa (zad _) hb2
        try go_wp2_with fail
        refine hK.out _ _ (HK.out _ hBc) (λyb=>?_)
        clear hK K
        try simp only[Act.put,sA,s0,sS]
        refine tY 6 ztu (.bool true) yb ?_;refine tY 7 zto (.bool true) yb ?_;refine tN 8 ztx yb ?_;refine tN 9 ztr yb ?_;refine tN 10 znf yb ?_;refine tN 11 zmz yb ?_;refine tN 12 zng yb ?_;refine tN 13 zne yb ?_;refine tN 14 znd yb ?_;refine tN 15 zmS yb ?_;refine tY 16 zmB (.bool true) yb ?_;refine wpAnyH_done (by kernel_rfl) ?_ _
        have HBe:Hid (Below w0.heap.size w0 w2):=zaa HB.out hBc;clear hBc hb2;go_wp2_with fail
        go_ret;exact⟨zab (by rw[HBad.out];simp),zaa HB0.out HBe.out⟩
      ·have hii:¬ (i:Int)<(x.fs.length:Int):=by omega
       have HFE:Hid (zcd g (q:Int)=(decide (zag g (q:Int)≠2)||!(zau g.ts.length (fsI g) (fsI g (q:Int))).contains (q:Int))):=by show _=_;rw[HFQ.out];exact zlS (by omega) HF.out
       obtain⟨e0,e1,e2,e3⟩:=HC4.out wr HB.out;go_wp2_with fail
       refine Calls.mono (HKd.out _ _ HB.out) ?_;rintro e w4 ⟨rfl,hb4⟩;have HB4:Hid (Below w0.heap.size w0 w4):=zaa HB.out hb4;clear hb4 e0 e1 e2 e3;by_cases hk2:zag g (q:Int)=2
       ·rw[hk2];have HFc:Hid (zeq (zbj g (q:Int)) g.ts.length=zeq (zau g.ts.length (fsI g) (fsI g (q:Int))) g.ts.length):=HF2.out hk2;have HFE2:Hid (zcd g (q:Int)=!(zau g.ts.length (fsI g) (fsI g (q:Int))).contains (q:Int)):=by show _=_;rw[HFE.out,hk2];simp
        clear hk2;obtain⟨e0,e1,e2,e3⟩:=HC4.out w4 HB4.out;go_wp2_with fail
        refine Calls.mono (HFs.out w4 HB4.out) ?_;rintro e w5 ⟨fv,rfl,hf,hb5⟩;have HB5:Hid (Below w0.heap.size w0 w5):=zaa HB4.out hb5;have HHq:Hid (Calls Tryz.prog 74 #[fv,.int .i64 q] w5 λe w'=>e=.returned (.bool ((zau g.ts.length (fsI g) (fsI g (q:Int))).contains (q:Int)))/\w'=w5):=by
         have:=zaM hf.is (q:Int)
         rwa [HFc.out,zg6 (zcx _ _ _)]at this
        clear hf hb5 e0 e1 e2 e3;generalize (zau g.ts.length (fsI g) (fsI g (q:Int))).contains (q:Int)=r at *;go_wp2_with fail
        refine Calls.mono HHq.out ?_;rintro e wz ⟨rfl,hz⟩;subst wz;go_wp2_with fail
        go_ret;exact⟨zab (by rw[HX.out,HFE2.out];rfl),zaa HB0.out HB5.out⟩
       ·have hkb:(zag g (q:Int) != 2)=true:=by simpa using hk2
        have HFE2:Hid (zcd g (q:Int)=true):=by show _=_;rw[HFE.out,decide_eq_true hk2];rfl
        clear hk2;generalize zag g (q:Int)=kq at *;go_wp2_with fail
        go_ret;exact⟨zab (by rw[HX.out,HFE2.out];rfl),zaa HB0.out HB4.out⟩
    ·have hge:0<=ez:=by rcases hexz with h | h;exact absurd h hez;exact (zai.1 h).1
     have HBad:Hid (zb5 g (q:Int)=false):=by show _=_;rw[HE4.out,decide_eq_false hez]
     clear hez HE4 hexz;go_wp2_with fail
     go_quiet (fail)
     go_wp2_with fail
     go_ret;exact⟨zab (by rw[HBad.out];rfl),zaa HB0.out (Below.drewN HB2.out _)⟩
  ·have hkb:(kv != 0)=true:=by simpa using hk0
   have HBad:Hid (zb5 g (q:Int)=false):=by show _=_;rw[HE.out,decide_eq_false hk0];rfl
   clear hk0 HE;go_wp2_with fail
   go_ret;exact⟨zab (by rw[HBad.out];rfl),zaa HB0.out HB1.out⟩
end Go.Proofs.YtkedhjdipnhgdaaGreat
