import Derived.Test.YtkedhjdipnhgdaaGreatR32
import Derived.Test.YtkedhjdipnhgdaaGreatR33
import Derived.Test.YtkedhjdipnhgdaaGreatR30
import Derived.Test.YtkedhjdipnhgdaaGreatR31
namespace Go.Proofs.YtkedhjdipnhgdaaGreat
set_option maxHeartbeats 16000000
set_option linter.all false
open RowKit
attribute [local go_sem ↓] wp_at_zero wp_at_succ
theorem zg5 {L:List Int} {p:Int->Bool} {j:Nat} (hj:j<L.length):(L.take (j+1)).filter p=(L.take j).filter p ++ (if p L[j]=true then [L[j]] else []):=by
 rw[List.take_succ_eq_append_getElem hj,List.filter_append]
 congr 1
 cases h:p L[j] <;> simp[List.filter_cons,h]
theorem zoU {L:List Int} {p:Int->Bool} (h:L.any p=false):L.filter (λx=>!p x)=L:=by
 rw[List.filter_eq_self];intro x hx;rw[List.any_eq_false]at h;simp[h x hx]
theorem zoH {L:List Int} {p:Int->Bool} {q:Nat} (hq:q<L.length) (h:(L.take q).any p=false) (hp:p L[q]=true):(L.take (q+1)).filter (λx=>!p x)=L.take q:=by
 rw[zg5 hq,zoU h,hp];simp
theorem ziO {w0 w:World} {v:Value} {L:List Int} {f:FuncId} {bs cs:Array Value} {p:Int->Bool} (h:OwnI w w0.heap.size v L) (hb:Below w0.heap.size w0 w) (hf:Tells Tryz.prog zew w0 f bs cs p L) (hl:L.length<=100000) :
 Calls Tryz.prog 79 #[v,.func (.func f) bs cs] w λe w'=>∃ v',e=.returned v'/\OwnI w' w0.heap.size v' (L.filter (λx=>!p x))/\Below w0.heap.size w0 w':=by
 have hen:=hf.enter;have HIx:Hid (Calls Tryz.prog 99 #[v,.func (.func f) bs cs] w λe w'=>e=.returned (.int .i64 (zdg p L))/\Below w.heap.size w w'):=zea h.is (hf.later hb)
 have HF:Hid (Tells Tryz.prog zew w0 f bs cs p L):=hf;have HB:Hid (Below w0.heap.size w0 w):=hb
 rcases zfm p L with ⟨hk,hany⟩ | ⟨q,hq,hk,hpq,hany⟩
 ·rw[hk]at HIx;have HO:Hid (OwnI w w0.heap.size v L):=h;have HL:Hid (L.filter (λx=>!p x)=L):=zoU hany
  obtain⟨sa,sc,hv,_,_⟩:=h.is.shape;subst hv;clear hk hany h hf hb hen;go_enter Tryz.func79,Tryz.ntmps79;go_wp2_with fail
  refine Calls.mono HIx.out ?_;rintro e w1 ⟨rfl,hb1⟩;have HO1:Hid (OwnI w1 w0.heap.size (.slice sa L.length sc) L):=HO.out.later hb1;have HB1:Hid (Below w0.heap.size w0 w1):=zaa HB.out hb1;clear hb1;go_wp2_with fail
  go_ret;exact⟨_,rfl,by rw[HL.out];exact HO1.out,HB1.out⟩
 ·rw[hk]at HIx;have HFst:Hid (((L.take (q+1)).filter (λx=>!p x))=L.take q):=zoH hq hany hpq
  obtain⟨g,cap,hv,hrow,hg0,hgs,hlc,hcm⟩:=IRow.of h (by intro e;rw[e]at hq;simp at hq)
  subst hv;unfold maxLen at hcm;have HR:Hid (IRow w w0.heap.size g cap L):=hrow;have HG0:Hid (w0.heap.size<=g):=hg0;have hqi:((q:Int) == -1)=false:=by rw[beq_eq_false_iff_ne];omega
  clear hk hany h hf hb hrow hpq hgs hg0;go_enter Tryz.func79,Tryz.ntmps79;go_wp2_with fail
  refine Calls.mono HIx.out ?_;rintro e w1 ⟨rfl,hb1⟩;have HR1:Hid (IRow w1 w0.heap.size g cap L):=HR.out.later hb1;have HB1:Hid (Below w0.heap.size w0 w1):=zaa HB.out hb1;clear hb1 HIx;go_wp2_with fail
  go_loopw [5,6,7] (λz5 z6 _ wr=>∃ (j kk:Nat) (A:List Int),j<=L.length/\kk<j/\z6=.int .i64 (j:Int)/\z5=.int .i64 (kk:Int)/\Hid (IRow wr w0.heap.size g cap A)/\Hid (Below w0.heap.size w0 wr)/\Hid (A.length=L.length/\A.take kk=(L.take j).filter (λx=>!p x)/\kk=((L.take j).filter (λx=>!p x)).length/\A.drop j=L.drop j)) (λ_ z _ _=>L.length - (intOf z).toNat)
  case atStart=>exact⟨q+1,q,L,by omega,by omega,by go_num,rfl,HR1.out,HB1.out,rfl,HFst.out.symm,by rw[HFst.out,List.length_take];omega,rfl⟩
  case round =>
   obtain⟨j,kk,A,hj,hkj,rfl,rfl,HRw,HBw,HI⟩:=hrel;obtain⟨i1,i2,i3,i4⟩:=HI.out;by_cases hjl:j<L.length
   ·have hji:(j:Int)<(L.length:Int):=by omega
    have hjA:j<A.length:=by omega
    have gx:A[j]=L[j]:=by
     have:=congrArg (λt=>t[0]?) i4
     simp only[List.getElem?_drop,Nat.add_zero]at this;rw[List.getElem?_eq_getElem hjA,List.getElem?_eq_getElem hjl]at this;exact Option.some.inj this
    have cj:=HRw.out.cell j hjA;rw[gx]at cj;have HDt:Hid ((L.take (j+1)).filter (λx=>!p x)=(L.take j).filter (λx=>!p x) ++ (if (!p L[j])=true then [L[j]] else [])):=zg5 hjl
    have HDr:Hid (A.drop (j+1)=L.drop (j+1)):=by
     show _=_;have:=congrArg (λt=>t.drop 1) i4
     simpa[List.drop_drop]using this
    have HTl:Hid (Calls Tryz.prog f (bs.push (zew L[j]) ++ cs) wr λe w'=>e=.returned (.bool (p L[j]))/\Below wr.heap.size wr w'):=HF.out.tells wr HBw.out _ (List.getElem_mem hjl)
    have hkA:kk<A.length:=by omega
    have hki:(kk:Int)<(L.length:Int):=by omega
    have HI1:Hid (A.length=L.length):=i1;have HI2:Hid (A.take kk=(L.take j).filter (λx=>!p x)):=i2
    have HI3:Hid (kk=((L.take j).filter (λx=>!p x)).length):=i3
    clear gx i1 i2 i3 i4 HI;generalize L[j]=x at *
    cases hpx:p x with
    | true =>
     have HDe:Hid ((L.take (j+1)).filter (λx=>!p x)=(L.take j).filter (λx=>!p x)):=by show _=_;rw[HDt.out,hpx];simp
     rw[hpx]at HTl;clear hpx HDt hkA hjA;go_wp2_with fail
     refine Calls.mono HTl.out ?_;rintro e w2 ⟨rfl,hb2⟩;have HR2:Hid (IRow w2 w0.heap.size g cap A):=HRw.out.later hb2;have HB2:Hid (Below w0.heap.size w0 w2):=zaa HBw.out hb2;clear hb2 HTl cj;go_wp2_with fail
     go_roundw
     case rel=>exact⟨j+1,kk,A,by omega,by omega,by go_num,rfl,HR2.out,HB2.out,HI1.out,by rw[HDe.out];exact HI2.out,by rw[HDe.out];exact HI3.out,HDr.out⟩
     case measure=>simp[intOf];omega
    | false =>
     have HDe:Hid ((L.take (j+1)).filter (λx=>!p x)=(L.take j).filter (λx=>!p x) ++ [x]):=by show _=_;rw[HDt.out,hpx];simp
     rw[hpx]at HTl;clear hpx HDt;go_wp2_with fail
     refine Calls.mono HTl.out ?_;rintro e w2 ⟨rfl,hb2⟩;have HR2:Hid (IRow w2 w0.heap.size g cap A):=HRw.out.later hb2;have HB2:Hid (Below w0.heap.size w0 w2):=zaa HBw.out hb2;clear hb2 HTl cj;obtain⟨old,ck⟩:∃ old,w2.cell? ⟨g,kk,none⟩=some (.int .i64 old):=⟨_,HR2.out.cell kk hkA⟩;have hm:=HR2.out.melt;have HR3:Hid (IRow (w2.setCell ⟨g,kk,none⟩ (.int .i64 x)) w0.heap.size g cap (A.set kk x)):=HR2.out.set kk x;have HB3:Hid (Below w0.heap.size w0 (w2.setCell ⟨g,kk,none⟩ (.int .i64 x))):=HB2.out.setCell HG0.out _;have HF1:Hid ((A.set kk x).length=L.length):=by show _=_;rw[List.length_set];exact HI1.out
     have HF2:Hid ((A.set kk x).take (kk+1)=(L.take (j+1)).filter (λx=>!p x)):=by
      show _=_;rw[HDe.out,<- HI2.out,List.take_succ_eq_append_getElem (by rw[List.length_set];exact hkA),List.take_set_of_le (Nat.le_refl _)]
      simp
     have HF3:Hid (kk+1=((L.take (j+1)).filter (λx=>!p x)).length):=by show _=_;rw[HDe.out,List.length_append,<- HI3.out];rfl
     have HF4:Hid ((A.set kk x).drop (j+1)=L.drop (j+1)):=by
      show _=_;rw[List.drop_set_of_lt (by omega)]
      exact HDr.out
     clear hkA hjA;go_wp2_with fail
     go_roundw
     case rel=>exact⟨j+1,kk+1,A.set kk x,by omega,by omega,by go_num,by go_num,HR3.out,HB3.out,HF1.out,HF2.out,HF3.out,HF4.out⟩
     case measure=>simp[intOf];omega
   ·have hji:¬ (j:Int)<(L.length:Int):=by omega
    have hjf:j=L.length:=by omega
    have hdl:A.take kk=L.filter (λx=>!p x):=by rw[i2,hjf,List.take_length]
    have hkl:kk=(A.take kk).length:=by rw[List.length_take];omega
    have hkk:kk<L.length:=by omega
    have hki:(kk:Int)<=(L.length:Int):=by omega
    have HEs:Hid (Es zch wr (.slice (some ⟨g,0,none⟩) L.length cap) A):=by
     have:=(show OwnI wr w0.heap.size (.slice (some ⟨g,0,none⟩) A.length cap) A from HRw.out).is.toEs
     rw[i1]at this;exact this
    obtain⟨a3,ca3,hs3',_,_,ha3⟩:=zcZ (P:=Tryz.prog) (show Es zch wr (.slice (some ⟨g,0,none⟩) A.length cap) A by rw[i1];exact HEs.out) kk (by omega) 40 3 Tryz.underlying40 (by kernel_rfl)
    obtain rfl:=ha3 g 0 rfl (by omega)
    have hs3:∀ (W:World) (k:IntKind),(Instr.slice 40 (.slice (some ⟨g,0,none⟩) L.length cap) (some (.int k (kk:Int))) none none).run Tryz.prog W=.ok (.slice (some ⟨g,kk,none⟩) (L.length - kk) ca3) W:=λW k=>by
     have:=hs3' W k;rw[i1]at this;rw[this];have h0:0+kk * zch.size=kk:=by rw[Nat.zero_add];exact Nat.mul_one kk
     rw[h0]
    obtain⟨wc,hcl,hrc,hbc⟩:=HRw.out.cleared kk (L.length - kk) ca3 (by omega) (by omega)
    have HG1:Hid (OwnI wc w0.heap.size (.slice (some ⟨g,0,none⟩) kk cap) (L.filter (λx=>!p x))):=by
     have:OwnI wc w0.heap.size (.slice (some ⟨g,0,none⟩) (A.take kk).length cap) (A.take kk):=hrc;rw[<- hkl,hdl]at this;exact this
    have HG2:Hid (Below w0.heap.size w0 wc):=HBw.out.trans hbc;have hs4:∀ (W:World) (k:IntKind),(Instr.slice 40 (.slice (some ⟨g,0,none⟩) L.length cap) none (some (.int k (kk:Int))) none).run Tryz.prog W=.ok (.slice (some ⟨g,0,none⟩) kk cap) W:=by
     have:=(zb0 (P:=Tryz.prog) (show Es zch wr (.slice (some ⟨g,0,none⟩) A.length cap) A by rw[i1];exact HEs.out) kk (by omega) 40 3 Tryz.underlying40 (by kernel_rfl)).1
     rw[i1]at this;exact this
    clear hrc hbc hs3' ha3 hdl hkl hjf i1 i2 i3 i4 HI HEs hkk;go_wp2_with fail
    go_ret;exact⟨_,rfl,HG1.out,HG2.out⟩
def Im4 (W:World) (b:Nat) (g:Img):Prop:=W.cell? ⟨b,0,none⟩=some (.slice g.ta g.ts.length g.tc)/\W.cell? ⟨b,1,none⟩=some (.slice g.fa g.fs.length g.fc)/\W.cell? ⟨b,2,none⟩=some (.slice g.ma g.ms.length g.mc)/\W.cell? ⟨b,3,none⟩=some (.int .i64 g.en)
theorem zaG {w:World} {g:Img} (hg:Im w g):∃ w0,Hid (w0=w.alloc (.cells #[.slice g.ta g.ts.length g.tc,.slice g.fa g.fs.length g.fc,.slice g.ma g.ms.length g.mc,.int .i64 g.en] 26))/\Hid (Below w.heap.size w w0)/\Hid (GB w0 w.heap.size g)/\Hid (∀ W,Below w0.heap.size w0 W->Im4 W w.heap.size g)/\Hid (∀ W,Below w0.heap.size w0 W->Im W g)/\Im4 w0 w.heap.size g:=by
 obtain⟨w0,hw0⟩:∃ W,W=w.alloc (.cells (imC g) 26):=⟨_,rfl⟩;obtain⟨hb0,hgb⟩:=GB.made hg hw0;exact⟨w0,hw0,hb0,hgb,λW hW=>(hgb.later hW).cells,λW hW=>hgb.im.later hW,hgb.cells⟩
theorem zaO {w:World} {g:Img} (hg:Im w g) (t:Ty):∃ w0,Hid (w0=(w.alloc (.cells #[.slice g.ta g.ts.length g.tc,.slice g.fa g.fs.length g.fc,.slice g.ma g.ms.length g.mc,.int .i64 g.en] 26)).alloc (.cells #[.int .i64 t.1,.int .i64 t.2.1,.int .i64 t.2.2.1,.bool t.2.2.2] 47))/\Hid (Below w.heap.size w w0)/\Hid (∀ W,Below w0.heap.size w0 W->Im4 W w.heap.size g/\(W.cell? ⟨w.heap.size+1,0,none⟩=some (.int .i64 t.1)/\W.cell? ⟨w.heap.size+1,1,none⟩=some (.int .i64 t.2.1)/\W.cell? ⟨w.heap.size+1,2,none⟩=some (.int .i64 t.2.2.1)/\W.cell? ⟨w.heap.size+1,3,none⟩=some (.bool t.2.2.2)))/\Hid (∀ W,Below w0.heap.size w0 W->Im W g):=by
 obtain⟨w0,hw0⟩:∃ W,W=(w.alloc (.cells (imC g) 26)).alloc (.cells (tyA t) 47):=⟨_,rfl⟩;obtain⟨hb0,hat⟩:=zan hw0;refine⟨w0,hw0,hb0,λW hW=>⟨?_, ?_⟩,λW hW=>(hg.later hb0).later hW⟩
 ·have h:=(hat W hW).1;exact⟨h.cell 0,h.cell 1,h.cell 2,h.cell 3⟩
 ·have h:=(hat W hW).2;exact⟨h.cell 0,h.cell 1,h.cell 2,h.cell 3⟩
abbrev Ans (f:FuncId) (xs:Array Value) (W:World) (v:Value):Prop:=Calls Tryz.prog f xs W λe w'=>e=.returned v/\Below W.heap.size W w'
def zao (g:Img):Value:=.agg #[.slice g.ta g.ts.length g.tc,.slice g.fa g.fs.length g.fc,.slice g.ma g.ms.length g.mc,.int .i64 g.en]
theorem zeh (t:Ty) (w:World):Ans 97 #[.agg #[.int .i64 t.1,.int .i64 t.2.1,.int .i64 t.2.2.1,.bool t.2.2.2]] w (.bool (zcP t)):=by
 obtain⟨k,i,d,r⟩:=t;go_enter Tryz.func97,Tryz.ntmps97;go_wp2
 all_goals go_ret
 all_goals refine⟨zab ?_,zac _ _ _⟩
 all_goals try simp only[beq_iff_eq,beq_eq_false_iff_ne,ne_eq]at *
 all_goals (rw[Bool.eq_iff_iff];cases r <;> first | contradiction | (simp[zcP] <;> omega))
theorem zih {g:Img} {t:Ty} (h:plainT t=false):zaw g t=false:=by unfold zaw;rw[h];rfl
theorem zhU {g:Img} {t:Ty} (h:plainT t=true) (h5:t.1=5):zaw g t=(decide (zag g t.2.1≠-1)&&decide (zag g t.2.1≠1)):=by unfold zaw;rw[h,if_pos h5];rfl
theorem zeS {g:Img} {t:Ty} (h:plainT t=true) (h6:t.1=6):zaw g t=decide (zag g t.2.1=1):=by unfold zaw;rw[h,if_neg (by omega),if_pos h6];rfl
theorem zlF {g:Img} {t:Ty} (h:plainT t=true) (h5:t.1≠5) (h6:t.1≠6):zaw g t=true:=by unfold zaw;rw[h,if_neg h5,if_neg h6];rfl
theorem zd7 {g:Img} (t:Ty) {w:World} (hg:Im w g) (hi:imB g=true):Ans 64 #[imV g,.agg #[.int .i64 t.1,.int .i64 t.2.1,.int .i64 t.2.2.1,.bool t.2.2.2]] w (.bool (zaw g t)):=by
 obtain⟨w0,HW0,HB0,HC,HI⟩:=zaO hg t;have HP:Hid (Ans 88 #[.agg #[.int .i64 t.1,.int .i64 t.2.1,.int .i64 t.2.2.1,.bool t.2.2.2]] w0 (.bool (plainT t))):=ziI t.1 t.2.1 t.2.2.1 t.2.2.2 w0;have HK:Hid (∀ W,Below w0.heap.size w0 W->Ans 16 #[zao g,.int .i64 t.2.1] W (.int .i64 (zag g t.2.1))):=λW hW=>zaQ t.2.1 (HI.out W hW) (FlOk.of hi)
 have HU1:Hid (plainT t=false->zaw g t=false):=zih;have HU2:Hid (plainT t=true->t.1=5->zaw g t=(decide (zag g t.2.1≠-1)&&decide (zag g t.2.1≠1))):=zhU;have HU3:Hid (plainT t=true->t.1=6->zaw g t=decide (zag g t.2.1=1)):=zeS;have HU4:Hid (plainT t=true->t.1≠5->t.1≠6->zaw g t=true):=zlF;obtain⟨⟨c0,c1,c2,c3⟩,d0,d1,d2,d3⟩:=HC.out w0 (Below.refl _ _);unfold zao at HK;clear hg hi;unfold imV;generalize zag g t.2.1=kn at *;generalize plainT t=pl at *;generalize zaw g t=F at *;obtain⟨k,i,d,r⟩:=t;simp only at *;go_enter Tryz.func64,Tryz.ntmps64;go_wp2_with (rw[<- HW0.out])
 refine Calls.mono HP.out ?_;rintro e w1 ⟨rfl,hb1⟩;have HB1:Hid (Below w0.heap.size w0 w1):=hb1;clear hb1 c0 c1 c2 c3 d0 d1 d2 d3 HP;obtain⟨⟨c0,c1,c2,c3⟩,d0,d1,d2,d3⟩:=HC.out w1 HB1.out
 cases pl with
 | false =>
  have HR:Hid (F=false):=HU1.out rfl;go_wp2_with fail
  go_ret;exact⟨zab HR.out.symm,zaa HB0.out HB1.out⟩
 | true =>
  by_cases h5:k=5
  ·subst h5;have HR:Hid (F=(decide (kn≠-1)&&decide (kn≠1))):=HU2.out (by trivial) rfl
   go_wp2_with fail
   refine Calls.mono (HK.out w1 HB1.out) ?_;rintro e w2 ⟨rfl,hb2⟩;have HB2:Hid (Below w0.heap.size w0 w2):=zaa HB1.out hb2;clear hb2;go_wp2
   all_goals go_ret
   all_goals refine⟨zab ?_,zaa HB0.out HB2.out⟩
   all_goals (rw[HR.out,Bool.eq_iff_iff];simp;try omega)
  ·have e5:(k==5)=false:=by simpa using h5
   by_cases h6:k=6
   ·subst h6;have HR:Hid (F=decide (kn=1)):=HU3.out (by trivial) rfl
    go_wp2_with fail
    refine Calls.mono (HK.out w1 HB1.out) ?_;rintro e w2 ⟨rfl,hb2⟩;have HB2:Hid (Below w0.heap.size w0 w2):=zaa HB1.out hb2;clear hb2;go_wp2
    all_goals go_ret
    all_goals refine⟨zab ?_,zaa HB0.out HB2.out⟩
    all_goals (rw[HR.out,Bool.eq_iff_iff];simp)
   ·have e6:(k==6)=false:=by simpa using h6
    have HR:Hid (F=true):=HU4.out (by trivial) h5 h6
    clear h5 h6;go_wp2_with fail
    go_ret;exact⟨zab HR.out.symm,zaa HB0.out HB1.out⟩
theorem zfn {g:Img} (t:Ty) {w:World} (hg:Im w g) (hi:imB g=true):Ans 47 #[imV g,.agg #[.int .i64 t.1,.int .i64 t.2.1,.int .i64 t.2.2.1,.bool t.2.2.2]] w (.bool (zaw g t)):=by
 obtain⟨w0,HW0,HB0,HC,HI⟩:=zaO hg t;have HP:Hid (Ans 75 #[.agg #[.int .i64 t.1,.int .i64 t.2.1,.int .i64 t.2.2.1,.bool t.2.2.2]] w0 (.bool (plainT t))):=zbR t.1 t.2.1 t.2.2.1 t.2.2.2 w0;have HK:Hid (∀ W,Below w0.heap.size w0 W->Ans 23 #[zao g,.int .i64 t.2.1] W (.int .i64 (zag g t.2.1))):=λW hW=>zaF t.2.1 (HI.out W hW) (FlOk.of hi)
 have HU1:Hid (plainT t=false->zaw g t=false):=zih;have HU2:Hid (plainT t=true->t.1=5->zaw g t=(decide (zag g t.2.1≠-1)&&decide (zag g t.2.1≠1))):=zhU;have HU3:Hid (plainT t=true->t.1=6->zaw g t=decide (zag g t.2.1=1)):=zeS;have HU4:Hid (plainT t=true->t.1≠5->t.1≠6->zaw g t=true):=zlF;have HK4:zag g t.2.1=0∨zag g t.2.1=2∨zag g t.2.1=1∨zag g t.2.1=3∨zag g t.2.1 = -1:=by
  unfold zag
  split
  ·rcases zbp (flI g t.2.1) with h | h | h | h <;> simp[h]
  ·simp
 obtain⟨⟨c0,c1,c2,c3⟩,d0,d1,d2,d3⟩:=HC.out w0 (Below.refl _ _);unfold zao at HK;clear hg hi;unfold imV;generalize zag g t.2.1=kn at *;generalize plainT t=pl at *;generalize zaw g t=F at *;obtain⟨k,i,d,r⟩:=t;simp only at *;go_enter Tryz.func47,Tryz.ntmps47;go_wp2_with (rw[<- HW0.out])
 refine Calls.mono HP.out ?_;rintro e w1 ⟨rfl,hb1⟩;have HB1:Hid (Below w0.heap.size w0 w1):=hb1;clear hb1 c0 c1 c2 c3 d0 d1 d2 d3 HP;obtain⟨⟨c0,c1,c2,c3⟩,d0,d1,d2,d3⟩:=HC.out w1 HB1.out
 cases pl with
 | false =>
  have HR:Hid (F=false):=HU1.out rfl;go_wp2_with fail
  go_ret;exact⟨zab HR.out.symm,zaa HB0.out HB1.out⟩
 | true =>
  go_wp2_with fail
  refine Calls.mono (HK.out w1 HB1.out) ?_;rintro e w2 ⟨rfl,hb2⟩;have HB2:Hid (Below w0.heap.size w0 w2):=zaa HB1.out hb2;clear hb2 c0 c1 c2 c3 d0 d1 d2 d3;obtain⟨⟨c0,c1,c2,c3⟩,d0,d1,d2,d3⟩:=HC.out w2 HB2.out;by_cases h5:k=5
  ·subst h5;have HR:Hid (F=(decide (kn≠-1)&&decide (kn≠1))):=HU2.out (by trivial) rfl
   rcases HK4 with rfl | rfl | rfl | rfl | rfl
   all_goals go_wp2
   all_goals go_ret
   all_goals exact⟨zab (by rw[HR.out];rfl),zaa HB0.out HB2.out⟩
  ·have e5:(k==5)=false:=by simpa using h5
   by_cases h6:k=6
   ·subst h6;have HR:Hid (F=decide (kn=1)):=HU3.out (by trivial) rfl
    go_wp2
    all_goals go_ret
    all_goals refine⟨zab ?_,zaa HB0.out HB2.out⟩
    all_goals (rw[HR.out,Bool.eq_iff_iff];simp)
   ·have e6:(k != 6)=true:=by simpa using h6
    have HR:Hid (F=true):=HU4.out (by trivial) h5 h6
    clear h5 h6;go_wp2
    all_goals go_ret
    all_goals exact⟨zab HR.out.symm,zaa HB0.out HB2.out⟩
structure TellsAp (P:Program) (w:World) (f:FuncId) (bs cs:Array Value) (ap:Int->Int->Bool) (l:List Int):Prop where
 enter:∀ args W,(callFunc f args).run P W=.ok (.enter f args) W
 tells:∀ W,Below w.heap.size w W->∀ x∈l,∀ y∈l,Calls P f (bs ++ (#[.int .i64 x,.int .i64 y] ++ cs)) W λe w'=>e=.returned (.bool (ap x y))/\Below W.heap.size W w'
theorem TellsAp.later {P:Program} {w w':World} {f:FuncId} {bs cs:Array Value} {ap:Int->Int->Bool} {l:List Int} (h:TellsAp P w f bs cs ap l) (hb:Below w.heap.size w w'):TellsAp P w' f bs cs ap l:=
 ⟨h.enter,λW hW x hx y hy=>h.tells W (zaa hb hW) x hx y hy⟩
theorem zkJ {x y:Int} {fb ab:Nat} {w:World} {f:FuncId} {bs cs:Array Value} {r:Bool} (hf:w.cell? ⟨fb,0,none⟩=some (.func (.func f) bs cs)) (ha:w.cell? ⟨ab,0,none⟩=some (.int .i64 x))
 (hen:∀ args W,(callFunc f args).run Tryz.prog W=.ok (.enter f args) W) (hc:Calls Tryz.prog f (bs ++ (#[.int .i64 x,.int .i64 y] ++ cs)) w λe w'=>e=.returned (.bool r)/\Below w.heap.size w w') :
 Calls Tryz.prog 200 #[.int .i64 y,.pointer (some ⟨fb,0,none⟩),.pointer (some ⟨ab,0,none⟩)] w λe w'=>e=.returned (.bool (!r))/\Below w.heap.size w w':=by
 have HC:Hid (Calls Tryz.prog f (bs ++ (#[.int .i64 x,.int .i64 y] ++ cs)) w λe w'=>e=.returned (.bool r)/\Below w.heap.size w w'):=hc
 clear hc;go_enter Tryz.func200,Tryz.ntmps200;go_wp2_with fail
 refine Calls.mono HC.out ?_;rintro e w1 ⟨rfl,hb1⟩;have HB1:Hid (Below w.heap.size w w1):=hb1;clear hb1;go_wp2_with fail
 go_ret;exact⟨rfl,HB1.out⟩
theorem zc5 {α:Type} (p:α->Bool) (l:List α):(l.any λy=>!p y)=!(l.all p):=by
 induction l with
 | nil=>rfl
 | cons a r ih=>simp[ih]
theorem zdT {v:Value} {l:List Int} {w:World} {f:FuncId} {bs cs:Array Value} {ap:Int->Int->Bool} (hl:Is w v l) (hf:TellsAp Tryz.prog w f bs cs ap l) :
 Calls Tryz.prog 161 #[v,.func (.func f) bs cs] w λe w'=>e=.returned (.bool (zcE ap l))/\Below w.heap.size w w':=by
 obtain⟨w0,hw0⟩:∃ W,W=w.alloc (.cells #[.func (.func f) bs cs] 86):=⟨_,rfl⟩;have HW0:Hid (w0=_):=hw0;have hb0:Below w.heap.size w w0:=by rw[hw0];exact zac _ _ _
 have HB0:Hid (Below w.heap.size w w0):=hb0;have hA:At w0 w.heap.size #[.func (.func f) bs cs] 86:=by rw[hw0];exact At.made w _ _
 have HA:Hid (∀ W,Below w0.heap.size w0 W->W.cell? ⟨w.heap.size,0,none⟩=some (.func (.func f) bs cs)/\w.heap.size<W.heap.size):=λW hW=>⟨(hA.later hW).cell0,(hA.later hW).lt⟩
 have HF:Hid (TellsAp Tryz.prog w0 f bs cs ap l):=hf.later hb0;have HD:Hid (zcE ap l=true↔∀ i (h:i<l.length),(l.take i).all (ap l[i])=true):=zdu;obtain⟨a,c,hv,h1,h2⟩:=hl.shape;have HI:Hid (∀ W,Below w0.heap.size w0 W->Is W (.slice a l.length c) l):=λW hW=>by
  have:=(hl.later hb0).later hW;rw[hv]at this;exact this
 subst hv;unfold maxLen at h2;clear hw0 hb0 hA hl hf;go_enter Tryz.func161,Tryz.ntmps161;go_wp2_with (rw[<- HW0.out])
 go_loopw [5,6,9] (λ_ _ z wr=>∃ q:Nat,q<=l.length/\z=.int .i64 q/\Hid (∀ i (h:i<l.length),i<q->(l.take i).all (ap l[i])=true)/\Hid (Below w0.heap.size w0 wr)) (λ_ _ z _=>l.length - (intOf z).toNat)
 case atStart=>exact⟨0,Nat.zero_le _,rfl,λi _ h=>absurd h (by omega),Below.refl _ _⟩
 case round =>
  obtain⟨q,hq,rfl,HO,HB⟩:=hrel;by_cases hql:q<l.length
  ·have hqi:(q:Int)<(l.length:Int):=by omega
   obtain⟨lb,loff,hla,hlb,_,h6,h7,hc⟩:=(HI.out wr HB.out).at hql;have cq:=hc q hql;obtain⟨w1,hw1⟩:∃ W,W=wr.alloc (.cells #[.int .i64 l[q]] 3):=⟨_,rfl⟩;have HW1:Hid (w1=_):=hw1;have hb1:Below wr.heap.size wr w1:=by rw[hw1];exact zac _ _ _
   have hA1:At w1 wr.heap.size #[.int .i64 l[q]] 3:=by rw[hw1];exact At.made _ _ _
   have HB1:Hid (Below w0.heap.size w0 w1):=zaa HB.out hb1;obtain⟨hs',hes⟩:=zb0 (P:=Tryz.prog) (HI.out w1 HB1.out).toEs q (by omega) 40 3 Tryz.underlying40 (by kernel_rfl)
   have HCo:Hid (Calls Tryz.prog 159 #[.slice a q c,.func (.func 200) #[] #[.pointer (some ⟨w.heap.size,0,none⟩),.pointer (some ⟨wr.heap.size,0,none⟩)]] w1 λe w'=>e=.returned (.bool ((l.take q).any λy=>!ap l[q] y))/\Below w1.heap.size w1 w'):=by
    refine zbd hes ⟨zah Tryz.func200 (by kernel_rfl) rfl,λW hW y hy=>?_⟩
    have hBW:Below w0.heap.size w0 W:=zaa HB1.out hW;have:=zkJ (w:=W) (y:=y) (HA.out W hBW).1 (hA1.later hW).cell0 HF.out.enter (HF.out.tells W hBW l[q] (List.getElem_mem hql) y (List.mem_of_mem_take hy));simpa[zew]using this
   have HN:Hid (((l.take q).any λy=>!ap l[q] y)=!((l.take q).all (ap l[q]))):=zc5 _ _
   have hs:∀ (W:World) (kk:IntKind),(Instr.slice 40 (.slice a l.length c) none (some (.int kk (q:Int))) none).run Tryz.prog W=.ok (.slice a q c) W:=λW kk=>hs' W kk
   subst hla;clear hc hw1 hb1 hA1 hs' hes;go_wp2_with (rw[<- HW1.out])
   refine Calls.mono HCo.out ?_;rintro e w2 ⟨rfl,hb2⟩;have HB2:Hid (Below w0.heap.size w0 w2):=zaa HB1.out hb2;rw[HN.out]
   cases hall:(l.take q).all (ap l[q]) with
   | false =>
    have HR:Hid (zcE ap l=false):=by
     show _=_
     cases hd:zcE ap l with
     | false=>rfl
     | true=>rw[HD.out.1 hd q hql]at hall;cases hall
    clear hall hb2 cq;go_wp2_with fail
    go_ret;exact⟨zab HR.out.symm,zaa HB0.out HB2.out⟩
   | true =>
    have HO2:Hid (∀ i (h:i<l.length),i<q+1->(l.take i).all (ap l[i])=true):=λi h hi=>by
     rcases Nat.lt_or_ge i q with h2 | h2
     ·exact HO.out i h h2
     ·obtain rfl:i=q:=by omega
      exact hall
    clear hall hb2 cq;go_wp2_with fail
    go_roundw
    case rel=>exact⟨q+1,by omega,by go_num,HO2.out,HB2.out⟩
    case measure=>simp[intOf];omega
  ·have hqi:¬ (q:Int)<(l.length:Int):=by omega
   have HR:Hid (zcE ap l=true):=HD.out.2 λi h=>HO.out i h (by omega)
   go_wp2_with fail
   go_ret;exact⟨zab HR.out.symm,zaa HB0.out HB.out⟩
set_option maxRecDepth 20000 in
theorem zdk {g:Img} {q:Nat} {f:FuncId} {bs cs:Array Value} {st:Int->List Int} {w:World} (hg:Im w g) (hi:imB g=true) (hq:q<g.ts.length) (hf:Steps Tryz.prog w f bs cs g.ts.length st) :
 Calls Tryz.prog 163 #[imV g,.int .i64 q,.func (.func f) bs cs] w λe w'=>e=.returned (.bool ((zau g.ts.length st (st (q:Int))).contains (q:Int)))/\Below w.heap.size w w':=by
 obtain⟨w0,hw0⟩:∃ W,W=w.alloc (.cells (imC g) 26):=⟨_,rfl⟩;have HW0:Hid (w0=_):=hw0;obtain⟨hb0,hgb⟩:=GB.made hg hw0;have HB0:Hid (Below w.heap.size w w0):=hb0;have hen:=hf.enter;have hqn:zam (q:Int) g.ts.length=true:=by rw[zai];omega
 have HSt:Hid (∀ W,Below w0.heap.size w0 W->Calls Tryz.prog f (bs.push (.int .i64 (q:Int)) ++ cs) W λe w'=>∃ v,e=.returned v/\Is w' v (st (q:Int))/\Below W.heap.size W w'):=λW hW=>((hf.later hb0).steps W hW (q:Int) hqn).mono λe w' ⟨v,h1,h2,h3,_⟩=>⟨v,h1,h2,h3⟩
 have HGo:Hid (∀ W v,Below w0.heap.size w0 W->Is W v (st (q:Int))->Calls Tryz.prog 68 #[.agg (imC g),v,.func (.func f) bs cs] W λe w'=>∃ v,e=.returned v/\OwnI w' W.heap.size v (zau g.ts.length st (st (q:Int)))/\Below W.heap.size W w'):=λW v hW hv=>zgn (hgb.im.later hW) (by have:=(zax hi).1;omega) hv (λhne k hk=>hv.lt hne k hk) (λt ht=>hf.wf (q:Int) hqn t ht) ((hf.later hb0).later hW)
 have HK:Hid (∀ W,Below w0.heap.size w0 W->W.cell? ⟨w.heap.size,0,none⟩=some (.slice g.ta g.ts.length g.tc)/\W.cell? ⟨w.heap.size,1,none⟩=some (.slice g.fa g.fs.length g.fc)/\W.cell? ⟨w.heap.size,2,none⟩=some (.slice g.ma g.ms.length g.mc)/\W.cell? ⟨w.heap.size,3,none⟩=some (.int .i64 g.en)):=λW hW=>(hgb.later hW).cells
 obtain⟨c0,c1,c2,c3⟩:=hgb.cells;unfold imC at HW0 HGo;clear hw0 hb0 hgb hg hi hf;generalize zau g.ts.length st (st (q:Int))=R at *;have HCo:Hid (∀ W v,Is W v R->Calls Tryz.prog 59 #[v,.int .i64 (q:Int)] W λe w'=>e=.returned (.bool (R.contains (q:Int)))/\w'=W):=λW v hv=>zbV hv (q:Int)
 generalize R.contains (q:Int)=r at *;unfold imV;go_enter Tryz.func163,Tryz.ntmps163;go_wp2_with (rw[<- HW0.out])
 go_region_held3 (λW:World=>W.cell? ⟨w.heap.size,0,none⟩=some (.slice g.ta g.ts.length g.tc)/\W.cell? ⟨w.heap.size,1,none⟩=some (.slice g.fa g.fs.length g.fc)/\W.cell? ⟨w.heap.size,2,none⟩=some (.slice g.ma g.ms.length g.mc)/\W.cell? ⟨w.heap.size,3,none⟩=some (.int .i64 g.en))
  (first | (exact HK.out _ hB2) | (exact HK.out _ hB1) | (exact HK.out _ (zad _)))
  (first | (go_at_call 68;refine (HGo.out _ _ hB1 hv1).mono ?_;rintro e w2 ⟨v2,rfl,hv2,hz2⟩;have hB2:Below w0.heap.size w0 w2:=zaa hB1 hz2) | (go_at_call 59;refine (HCo.out _ _ hv2.is).mono ?_;rintro e wz ⟨rfl,hz3⟩;subst wz) | (refine (HSt.out _ (zad _)).mono ?_;rintro e w1 ⟨v1,rfl,hv1,hz1⟩;have hB1:Below w0.heap.size w0 w1:=zaa (zad _) hz1))
 rename_i hheld
 clear hheld;have HB3:Hid (Below w0.heap.size w0 w2):=hB2;clear c0 c1 c2 c3 hv1 hv2 hz1 hz2 hB1 hB2;go_wp2_with fail
 go_ret;exact⟨rfl,zaa HB0.out HB3.out⟩
theorem Tryz.info12Y:(Tryz.prog.info? 47).map (λi=>(i.zero,i.size,i.bytes))=some (some (.agg #[.int .i64 0,.int .i64 0,.int .i64 0,.bool false]),4,32):=by kernel_rfl
theorem zog (w:World) (t:Ty):Es tyE (w.alloc (.cells #[.int .i64 t.1,.int .i64 t.2.1,.int .i64 t.2.2.1,.bool t.2.2.2] 47)) (.slice (some ⟨w.heap.size,0,none⟩) 1 1) [t]:=
 (OwnE.lit tyE w 0 47 [t] _ 1 (Nat.zero_le _) rfl rfl (by simp[maxLen])).es
theorem zoD (w:World) (t:Ty) (b:Nat) (hb:b<=w.heap.size):OwnE tyE (w.alloc (.cells #[.int .i64 t.1,.int .i64 t.2.1,.int .i64 t.2.2.1,.bool t.2.2.2] 47)) b 47 (.slice (some ⟨w.heap.size,0,none⟩) 1 1) [t]:=
 OwnE.lit tyE w b 47 [t] _ 1 hb rfl rfl (by simp[maxLen])
theorem zqO {α β:Type} {L:List α} {p:α->Bool} {f:α->β} {i:Nat} (hi:i<L.length):((L.take (i+1)).filter p).map f=((L.take i).filter p).map f ++ (if p L[i]=true then [f L[i]] else []):=by
 rw[List.take_succ_eq_append_getElem hi,List.filter_append,List.map_append]
 congr 1
 cases h:p L[i] <;> simp only[List.filter_cons,List.filter_nil,h] <;> rfl
theorem zsP {α β:Type} {L:List α} {p:α->Bool} {f:α->β} {i:Nat}:(((L.take i).filter p).map f).length<=L.length:=by
 rw[List.length_map];exact Nat.le_trans (List.length_filter_le _ _) (by rw[List.length_take];omega)
theorem zrr (g:Img) (t:Int):∀ (l:List FD) (s:Nat),g.fs.drop s=l->((pkN (λx=>decide (x.ow=t)) (s:Int) l).filter (λi=>!zc0 g i)).map (za7 g)=(l.filter (zdf t)).map (·.t)
 | [],s,_=>rfl
 | c :: r,s,h=>by
  have hs:s<g.fs.length:=by
   rcases Nat.lt_or_ge s g.fs.length with h2 | h2
   ·exact h2
   ·rw[List.drop_eq_nil_of_le h2]at h;cases h
  have hc:g.fs[s]=c:=by
   have:=List.drop_eq_getElem_cons hs;rw[h]at this;exact (List.cons.inj this).1.symm
  have hr:g.fs.drop (s+1)=r:=by
   have:=List.drop_eq_getElem_cons hs;rw[h]at this;exact (List.cons.inj this).2.symm
  have ih:=zrr g t r (s+1) hr;have e1:zc0 g (s:Int)=c.st:=by rw[zdY hs,hc]
  have e2:za7 g (s:Int)=c.t:=by rw[ze7 hs,hc]
  unfold pkN;rw[List.filter_append,List.map_append,show ((s:Int)+1)=((s+1:Nat):Int) by omega,ih]
  cases hw:decide (c.ow=t) with
  | false =>
   rw[if_neg (by decide)]
   have:zdf t c=false:=by unfold zdf;rw[hw];rfl
   simp[List.filter_cons,this]
  | true =>
   rw[if_pos rfl]
   cases hst:c.st with
   | true =>
    have:zdf t c=false:=by unfold zdf;rw[hst];simp
    simp[List.filter_cons,this,e1,hst]
   | false =>
    have:zdf t c=true:=by unfold zdf;rw[hw,hst];rfl
    simp[List.filter_cons,this,e1,e2,hst]
theorem zsy {g:Img} {t:Int} (ht:zam t g.ts.length=true):((zbg g t).filter (λi=>!zc0 g i)).map (za7 g)=zbP g t:=by
 unfold zbg zbP;rw[if_pos ht];exact zrr g t g.fs 0 rfl
theorem zoT (g:Img) (t:Int):(zbP g t).length<=g.fs.length:=by
 unfold zbP;rw[List.length_map];exact List.length_filter_le _ _
set_option maxRecDepth 20000 in
theorem zfR {g:Img} {t:Int} {w:World} (hg:Im w g) (hi:imB g=true) (ht:zam t g.ts.length=true) :
 Calls Tryz.prog 119 #[imV g,.int .i64 t] w λe w'=>∃ v,e=.returned v/\OwnE tyE w' w.heap.size 47 v (zbP g t)/\Below w.heap.size w w':=by
 obtain⟨w0,HW0,HB0,HG,HC,HI,c0,c1,c2,c3⟩:=zaG hg;have hln:=zax hi;have HFl:Hid (Calls Tryz.prog 164 #[zao g,.int .i64 t] w0 λe w'=>∃ v,e=.returned v/\OwnI w' w0.heap.size v (zbg g t)/\Below w0.heap.size w0 w'):=zcH (HI.out w0 (Below.refl _ _)) hi
 obtain⟨F,hF⟩:∃ X,X=zbP g t:=⟨_,rfl⟩;have HF:Hid (((zbg g t).filter (λi=>!zc0 g i)).map (za7 g)=F):=by show _=_;rw[hF];exact zsy ht
 rw[<- hF];unfold zao at HFl;clear hg hi ht hF;unfold imV;go_enter Tryz.func119,Tryz.ntmps119;go_wp2_with (rw[<- HW0.out])
 refine Calls.mono HFl.out ?_;rintro e w1 ⟨fv,rfl,hf,hb1⟩;have HB1:Hid (Below w0.heap.size w0 w1):=hb1;obtain⟨L,hL⟩:∃ X,X=zbg g t:=⟨_,rfl⟩;have HLE:Hid (L=zbg g t):=hL;rw[<- hL]at hf HF;have hll:=zcA g t;rw[<- hL]at hll;obtain⟨la,lc,hfv,_,hlc⟩:=(show Is w1 fv L from hf.is).shape
 have HFi:Hid (∀ W,Below w1.heap.size w1 W->Is W (.slice la L.length lc) L):=λW hW=>by
  have:=hf.is.later hW;rw[hfv]at this;exact this
 subst hfv;unfold maxLen at hlc;clear c0 c1 c2 c3 hf hb1 hL HFl;go_wp2_with fail
 go_loopw [5,7,12] (λlv _ z wr=>∃ i:Nat,i<=L.length/\z=.int .i64 i/\Hid (OwnE tyE wr w1.heap.size 47 lv (((L.take i).filter (λi=>!zc0 g i)).map (za7 g)))/\Hid (Below w1.heap.size w1 wr)) (λ_ _ z _=>L.length - (intOf z).toNat)
 case atStart=>exact⟨0,Nat.zero_le _,rfl,OwnE.nil _ _ _ _,Below.refl _ _⟩
 case round =>
  obtain⟨i,hil0,rfl,HO,HB⟩:=hrel;by_cases hil:i<L.length
  ·have hii:(i:Int)<(L.length:Int):=by omega
   obtain⟨A,hA,hAl⟩:=zby (show L[i]∈zbg g t by rw[<- HLE.out];exact List.getElem_mem hil)
   have hAi:(A:Int)<(g.fs.length:Int):=by omega
   have HPT:Hid (((L.take (i+1)).filter (λi=>!zc0 g i)).map (za7 g)=((L.take i).filter (λi=>!zc0 g i)).map (za7 g) ++ (if (!zc0 g L[i])=true then [za7 g L[i]] else [])):=zqO hil
   have HPL:(((L.take i).filter (λi=>!zc0 g i)).map (za7 g)).length<=64:=Nat.le_trans zsP (by omega)
   rw[hA,zdY hAl,ze7 hAl]at HPT;obtain⟨lb,loff,hla,hlb,_,h6',h7,hc⟩:=(HFi.out wr HB.out).at hil;have cA:=hc i hil;rw[hA]at cA;obtain⟨tb,off,hta,h8,h9,hty⟩:=HG.out.fd (by intro e;rw[e]at hAl;simp at hAl)
   have hB1r:Below w0.heap.size w0 wr:=zaa HB1.out HB.out;obtain⟨e0,e1,e2,e3⟩:=HC.out wr hB1r;rw[hta]at e1;obtain⟨k0,k1,k2,k3,k4,k5,k6⟩:=((hty wr hB1r).2 A hAl).cells_F;unfold maxLen at h7 h9;subst hla;clear hc hty hta hA hB1r;obtain⟨P,hP⟩:∃ P,P=((L.take i).filter (λi=>!zc0 g i)).map (za7 g):=⟨_,rfl⟩
   rw[<- hP]at HPT HPL HO;clear hP;generalize g.fs[A]=x at *
   cases hst:x.st with
   | true =>
    have HP2:Hid (((L.take (i+1)).filter (λi=>!zc0 g i)).map (za7 g)=P):=by show _=_;rw[HPT.out,hst];simp
    rw[hst]at k6;clear hst HPT;go_wp2_with fail
    go_roundw
    case rel=>exact⟨i+1,by omega,by go_num,by rw[HP2.out];exact HO.out,HB.out⟩
    case measure=>simp[intOf];omega
   | false =>
    have HP2:Hid (((L.take (i+1)).filter (λi=>!zc0 g i)).map (za7 g)=P ++ [x.t]):=by show _=_;rw[HPT.out,hst];rfl
    rw[hst]at k6;clear hst HPT;go_wp2_with (at_builtin;go_must (refine zal tyE rfl (.tmp 23) (.tmp 30) 45 rfl w1.heap.size 47 _ 32 Tryz.underlying45 Tryz.info12Y rfl rfl rfl (HO.out.later (zac _ _ _)) (zog wr x.t) (by simp[maxLen];omega) (by simp;omega) (Nat.le_trans HB.out.size (zac _ _ _).size) ?_;intro v5 w5 ho5 hg5;have hB5:=(zbN HB.out _).trans (zaE (HO.out.later (zac _ _ _)) hg5 (Nat.le_refl _) (Nat.le_trans HB.out.size (zac _ _ _).size))))
    go_roundw
    case rel=>exact⟨i+1,by omega,by go_num,by rw[HP2.out];exact ho5,hB5⟩
    case measure=>simp[intOf];omega
  ·have hii:¬ (i:Int)<(L.length:Int):=by omega
   have HPE:Hid (((L.take i).filter (λi=>!zc0 g i)).map (za7 g)=F):=by show _=_;rw[List.take_of_length_le (by omega)];exact HF.out
   go_wp2_with fail
   go_ret;exact⟨_,rfl,by rw[<- HPE.out];exact HO.out.mono (Nat.le_trans HB0.out.size HB1.out.size),zaa HB0.out (zaa HB1.out HB.out)⟩
end Go.Proofs.YtkedhjdipnhgdaaGreat
