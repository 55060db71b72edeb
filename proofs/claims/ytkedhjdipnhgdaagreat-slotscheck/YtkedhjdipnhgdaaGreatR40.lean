import Derived.Test.YtkedhjdipnhgdaaGreatR39
namespace Go.Proofs.YtkedhjdipnhgdaaGreat
set_option maxHeartbeats 16000000
set_option linter.all false
open RowKit
attribute [local go_sem ↓] wp_at_zero wp_at_succ
theorem zuX {w:World} {y:Value} {l:List Int} (h:Is w y l):Src Tryz.prog 1 40 y l.length (zc4 l) w:=by
 have:=Sl.src (P:=Tryz.prog) (tx:=40) (e':=3) h Tryz.underlying40 (zg8 l)
 rwa [zae]at this
theorem zpQ {g:Img} {l:List Int} {m:Int} (h:zdg (λk=>smI g k m) l = -1):zbq g l m=l ++ [m]:=by
 rcases zcD g l m with ⟨_,h2⟩ | ⟨q,hq,h1,_⟩
 ·exact h2
 ·exfalso;unfold znr at h1
  split at h1
  ·omega
  ·rw[h]at h1;omega
theorem zoI {g:Img} {l:List Int} {m:Int} (h:zaf (zcR g m) 8=true):zbq g l m=l ++ [m]:=by
 rcases zcD g l m with ⟨_,h2⟩ | ⟨q,hq,h1,_⟩
 ·exact h2
 ·unfold znr at h1;rw[h,if_pos rfl]at h1;omega
theorem zqh {g:Img} {l:List Int} {m:Int} {q:Nat} (hb:zaf (zcR g m) 8=false) (h:zdg (λk=>smI g k m) l=(q:Int)):zbq g l m=l.set q m:=by
 rcases zcD g l m with ⟨h1,_⟩ | ⟨q2,hq2,h1,h2⟩
 ·unfold znr at h1;rw[hb,if_neg (by decide),h]at h1;omega
 ·unfold znr at h1;rw[hb,if_neg (by decide),h]at h1
  rw[h2,show q=q2 by omega]
theorem At.set12 {w:World} {g:Nat} {c0 c1 c2 c3 c4 c5 c6 c7 c8 c9 ca cb:Value} {t:TypeId} (h:At w g #[c0,c1,c2,c3,c4,c5,c6,c7,c8,c9,ca,cb] t) (x0 x1 x2 x3 x4 x5 x6 x7 x8 x9 xa xb:Value) :
 At ((((((((((((w.setCell ⟨g,0,none⟩ x0).setCell ⟨g,1,none⟩ x1).setCell ⟨g,2,none⟩ x2).setCell ⟨g,3,none⟩ x3).setCell ⟨g,4,none⟩ x4).setCell ⟨g,5,none⟩ x5).setCell ⟨g,6,none⟩ x6).setCell ⟨g,7,none⟩ x7).setCell ⟨g,8,none⟩ x8).setCell ⟨g,9,none⟩ x9).setCell ⟨g,10,none⟩ xa).setCell ⟨g,11,none⟩ xb) g #[x0,x1,x2,x3,x4,x5,x6,x7,x8,x9,xa,xb] t:=by
 have:=(((((((((((h.set 0 x0).set 1 x1).set 2 x2).set 3 x3).set 4 x4).set 5 x5).set 6 x6).set 7 x7).set 8 x8).set 9 x9).set 10 xa).set 11 xb;simpa using this
theorem zeK {B g:Nat} {w w1:World} (h:Below B w w1) (hg:B<=g) (x0 x1 x2 x3 x4 x5 x6 x7 x8 x9 xa xb:Value):Below B w ((((((((((((w1.setCell ⟨g,0,none⟩ x0).setCell ⟨g,1,none⟩ x1).setCell ⟨g,2,none⟩ x2).setCell ⟨g,3,none⟩ x3).setCell ⟨g,4,none⟩ x4).setCell ⟨g,5,none⟩ x5).setCell ⟨g,6,none⟩ x6).setCell ⟨g,7,none⟩ x7).setCell ⟨g,8,none⟩ x8).setCell ⟨g,9,none⟩ x9).setCell ⟨g,10,none⟩ xa).setCell ⟨g,11,none⟩ xb):=
 (((((((((((h.setCell hg _).setCell hg _).setCell hg _).setCell hg _).setCell hg _).setCell hg _).setCell hg _).setCell hg _).setCell hg _).setCell hg _).setCell hg _).setCell hg _
structure RT (w0 w:World) (ov:Value) (L:List Int) (vv:Value) (V:List Int):Prop where
 own:OwnI w w0.heap.size ov L
 bel:Below w0.heap.size w0 w
 src:Is w vv V
 sep:∀ k,vv.ownBlock=some k->k<w.heap.size/\ov.ownBlock≠some k
theorem RT.later {w0 w w':World} {ov vv:Value} {L V:List Int} (h:RT w0 w ov L vv V) (hb:Below w.heap.size w w'):RT w0 w' ov L vv V:=
 ⟨h.own.later hb,zaa h.bel hb,h.src.later hb,λk hk=>⟨Nat.lt_of_lt_of_le (h.sep k hk).1 hb.size,(h.sep k hk).2⟩⟩
theorem RT.set {w0 w:World} {g0 cap k n:Nat} {vv:Value} {L V:List Int} {x:Int} (h:RT w0 w (.slice (some ⟨g0,0,none⟩) n cap) L vv V) (hn:n=L.length) (hg0:w0.heap.size<=g0):RT w0 (w.setCell ⟨g0,k,none⟩ (.int .i64 x)) (.slice (some ⟨g0,0,none⟩) n cap) (L.set k x) vv V:=by
 subst hn;refine⟨?_,h.bel.setCell hg0 _,h.src.keep (by simp) (λj hj=>?_),λj hj=>⟨by simpa using (h.sep j hj).1,(h.sep j hj).2⟩⟩
 ·have:OwnI (w.setCell ⟨g0,k,none⟩ (.int .i64 x)) w0.heap.size (.slice (some ⟨g0,0,none⟩) (L.set k x).length cap) (L.set k x):=(show IRow w w0.heap.size g0 cap L from h.own).set k x
  rw[List.length_set]at this;exact this
 ·exact Below.heap_setCell _ _ _ _ (λe=>(h.sep j hj).2 (by rw[e];rfl))
theorem RT.grow {w0 w wA w':World} {ov ov' vv:Value} {L V:List Int} {x:Int} (h:RT w0 w ov L vv V) (hA:Below w.heap.size w wA) (ho:OwnI w' w0.heap.size ov' (L ++ [x])) (hg:wA.grownBy w' ov.ownBlock) (hp:ov'.ownBlock=ov.ownBlock∨ov'.ownBlock=some wA.heap.size):RT w0 w' ov' (L ++ [x]) vv V:=by
 have hA1:=h.later hA;refine⟨ho,hA1.bel.trans (zar hA1.own hg (Nat.le_refl _) hA1.bel.size),hA1.src.keep hg.size (λk hk=>hg.block k (hA1.sep k hk).1 (λe=>(hA1.sep k hk).2 e.symm)),λk hk=>⟨Nat.lt_of_lt_of_le (hA1.sep k hk).1 hg.size,λe=>?_⟩⟩
 rcases hp with e2 | e2
 ·exact (hA1.sep k hk).2 (e2 ▸ e)
 ·rw[e2]at e;have:=(hA1.sep k hk).1;simp at e;omega
def AtR (p:Int->Bool) (L:List Int) (kk:Nat) (z:Int):Prop:=
 (z = -1/\∀ j (h:j<L.length),kk<=j->p L[j]=false)∨∃ (q:Nat) (hq:q<L.length),kk<=q/\z=(q:Int)/\p L[q]=true/\∀ j (h:j<L.length),kk<=j->j<q->p L[j]=false
theorem AtR.yes {p:Int->Bool} {L:List Int} {k:Nat} (hk:k<L.length) (h:p L[k]=true):AtR p L k (k:Int):=Or.inr ⟨k,hk,Nat.le_refl _,rfl,h,λj _ h1 h2=>by omega⟩
theorem AtR.no {p:Int->Bool} {L:List Int} {k:Nat} {z:Int} (hk:k<L.length) (h:AtR p L (k+1) z) (hp:p L[k]=false):AtR p L k z:=by
 rcases h with ⟨hz,h⟩ | ⟨q,hq,h1,h2,h3,h4⟩
 ·refine Or.inl ⟨hz,λj hj hkj=>?_⟩
  by_cases e:j=k
  ·subst e;exact hp
  ·exact h j hj (by omega)
 ·refine Or.inr ⟨q,hq,by omega,h2,h3,λj hj hkj hjq=>?_⟩
  by_cases e:j=k
  ·subst e;exact hp
  ·exact h4 j hj (by omega) hjq
theorem AtR.fid {p:Int->Bool} {L:List Int} {z:Int} (h:AtR p L 0 z):z=zdg p L:=by
 rcases h with ⟨hz,h⟩ | ⟨q,hq,_,h2,h3,h4⟩
 ·rw[hz,ziG];rw[List.any_eq_false];intro x hx;obtain⟨j,hj,rfl⟩:=List.mem_iff_getElem.1 hx;simp[h j hj (Nat.zero_le _)]
 ·rw[h2,zho hq ?_ h3];rw[List.any_eq_false];intro x hx;obtain⟨j,hj,rfl⟩:=List.mem_take_iff_getElem.1 hx;simp[h4 j (by omega) (Nat.zero_le _) (by omega)]
def zmE (g:Img) (t:Int) (w:World):Prop:=Calls Tryz.prog 51 #[zao g,.int .i64 t] w λe w'=>∃ v,e=.returned v/\OwnI w' w.heap.size v (zaH g t)/\Below w.heap.size w w'
theorem zhn {g:Img} {t:Int} {w:World} (hg:Im w g) (ht:zam t g.ts.length=false):zmE g t w:=by
 obtain⟨w0,HW0,HB0,HG,HC,HI,c0,c1,c2,c3⟩:=zaG hg;have HTh:Hid (Ans 49 #[zao g,.int .i64 t] w0 (.bool false)):=by rw[<- ht];exact za0 t (HI.out w0 (Below.refl _ _))
 have HT:Hid (zaH g t=[]):=zlK ht;unfold zmE;unfold zao at HTh ⊢;clear hg HI HC HG ht;go_enter Tryz.func51,Tryz.ntmps51;go_wp2_with (rw[<- HW0.out])
 refine Calls.mono HTh.out ?_;rintro e w1 ⟨rfl,hb1⟩;have HB1:Hid (Below w0.heap.size w0 w1):=hb1;clear hb1 c0 c1 c2 c3 HTh;go_wp2_with fail
 go_ret;exact⟨_,rfl,by rw[HT.out];exact OwnI.nil _ _,zaa HB0.out HB1.out⟩
abbrev zxc:Oper:=⟨some 16,.move (.tmp 5),40,"ref.go:33",#[],none⟩
abbrev zvX:Oper:=⟨some 17,.load 26 (.tmp 2),26,"ref.go:33",#[],none⟩
abbrev zw1:Oper:=⟨some 18,.fieldAddr 26 (.tmp 2) 0,0,"ref.go:33",#[],none⟩
abbrev zwW:Oper:=⟨some 19,.load 22 (.tmp 18),22,"ref.go:33",#[⟨2,.data⟩],none⟩
abbrev zwO:Oper:=⟨some 20,.move (.tmp 1),3,"ref.go:33",#[],none⟩
abbrev zw7:Oper:=⟨some 21,.indexAddr 22 (.tmp 19) (.tmp 20),0,"ref.go:33",#[⟨3,.data⟩,⟨4,.data⟩],none⟩
abbrev zxC:Oper:=⟨some 22,.fieldAddr 44 (.tmp 21) 2,0,"ref.go:33",#[⟨5,.data⟩],none⟩
abbrev zxg:Oper:=⟨some 23,.load 3 (.tmp 22),3,"ref.go:33",#[⟨6,.data⟩],none⟩
abbrev zxm:Oper:=⟨some 24,.call ⟨.value (.func 51),#[.tmp 17,.tmp 23],#[26,3]⟩,40,"ref.go:33",#[⟨1,.data⟩,⟨7,.data⟩],none⟩
abbrev zxL:Oper:=⟨some 25,.call ⟨.builtin .append,#[.tmp 16,.tmp 24],#[40,40]⟩,40,"ref.go:33",#[⟨0,.data⟩,⟨8,.data⟩,⟨8,.chain⟩],none⟩
abbrev zuw:Oper:=⟨some 5,.assign (.tmp 25),40,"ref.go:33",#[⟨9,.data⟩,⟨9,.chain⟩,⟨0,.phase⟩,⟨1,.phase⟩,⟨2,.phase⟩,⟨3,.phase⟩,⟨4,.phase⟩,⟨5,.phase⟩,⟨6,.phase⟩,⟨7,.phase⟩,⟨8,.phase⟩,⟨9,.phase⟩],none⟩
abbrev zv9:Oper:=⟨some 35,.fieldAddr 26 (.tmp 2) 2,0,"ref.go:36",#[],none⟩
abbrev zxB:Oper:=⟨some 36,.load 24 (.tmp 35),24,"ref.go:36",#[⟨0,.data⟩],none⟩
abbrev zwu:Oper:=⟨some 37,.move (.tmp 6),40,"ref.go:36",#[],none⟩
abbrev zwk:Oper:=⟨some 38,.move (.tmp 7),3,"ref.go:36",#[],none⟩
abbrev zv8:Oper:=⟨some 39,.indexAddr 40 (.tmp 37) (.tmp 38),0,"ref.go:36",#[⟨2,.data⟩,⟨3,.data⟩],none⟩
abbrev zvT:Oper:=⟨some 40,.load 3 (.tmp 39),3,"ref.go:36",#[⟨4,.data⟩],none⟩
abbrev zxH:Oper:=⟨some 41,.indexAddr 24 (.tmp 36) (.tmp 40),0,"ref.go:36",#[⟨1,.data⟩,⟨5,.data⟩],none⟩
abbrev zxa:Oper:=⟨some 42,.load 51 (.tmp 41),51,"ref.go:36",#[⟨6,.data⟩],none⟩
abbrev zxn:Oper:=⟨some 8,.alloc 51,0,"ref.go:36",#[],none⟩
abbrev zwj:Oper:=⟨none,.store 51 (.tmp 8) (.tmp 42),0,"ref.go:36",#[⟨8,.data⟩,⟨7,.data⟩,⟨0,.phase⟩,⟨1,.phase⟩,⟨2,.phase⟩,⟨3,.phase⟩,⟨4,.phase⟩,⟨5,.phase⟩,⟨6,.phase⟩,⟨7,.phase⟩,⟨8,.phase⟩],none⟩
set_option maxRecDepth 20000 in
theorem zg0 {g:Img} {q:Nat} {w:World} (hg:Im w g) (hw:zaY g=true) (hq:q<g.ts.length) (IH:∀ W,Im W g->zmE g g.ts[q].ex W):zmE g (q:Int) w:=by
 obtain⟨w0,HW0,HB0,HG,HC,HI,c0,c1,c2,c3⟩:=zaG hg;have W0:=Wel.of hw;have hi:=W0.im;have hln:=zax hi;have hn:zam (q:Int) g.ts.length=true:=zai.2 (by omega)
 have HTh:Hid (Ans 49 #[zao g,.int .i64 q] w0 (.bool true)):=by rw[<- hn];exact za0 (q:Int) (HI.out w0 (Below.refl _ _))
 have HRec:Hid (∀ W,Below w0.heap.size w0 W->Calls Tryz.prog 51 #[zao g,.int .i64 g.ts[q].ex] W λe w'=>∃ v,e=.returned v/\OwnI w' W.heap.size v (zaH g g.ts[q].ex)/\Below W.heap.size W w'):=λW hW=>IH W (HI.out W hW)
 have HMt:Hid (∀ W,Below w0.heap.size w0 W->Calls Tryz.prog 25 #[zao g,.int .i64 q] W λe w'=>∃ v,e=.returned v/\OwnI w' W.heap.size v (zat g (q:Int))/\Below W.heap.size W w'):=λW hW=>zaU (HI.out W hW) hi
 have HT:Hid (zaH g (q:Int)=((zat g (q:Int)).filter (zaI g)).foldl (zbq g) (zaH g g.ts[q].ex)):=by show _=_;rw[zdz W0 hn,zbi hq];rfl
 have htl:(zaH g g.ts[q].ex).length<=2048:=by
  have h1:=zk5 (g:=g) g.ts[q].ex;have h2:g.ts.length * g.ms.length<=32 * 64:=Nat.mul_le_mul hln.1 hln.2.2;omega
 have hml:(zat g (q:Int)).length<=64:=by
  unfold zat;rw[if_pos hn];have:=zbX (λx:MD=>decide (x.ow=(q:Int))) g.ms 0
  omega
 have HNum:Hid (∀ i,∀ z∈(((zat g (q:Int)).take i).filter (zaI g)).foldl (zbq g) (zaH g g.ts[q].ex),∃ (r:Nat) (hr:r<g.ms.length),z=(r:Int)):=λi z hz=>by
  refine zbE ?_
  rcases zeB hz with hz | hz
  ·exact zbM hz
  ·obtain⟨r,hr,e,_⟩:=zdL (List.mem_of_mem_take (List.mem_filter.1 hz).1);rw[e];exact zai.2 (by omega)
 have HMn:Hid (∀ z∈zat g (q:Int),∃ (r:Nat) (hr:r<g.ms.length),z=(r:Int)):=λz hz=>by
  obtain⟨r,hr,e,_⟩:=zdL hz;exact⟨r,hr,e⟩
 have HMq:Hid (∀ (r:Nat) (hr:r<g.ms.length),∃ mb moff,g.ma=some ⟨mb,moff,none⟩/\g.ms.length<=g.mc/\g.mc<=maxLen/\∀ W,Below w0.heap.size w0 W->∀ k (hk:k<g.ms.length),MtA W mb (moff+k * 12) g.ms[k]):=λr hr=>(HI.out w0 (Below.refl _ _)).mth hr
 have HBt:Hid (∀ W (r:Nat) (hr:r<g.ms.length),Ans 26 #[mdV g.ms[r],.int .i64 2] W (.bool (zaI g (r:Int)))/\Ans 26 #[mdV g.ms[r],.int .i64 8] W (.bool (zaf (zcR g (r:Int)) 8))):=λW r hr=>by
  have:=zbs g.ms[r] (zav hi hr) W;unfold zaI;rw[za4 hr];exact⟨this.2.1,this.2.2.2.1⟩
 have HAl:Hid (∀ W (r s:Nat) (hr:r<g.ms.length) (hs:s<g.ms.length),Below w0.heap.size w0 W->Ans 77 #[mdV g.ms[r],mdV g.ms[s]] W (.bool (smI g (r:Int) (s:Int)))):=λW r s hr hs hW=>by
  rw[zgh hr hs];exact zcW ((HI.out W hW).mok _ (List.getElem_mem hr)) ((HI.out W hW).mok _ (List.getElem_mem hs)) (zav hi hr).1 (zav hi hs).1
 obtain⟨tb,off,cap,hv,h1,h2,hb,hc⟩:=(HI.out w0 (Below.refl _ _)).ts.parts (by intro e;rw[e]at hq;simp at hq)
 simp only[Value.slice.injEq]at hv;obtain⟨hta,_,hcap⟩:=hv;subst hcap;have HK:Hid (∀ W,Below w0.heap.size w0 W->Im4 W w.heap.size g/\W.cell? ⟨tb,off+q * 4+2,none⟩=some (.int .i64 g.ts[q].ex)):=λW hW=>⟨HC.out W hW,((show El tdE w0 tb (off+q * 4) g.ts[q] from hc q hq).below hW hb).cells_T.2.2.1⟩
 have hqi:(q:Int)<(g.ts.length:Int):=by omega
 have hxe:=(HK.out w0 (Below.refl _ _)).2;rw[hta]at c0;unfold maxLen at h2;unfold zmE;unfold zao at HTh HRec HMt ⊢;unfold Im4 at HK;clear hc hg hw IH W0 hi HC HI HG hn;generalize zaH g g.ts[q].ex=T0 at *;generalize zaH g (q:Int)=R at *;generalize zat g (q:Int)=V at *;generalize g.ts[q]=x at *;rw[hta]at HW0 HTh HRec HMt HK ⊢;clear hta;go_enter Tryz.func51,Tryz.ntmps51;go_wp2_with (rw[<- HW0.out])
 refine Calls.mono HTh.out ?_;rintro e w1 ⟨rfl,hb1⟩;have HB1:Hid (Below w0.heap.size w0 w1):=hb1;clear hb1 c0 c1 c2 c3 hxe HTh;go_wp2_with fail
 refine wp_region_held_drew (S:=(λW=>(W.cell? ⟨w.heap.size,0,none⟩=some (.slice (some ⟨tb,off,none⟩) g.ts.length g.tc)/\W.cell? ⟨w.heap.size,1,none⟩=some (.slice g.fa g.fs.length g.fc)/\W.cell? ⟨w.heap.size,2,none⟩=some (.slice g.ma g.ms.length g.mc)/\W.cell? ⟨w.heap.size,3,none⟩=some (.int .i64 g.en))/\W.cell? ⟨tb,off+q * 4+2,none⟩=some (.int .i64 x.ex))) (by kernel_rfl) (HK.out _ (zaa HB1.out (zad _))) (λyb=>?_)
 refine tY 0 zxc (.slice none 0 0) yb ?_;refine tY 1 zvX (.agg #[.slice (some ⟨tb,off,none⟩) g.ts.length g.tc,.slice g.fa g.fs.length g.fc,.slice g.ma g.ms.length g.mc,.int .i64 g.en]) yb ?_;refine tY 2 zw1 (.pointer (some ⟨w.heap.size,0,none⟩)) yb ?_;refine tY 3 zwW (.slice (some ⟨tb,off,none⟩) g.ts.length g.tc) yb ?_;refine tY 4 zwO (.int .i64 (q:Int)) yb ?_;refine tY 5 zw7 (.pointer (some ⟨tb,off+q * 4,none⟩)) yb ?_;refine tY 6 zxC (.pointer (some ⟨tb,off+q * 4+2,none⟩)) yb ?_;refine tY 7 zxg (.int .i64 x.ex) yb ?_;refine wpAnyH_ready (rs:=[8]) (by kernel_rfl) (by simp) ?_
 refine AllReadyH.cons (o:=zxm) rfl (λK hK=>?_) AllReadyH.nil
 go_simp
 refine (HRec.out _ (zaa HB1.out (zad _))).mono ?_;rintro e w2 ⟨tv,rfl,ho2,hb2⟩;obtain⟨va,vc,htv,_,hvc⟩:=ho2.is.shape;subst htv;unfold maxLen at hvc;have hBc:Below w0.heap.size w0 w2:=zaa (zaa HB1.out (zad _)) hb2
 try go_wp2_with fail
 refine hK.out _ _ (HK.out _ hBc) (λyb=>?_)
 clear hK K
 try simp only[Act.put,sA,s0,sS]
 refine wpAnyH_ready (rs:=[9]) (by kernel_rfl) (by simp) ?_
 refine AllReadyH.cons (o:=zxL) rfl (λK hK=>?_) AllReadyH.nil
 refine zfx rfl (.tmp 16) (.tmp 24) 40 40 rfl w0.heap.size 3 (.int .i64 0) 8 Tryz.underlying40 Tryz.infoInt7 rfl (v:=.slice none 0 0) (xs:=[]) rfl rfl (OwnV.nil _ _ _) (zuX ho2.is) (by unfold maxLen;simp;omega) (by simp;omega) hBc.size ?_
 intro v3 w3 ho3 hg3;have hB3:Below w0.heap.size w0 w3:=hBc.trans ⟨hg3.os,hg3.tape,hg3.output,hg3.size,λk hk=>hg3.block k (by have:=hBc.size;omega) (by simp[Value.ownBlock])⟩
 refine hK.out _ _ (HK.out _ hB3) (λyb=>?_)
 clear hK K
 try simp only[Act.put,sA,s0,sS]
 refine tY 10 zuw v3 yb ?_;refine wpAnyH_done (by kernel_rfl) ?_ _
 have HO3:Hid (OwnI w3 w0.heap.size v3 T0):=by
  show OwnI _ _ _ _;have:=ho3;rw[List.nil_append]at this;exact this
 have HB3:Hid (Below w0.heap.size w0 w3):=hB3;clear ho2 hb2 hBc ho3 hg3 hB3 yb HRec;obtain⟨⟨c0,c1,c2,c3⟩,_⟩:=HK.out w3 HB3.out;go_wp2_with fail
 refine Calls.mono (HMt.out w3 HB3.out) ?_;rintro e w4 ⟨vv,rfl,ho4,hb4⟩;obtain⟨ua,uc,huv,_,huc⟩:=ho4.is.shape;have hRT:RT w0 w4 v3 T0 vv V:=⟨HO3.out.later hb4,zaa HB3.out hb4,ho4.is,λk hk=>⟨(ho4.block k hk).2,λe=>by
  have h1:=(ho4.block k hk).1;have h2:=(HO3.out.block k e).2;omega⟩⟩
 subst huv;have HRT:Hid (RT w0 w4 v3 T0 (.slice ua V.length uc) V):=hRT;unfold maxLen at huc;clear ho4 hb4 hRT HO3 HB3 c0 c1 c2 c3 HMt;go_wp2_with fail
 go_loopw [5,7,8,9,10] (λov z _ _ _ wr=>∃ i:Nat,i<=V.length/\z=.int .i64 i/\Hid (RT w0 wr ov (((V.take i).filter (zaI g)).foldl (zbq g) T0) (.slice ua V.length uc) V)) (λ_ z _ _ _ _=>V.length - (intOf z).toNat)
 case atStart=>exact⟨0,Nat.zero_le _,rfl,HRT.out⟩
 case round =>
  obtain⟨i,hil0,rfl,HRw⟩:=hrel;by_cases hil:i<V.length
  ·have hii:(i:Int)<(V.length:Int):=by omega
   obtain⟨r,hr,hVr⟩:=HMn.out V[i] (List.getElem_mem hil);obtain⟨mb,moff,hma,h3,h4,hcm⟩:=HMq.out r hr;obtain⟨lb,loff,hla,hlb,_,h6',h7',hcv⟩:=(HRw.out.src).at hil;have hri:(r:Int)<(g.ms.length:Int):=by omega
   unfold maxLen at h4;subst hla;have HKr:Hid (∀ W,Below wr.heap.size wr W->W.cell? ⟨w.heap.size,2,none⟩=some (.slice (some ⟨mb,moff,none⟩) g.ms.length g.mc)/\W.cell? ⟨lb,loff+i,none⟩=some (.int .i64 (r:Int))/\MtA W mb (moff+r * 12) g.ms[r]):=λW hW=>by
    have hb0W:=zaa HRw.out.bel hW;refine⟨by have:=(HK.out W hb0W).1.2.2.1;rw[hma]at this;exact this, ?_,hcm W hb0W r hr⟩
    obtain⟨lb2,loff2,hla2,_,_,_,_,hcv2⟩:=(show Is W (.slice (some ⟨lb,loff,none⟩) V.length uc) V from Sl.later HRw.out.src hW).at hil
    cases hla2
    have:=hcv2 i hil;rw[hVr]at this;exact this
   clear hcv;have HMA:Hid (∀ W,Below w0.heap.size w0 W->∀ k (hk:k<g.ms.length),MtA W mb (moff+k * 12) g.ms[k]):=hcm;have HME:Hid (g.ma=some ⟨mb,moff,none⟩):=hma;clear hcm hma;have HBq:Hid (∀ W,Ans 26 #[mdV g.ms[r],.int .i64 2] W (.bool (zaI g (r:Int)))):=λW=>(HBt.out W r hr).1
   have HB8:Hid (∀ W,Ans 26 #[mdV g.ms[r],.int .i64 8] W (.bool (zaf (zcR g (r:Int)) 8))):=λW=>(HBt.out W r hr).2
   have HAq:Hid (∀ W (s:Nat) (hs:s<g.ms.length),Below w0.heap.size w0 W->Ans 77 #[mdV g.ms[s],mdV g.ms[r]] W (.bool (smI g (s:Int) (r:Int)))):=λW s hs hW=>HAl.out W s r hs hr hW
   have HNx:Hid (((V.take (i+1)).filter (zaI g)).foldl (zbq g) T0=if zaI g (r:Int)=true then zbq g (((V.take i).filter (zaI g)).foldl (zbq g) T0) (r:Int) else ((V.take i).filter (zaI g)).foldl (zbq g) T0):=by
    show _=_;rw[zg5 hil,hVr,List.foldl_append]
    cases zaI g (r:Int) <;> rfl
   have HLn:Hid (∀ z∈((V.take i).filter (zaI g)).foldl (zbq g) T0,∃ (r:Nat) (hr:r<g.ms.length),z=(r:Int)):=HNum.out i;have hLl:(((V.take i).filter (zaI g)).foldl (zbq g) T0).length<=10000:=by
    have h5:=zeA (g:=g) ((V.take i).filter (zaI g)) T0;have h6:=List.length_filter_le (zaI g) (V.take i);rw[List.length_take]at h6;omega
   unfold mdV at HBq HB8 HAq;generalize ((V.take i).filter (zaI g)).foldl (zbq g) T0=L at *;go_wp2_with fail
   refine wp_region_held_drew (S:=(λW=>W.cell? ⟨w.heap.size,2,none⟩=some (.slice (some ⟨mb,moff,none⟩) g.ms.length g.mc)/\W.cell? ⟨lb,loff+i,none⟩=some (.int .i64 (r:Int))/\MtA W mb (moff+r * 12) g.ms[r])) (by kernel_rfl) (HKr.out _ (zad _)) (λyb=>?_)
   refine tY 0 zv9 (.pointer (some ⟨w.heap.size,2,none⟩)) yb ?_;refine tY 1 zxB (.slice (some ⟨mb,moff,none⟩) g.ms.length g.mc) yb ?_;refine tY 2 zwu (.slice (some ⟨lb,loff,none⟩) V.length uc) yb ?_;refine tY 3 zwk (.int .i64 (i:Int)) yb ?_;refine tY 4 zv8 (.pointer (some ⟨lb,loff+i,none⟩)) yb ?_;refine tY 5 zvT (.int .i64 (r:Int)) yb ?_;refine tY 6 zxH (.pointer (some ⟨mb,moff+r * 12,none⟩)) yb ?_;generalize hy:g.ms[r]=y at *;refine tY 7 zxa (.agg #[.string y.nm,.int .i64 y.ow,.int .i64 y.fl,.slice y.pa y.ps.length y.pc,.int .i64 y.rt.1,.int .i64 y.rt.2.1,.int .i64 y.rt.2.2.1,.bool y.rt.2.2.2,.slice y.la y.ls.length y.lc,.int .i64 y.mx,.slice y.ca y.co.length y.cc,.slice y.ka y.cl.length y.kc]) yb ?_;refine wpAnyH_ready (rs:=[8]) (by kernel_rfl) (by simp) ?_
   refine AllReadyH.cons (o:=zxn) rfl (λK hK=>?_) AllReadyH.nil
   go_simp
   obtain⟨wA,hwA⟩:∃ W,W=(wr.alloc (.cells #[.string ⟨#[]⟩,.int .i64 0,.int .i64 0,.slice none 0 0,.int .i64 0,.int .i64 0,.int .i64 0,.bool false,.slice none 0 0,.int .i64 0,.slice none 0 0,.slice none 0 0] 51)).drew:=⟨_,rfl⟩;rw[<- hwA];have hbA:Below wr.heap.size wr wA:=by rw[hwA];exact (zac _ _ _).drew
   have hAt:At wA wr.heap.size #[.string ⟨#[]⟩,.int .i64 0,.int .i64 0,.slice none 0 0,.int .i64 0,.int .i64 0,.int .i64 0,.bool false,.slice none 0 0,.int .i64 0,.slice none 0 0,.slice none 0 0] 51:=by rw[hwA];exact At.made _ _ _
   clear hwA;refine hK.out _ _ (HKr.out _ hbA) (λyb=>?_)
   clear hK K
   try simp only[Act.put,sA,s0,sS]
   obtain⟨bm,hbm⟩:∃ c,c=wr.heap.size:=⟨_,rfl⟩;rw[<- hbm]at hAt ⊢;have hbi:wr.heap.size<=bm:=by omega
   clear hbm;have hxA:=hAt.cell;have hmA:=hAt.melt;refine wpAnyH_ready (rs:=[9]) (by kernel_rfl) (by simp) ?_
   refine AllReadyH.cons (o:=zwj) rfl (λK hK=>?_) AllReadyH.nil
   go_simp
   have hbS:=zeK hbA hbi (.string y.nm) (.int .i64 y.ow) (.int .i64 y.fl) (.slice y.pa y.ps.length y.pc) (.int .i64 y.rt.1) (.int .i64 y.rt.2.1) (.int .i64 y.rt.2.2.1) (.bool y.rt.2.2.2) (.slice y.la y.ls.length y.lc) (.int .i64 y.mx) (.slice y.ca y.co.length y.cc) (.slice y.ka y.cl.length y.kc);refine hK.out _ _ (HKr.out _ hbS) (λyb=>?_)
   clear hK K
   try simp only[Act.put,sA,s0,sS]
   refine wpAnyH_done (by kernel_rfl) ?_ _
   obtain⟨wS,hwS⟩:∃ W,W=((((((((((((wA.setCell ⟨bm,0,none⟩ (.string y.nm)).setCell ⟨bm,1,none⟩ (.int .i64 y.ow)).setCell ⟨bm,2,none⟩ (.int .i64 y.fl)).setCell ⟨bm,3,none⟩ (.slice y.pa y.ps.length y.pc)).setCell ⟨bm,4,none⟩ (.int .i64 y.rt.1)).setCell ⟨bm,5,none⟩ (.int .i64 y.rt.2.1)).setCell ⟨bm,6,none⟩ (.int .i64 y.rt.2.2.1)).setCell ⟨bm,7,none⟩ (.bool y.rt.2.2.2)).setCell ⟨bm,8,none⟩ (.slice y.la y.ls.length y.lc)).setCell ⟨bm,9,none⟩ (.int .i64 y.mx)).setCell ⟨bm,10,none⟩ (.slice y.ca y.co.length y.cc)).setCell ⟨bm,11,none⟩ (.slice y.ka y.cl.length y.kc)):=⟨_,rfl⟩;rw[<- hwS]at hbS ⊢;have HBm:Hid (At wS bm (zcN y) 51):=by
    have:=hAt.set12 (.string y.nm) (.int .i64 y.ow) (.int .i64 y.fl) (.slice y.pa y.ps.length y.pc) (.int .i64 y.rt.1) (.int .i64 y.rt.2.1) (.int .i64 y.rt.2.2.1) (.bool y.rt.2.2.2) (.slice y.la y.ls.length y.lc) (.int .i64 y.mx) (.slice y.ca y.co.length y.cc) (.slice y.ka y.cl.length y.kc);rw[<- hwS]at this;exact this
   have HBS:Hid (Below wr.heap.size wr wS):=hbS;have HRS:Hid (RT w0 wS u5 L (.slice (some ⟨lb,loff,none⟩) V.length uc) V):=HRw.out.later hbS;have HBi:Hid (wr.heap.size<=bm):=hbi;clear hwS hAt hbA hxA hmA yb hbS hbi HKr;obtain⟨d0,d1,d2,d3,d4,d5,d6,d7,d8,d9,d10,d11⟩:=Mt.of HBm.out;go_wp2_with fail
   refine Calls.mono (HBq.out wS) ?_;rintro e w5 ⟨rfl,hb5⟩;have HR5:Hid (RT w0 w5 u5 L (.slice (some ⟨lb,loff,none⟩) V.length uc) V):=HRS.out.later hb5;have HM5:Hid (∀ W,Below w5.heap.size w5 W->Mt W bm y):=λW hW=>Mt.of ((HBm.out.later hb5).later hW)
   clear hb5 HRS HBS d0 d1 d2 d3 d4 d5 d6 d7 d8 d9 d10 d11 HBq HBm HRw
   cases hvr:zaI g (r:Int) with
   | false =>
    have HN2:Hid (((V.take (i+1)).filter (zaI g)).foldl (zbq g) T0=L):=by show _=_;rw[HNx.out,hvr];rfl
    clear hvr;go_wp2_with fail
    go_roundw
    case rel=>exact⟨i+1,by omega,by go_num,by show RT _ _ _ _ _ _;rw[HN2.out];exact HR5.out⟩
    case measure=>simp[intOf];omega
   | true =>
    have HN2:Hid (((V.take (i+1)).filter (zaI g)).foldl (zbq g) T0=zbq g L (r:Int)):=by show _=_;rw[HNx.out,hvr];rfl
    obtain⟨oa,oc,hov,hoq,hoc⟩:=HR5.out.own.is.shape;subst hov;unfold maxLen at hoc;clear hvr;go_wp2_with fail
    obtain⟨wo,hwo⟩:∃ W,W=wr:=⟨_,rfl⟩;subst hwo;go_loopw [9,10] (λz9 z10 wx=>∃ (kk:Nat) (xx zz:Int),kk<=L.length/\xx=(kk:Int) - 1/\z10=.int .i64 xx/\z9=.int .i64 zz/\Hid (AtR (λj=>smI g j (r:Int)) L kk zz)/\Hid (Below w5.heap.size w5 wx)) (λ_ z _=>(intOf z+1).toNat)
    case atStart=>exact⟨L.length,(L.length:Int) - 1, -1,Nat.le_refl _,rfl,by go_num,rfl,Or.inl ⟨rfl,λj hj h=>by omega⟩,Below.refl _ _⟩
    case round =>
     obtain⟨kk,xx,zz,hkk,hxx,rfl,rfl,HA,HB⟩:=hrel
     cases kk with
     | zero =>
      have hxe:xx = -1:=by omega
      subst hxe;have HRx:Hid (RT w0 wr (.slice oa L.length oc) L (.slice (some ⟨lb,loff,none⟩) V.length uc) V):=HR5.out.later HB.out;have HZ:Hid (zz=zdg (λj=>smI g j (r:Int)) L):=HA.out.fid
      rcases zfm (λj=>smI g j (r:Int)) L with ⟨hf,_⟩ | ⟨s,hs,hf,_⟩
      ·have hze:zz = -1:=by rw[HZ.out,hf]
       have HPu:Hid (zbq g L (r:Int)=L ++ [(r:Int)]):=zpQ hf;subst hze;clear hf hxx hkk HA HZ;obtain⟨wA,hwA⟩:∃ W,W=wr.alloc (.cells #[.int .i64 (r:Int)] 3):=⟨_,rfl⟩;have HWA:Hid (wA=_):=hwA;have hbA:Below wr.heap.size wr wA:=by rw[hwA];exact zac _ _ _
       have HBA:Hid (Below wr.heap.size wr wA):=hbA;have HRA:Hid (RT w0 wA (.slice oa L.length oc) L (.slice (some ⟨lb,loff,none⟩) V.length uc) V):=HRx.out.later hbA;have HSr:Hid (Src Tryz.prog 1 40 (.slice (some ⟨wr.heap.size,0,none⟩) 1 1) 1 [.int .i64 (r:Int)] wA):=by rw[hwA];exact zbf wr r _ rfl
       have ci:wr.cell? ⟨lb,loff+i,none⟩=some (.int .i64 (r:Int)):=by
        obtain⟨lb2,loff2,hla2,_,_,_,_,hcv2⟩:=(show Is wr (.slice (some ⟨lb,loff,none⟩) V.length uc) V from HRx.out.src).at hil
        cases hla2
        have:=hcv2 i hil;rw[hVr]at this;exact this
       clear hwA hbA;go_wp2_with (first | rw[<- HWA.out] | (at_builtin;go_must (refine zaC rfl (.tmp 70) (.tmp 75) rfl w0.heap.size rfl rfl HRA.out.own HSr.out (by omega) HRA.out.bel.size ?_;intro v6 w6 ho6 hg6 hp6;have hR6:=HRx.out.grow HBA.out ho6 hg6 hp6)))
       go_roundw
       case rel=>exact⟨i+1,by omega,by go_num,by show RT _ _ _ _ _ _;rw[HN2.out,HPu.out];exact hR6⟩
       case measure=>simp[intOf];omega
      ·have hze:zz=(s:Int):=by rw[HZ.out,hf]
       have hsn:¬ (s:Int)<0:=by omega
       subst hze;clear hxx hkk HA HZ;obtain⟨d0,d1,d2,d3,d4,d5,d6,d7,d8,d9,d10,d11⟩:=HM5.out wr HB.out;have HFs:Hid (zdg (λj=>smI g j (r:Int)) L=(s:Int)):=hf
       clear hf;go_wp2_with fail
       refine Calls.mono (HB8.out wr) ?_;rintro e wq ⟨rfl,hbq⟩;have HRy:Hid (RT w0 wq (.slice oa L.length oc) L (.slice (some ⟨lb,loff,none⟩) V.length uc) V):=HRx.out.later hbq;clear HRx;have HRx:Hid (RT w0 wq (.slice oa L.length oc) L (.slice (some ⟨lb,loff,none⟩) V.length uc) V):=HRy.out;clear HRy hbq d0 d1 d2 d3 d4 d5 d6 d7 d8 d9 d10 d11
       cases h8:zaf (zcR g (r:Int)) 8 with
       | true =>
        have HPu:Hid (zbq g L (r:Int)=L ++ [(r:Int)]):=zoI h8;clear h8;obtain⟨wA,hwA⟩:∃ W,W=wq.alloc (.cells #[.int .i64 (r:Int)] 3):=⟨_,rfl⟩;have HWA:Hid (wA=_):=hwA;have hbA:Below wq.heap.size wq wA:=by rw[hwA];exact zac _ _ _
        have HBA:Hid (Below wq.heap.size wq wA):=hbA;have HRA:Hid (RT w0 wA (.slice oa L.length oc) L (.slice (some ⟨lb,loff,none⟩) V.length uc) V):=HRx.out.later hbA;have HSr:Hid (Src Tryz.prog 1 40 (.slice (some ⟨wq.heap.size,0,none⟩) 1 1) 1 [.int .i64 (r:Int)] wA):=by rw[hwA];exact zbf wq r _ rfl
        have ci:wq.cell? ⟨lb,loff+i,none⟩=some (.int .i64 (r:Int)):=by
         obtain⟨lb2,loff2,hla2,_,_,_,_,hcv2⟩:=(show Is wq (.slice (some ⟨lb,loff,none⟩) V.length uc) V from HRx.out.src).at hil
         cases hla2
         have:=hcv2 i hil;rw[hVr]at this;exact this
        clear hwA hbA;go_wp2_with (first | rw[<- HWA.out] | (at_builtin;go_must (refine zaC rfl (.tmp 70) (.tmp 75) rfl w0.heap.size rfl rfl HRA.out.own HSr.out (by omega) HRA.out.bel.size ?_;intro v6 w6 ho6 hg6 hp6;have hR6:=HRx.out.grow HBA.out ho6 hg6 hp6)))
        go_roundw
        case rel=>exact⟨i+1,by omega,by go_num,by show RT _ _ _ _ _ _;rw[HN2.out,HPu.out];exact hR6⟩
        case measure=>simp[intOf];omega
       | false =>
        have HPu:Hid (zbq g L (r:Int)=L.set s (r:Int)):=zqh h8 HFs.out;clear h8;obtain⟨g0,cap,hv0,hrow,hg0,hgs,hlc,hcm⟩:=IRow.of HRx.out.own (by intro e;rw[e]at hs;simp at hs)
        simp only[Value.slice.injEq]at hv0;obtain⟨hv1, -,hv2⟩:=hv0;subst hv1 hv2;have hsi:(s:Int)<(L.length:Int):=by omega
        obtain⟨old,cs⟩:∃ old,wq.cell? ⟨g0,s,none⟩=some (.int .i64 old):=⟨_,hrow.cell s hs⟩;have hmelt:=hrow.melt;have HR6:Hid (RT w0 (wq.setCell ⟨g0,s,none⟩ (.int .i64 (r:Int))) (.slice (some ⟨g0,0,none⟩) L.length oc) (L.set s (r:Int)) (.slice (some ⟨lb,loff,none⟩) V.length uc) V):=HRx.out.set rfl hg0;have ci:wq.cell? ⟨lb,loff+i,none⟩=some (.int .i64 (r:Int)):=by
         obtain⟨lb2,loff2,hla2,_,_,_,_,hcv2⟩:=(show Is wq (.slice (some ⟨lb,loff,none⟩) V.length uc) V from HRx.out.src).at hil
         cases hla2
         have:=hcv2 i hil;rw[hVr]at this;exact this
        clear hrow hg0 hgs;go_wp2_with fail
        go_roundw
        case rel=>exact⟨i+1,by omega,by go_num,by show RT _ _ _ _ _ _;rw[HN2.out,HPu.out];exact HR6.out⟩
        case measure=>simp[intOf];omega
     | succ k =>
      have hxe:xx=(k:Int):=by omega
      subst hxe;have hkL:k<L.length:=by omega
      have hki:(k:Int)<(L.length:Int):=by omega
      obtain⟨s,hs,hLs⟩:=HLn.out L[k] (List.getElem_mem hkL);have hsi:(s:Int)<(g.ms.length:Int):=by omega
      obtain⟨ob,ooff,hoa,hob,_,_,_,hco⟩:=(show Is wr (.slice oa L.length oc) L from (HR5.out.later HB.out).own.is).at hkL
      have HB0r:Hid (Below w0.heap.size w0 wr):=zaa HR5.out.bel HB.out;have HKx:Hid (∀ W,Below wr.heap.size wr W->W.cell? ⟨w.heap.size,2,none⟩=some (.slice (some ⟨mb,moff,none⟩) g.ms.length g.mc)/\W.cell? ⟨ob,ooff+k,none⟩=some (.int .i64 (s:Int))/\MtA W mb (moff+s * 12) g.ms[s]/\Mt W bm y):=λW hW=>by
       have hb0W:=zaa HB0r.out hW;refine⟨by have:=(HK.out W hb0W).1.2.2.1;rw[HME.out]at this;exact this, ?_,HMA.out W hb0W s hs,HM5.out W (zaa HB.out hW)⟩
       obtain⟨ob2,ooff2,hoa2,_,_,_,_,hco2⟩:=(show Is W (.slice oa L.length oc) L from ((HR5.out.later HB.out).later hW).own.is).at hkL
       rw[hoa]at hoa2
       cases hoa2
       have:=hco2 k hkL;rw[hLs]at this;exact this
      subst hoa;have HAs:Hid (∀ W,Below w0.heap.size w0 W->Ans 77 #[.agg #[.string g.ms[s].nm,.int .i64 g.ms[s].ow,.int .i64 g.ms[s].fl,.slice g.ms[s].pa g.ms[s].ps.length g.ms[s].pc,.int .i64 g.ms[s].rt.1,.int .i64 g.ms[s].rt.2.1,.int .i64 g.ms[s].rt.2.2.1,.bool g.ms[s].rt.2.2.2,.slice g.ms[s].la g.ms[s].ls.length g.ms[s].lc,.int .i64 g.ms[s].mx,.slice g.ms[s].ca g.ms[s].co.length g.ms[s].cc,.slice g.ms[s].ka g.ms[s].cl.length g.ms[s].kc],.agg #[.string y.nm,.int .i64 y.ow,.int .i64 y.fl,.slice y.pa y.ps.length y.pc,.int .i64 y.rt.1,.int .i64 y.rt.2.1,.int .i64 y.rt.2.2.1,.bool y.rt.2.2.2,.slice y.la y.ls.length y.lc,.int .i64 y.mx,.slice y.ca y.co.length y.cc,.slice y.ka y.cl.length y.kc]] W (.bool (smI g (s:Int) (r:Int)))):=λW hW=>HAq.out W s hs hW
      have HYs:Hid (smI g (s:Int) (r:Int)=true->AtR (λj=>smI g j (r:Int)) L k (k:Int)):=λh=>AtR.yes hkL (by rw[hLs];exact h)
      have HNs:Hid (smI g (s:Int) (r:Int)=false->AtR (λj=>smI g j (r:Int)) L k zz):=λh=>AtR.no hkL HA.out (by rw[hLs];exact h)
      obtain⟨m2,mo,n1,n2⟩:=HKx.out wr (Below.refl _ _);clear hco hLs hxx HA;generalize smI g (s:Int) (r:Int)=sm at *;generalize g.ms[s]=z at *;go_wp2_with fail
      go_region_held3 (λW:World=>W.cell? ⟨w.heap.size,2,none⟩=some (.slice (some ⟨mb,moff,none⟩) g.ms.length g.mc)/\W.cell? ⟨ob,ooff+k,none⟩=some (.int .i64 (s:Int))/\MtA W mb (moff+s * 12) z/\Mt W bm y)
       (first | (exact HKx.out _ hB6) | (exact HKx.out _ (zad _)))
       (first | (go_at_call 77;refine (HAs.out _ (zaa HB0r.out (zad _))).mono ?_;rintro e w6 ⟨rfl,hz6⟩;have hB6:Below wr.heap.size wr w6:=zaa (zad _) hz6))
      rename_i hheld
      clear hheld;have HB6:Hid (Below w5.heap.size w5 w6):=zaa HB.out hB6;clear hz6 hB6 m2 mo n1 n2 HAs HKx
      cases sm with
      | true =>
       have HAt:Hid _:=HYs.out (by trivial)
       go_wp2_with fail
       go_roundw
       case rel=>exact⟨k,(k:Int) - 1,(k:Int),by omega,rfl,by go_num,rfl,HAt.out,HB6.out⟩
       case measure=>simp[intOf] <;> omega
      | false =>
       have HAt:Hid _:=HNs.out (by trivial)
       go_wp2_with fail
       go_roundw
       case rel=>exact⟨k,(k:Int) - 1,zz,by omega,rfl,by go_num,rfl,HAt.out,HB6.out⟩
       case measure=>simp[intOf] <;> omega
  ·have hii:¬ (i:Int)<(V.length:Int):=by omega
   have HOf:Hid (OwnI wr w0.heap.size u5 R):=by
    have:=HRw.out.own;rw[List.take_of_length_le (by omega),<- HT.out]at this
    exact this
   have HBf:Hid (Below w0.heap.size w0 wr):=HRw.out.bel;clear HRw;go_wp2_with fail
   go_ret;exact⟨_,rfl,HOf.out.mono HB0.out.size,zaa HB0.out HBf.out⟩
theorem zei {g:Img} (hw:zaY g=true):∀ (n:Nat) (t:Int) (w:World),(upL g t).length<=n->Im w g->zmE g t w
 | n,t,w,hn,hg=>by
  cases h:zam t g.ts.length with
  | false=>exact zhn hg h
  | true =>
   have W:=Wel.of hw;obtain⟨q,hq,rfl⟩:∃ q:Nat,q<g.ts.length/\t=q:=⟨t.toNat,by have:=zai.1 h;omega,by have:=zai.1 h;omega⟩
   have hc:=zbz W h;rw[zbi hq]at hc
   match n with
   | 0=>rw[hc]at hn;simp at hn
   | n+1=>exact zg0 hg hw hq (λW2 hW2=>zei hw n _ W2 (by rw[hc]at hn;simpa using hn) hW2)
theorem zcn {g:Img} (hw:zaY g=true) {t:Int} {w:World} (hg:Im w g) :
 Calls Tryz.prog 51 #[zao g,.int .i64 t] w λe w'=>∃ v,e=.returned v/\OwnI w' w.heap.size v (zaH g t)/\Below w.heap.size w w':=zei hw _ t w (Nat.le_refl _) hg
end Go.Proofs.YtkedhjdipnhgdaaGreat
