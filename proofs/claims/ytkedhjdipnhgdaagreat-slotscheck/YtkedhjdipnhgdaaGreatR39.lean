import Derived.Test.YtkedhjdipnhgdaaGreatR37
import Derived.Test.YtkedhjdipnhgdaaGreatR24
namespace Go.Proofs.YtkedhjdipnhgdaaGreat
set_option maxHeartbeats 16000000
set_option linter.all false
open RowKit
attribute [local go_sem ↓] wp_at_zero wp_at_succ
theorem At.set5 {w:World} {g:Nat} {c0 c1 c2 c3 c4:Value} {t:TypeId} (h:At w g #[c0,c1,c2,c3,c4] t) (x0 x1 x2 x3 x4:Value) :
 At (((((w.setCell ⟨g,0,none⟩ x0).setCell ⟨g,1,none⟩ x1).setCell ⟨g,2,none⟩ x2).setCell ⟨g,3,none⟩ x3).setCell ⟨g,4,none⟩ x4) g #[x0,x1,x2,x3,x4] t:=by
 have:=((((h.set 0 x0).set 1 x1).set 2 x2).set 3 x3).set 4 x4;simpa using this
theorem zbB {B g:Nat} {w w1:World} (h:Below B w w1) (hg:B<=g) (x0 x1 x2 x3 x4:Value):Below B w (((((w1.setCell ⟨g,0,none⟩ x0).setCell ⟨g,1,none⟩ x1).setCell ⟨g,2,none⟩ x2).setCell ⟨g,3,none⟩ x3).setCell ⟨g,4,none⟩ x4):=
 ((((h.setCell hg _).setCell hg _).setCell hg _).setCell hg _).setCell hg _
theorem zd2 {w:World} {g k:Nat} (hk:k≠g) (x0 x1 x2 x3 x4:Value):(((((w.setCell ⟨g,0,none⟩ x0).setCell ⟨g,1,none⟩ x1).setCell ⟨g,2,none⟩ x2).setCell ⟨g,3,none⟩ x3).setCell ⟨g,4,none⟩ x4).heap[k]? =w.heap[k]?:=by
 rw[Below.heap_setCell _ _ _ _ hk,Below.heap_setCell _ _ _ _ hk,Below.heap_setCell _ _ _ _ hk,Below.heap_setCell _ _ _ _ hk,Below.heap_setCell _ _ _ _ hk]
def tbZ:Array Value:=#[.slice none 0 0,.slice none 0 0,.slice none 0 0,.int .i64 0,.slice none 0 0]
theorem zlo {w:World} {g:Img} (hg:Im w g):∃ w0,Hid (w0=(w.alloc (.cells #[.slice g.ta g.ts.length g.tc,.slice g.fa g.fs.length g.fc,.slice g.ma g.ms.length g.mc,.int .i64 g.en] 26)).alloc (.cells #[.slice none 0 0,.slice none 0 0,.slice none 0 0,.int .i64 0,.slice none 0 0] 68))/\Hid (Below w.heap.size w w0) /\
 Hid (∀ W,Below w0.heap.size w0 W->Im4 W w.heap.size g/\At W (w.heap.size+1) tbZ 68)/\Hid (∀ W,Below w0.heap.size w0 W->Im W g):=by
 obtain⟨w0,hw0⟩:∃ W,W=(w.alloc (.cells (imC g) 26)).alloc (.cells tbZ 68):=⟨_,rfl⟩;obtain⟨hb0,hat⟩:=zan hw0;refine⟨w0,hw0,hb0,λW hW=>⟨?_,(hat W hW).2⟩,λW hW=>(hg.later hb0).later hW⟩
 have h:=(hat W hW).1;exact⟨h.cell 0,h.cell 1,h.cell 2,h.cell 3⟩
def ztw (g:Img) (t:Int) (w:World):Prop:=Calls Tryz.prog 30 #[zao g,.int .i64 t] w λe w'=>∃ v,e=.returned (tbV g v)/\OwnI w' w.heap.size v (zaH g t)/\Below w.heap.size w w'
theorem zia {g:Img} {w:World} (hg:Im w g):ztw g (-1) w:=by
 obtain⟨w0,HW0,HB0,HC,HI⟩:=zlo hg;obtain⟨⟨c0,c1,c2,c3⟩,hz⟩:=HC.out w0 (Below.refl _ _);have HZ:Hid (At w0 (w.heap.size+1) tbZ 68):=hz;have d0:=hz.cell;have dm:=hz.melt;have HFc:=((show At w0 (w.heap.size+1) #[.slice none 0 0,.slice none 0 0,.slice none 0 0,.int .i64 0,.slice none 0 0] 68 from hz).set5 (.slice g.ta g.ts.length g.tc) (.slice g.fa g.fs.length g.fc) (.slice g.ma g.ms.length g.mc) (.int .i64 g.en) (.slice none 0 0)).cell
 unfold ztw;have HT:Hid (zaH g (-1)=[]):=zlK rfl;unfold tbZ at d0;unfold zao;clear hz hg;go_enter Tryz.func30,Tryz.ntmps30;go_wp2_with (rw[<- HW0.out])
 exact bodyPost_ret (v:=tbV g (.slice none 0 0)) (by simp[results,Tryz.results30,go_sem,HFc,tbV]) rfl ⟨_,rfl,by rw[HT.out];exact OwnI.nil _ _,zbB HB0.out (by omega) _ _ _ _ _⟩
abbrev zwT:Oper:=⟨some 12,.load 26 (.tmp 2),26,"table.go:25",#[],none⟩
abbrev zwp:Oper:=⟨some 13,.fieldAddr 26 (.tmp 2) 0,0,"table.go:25",#[],none⟩
abbrev zwZ:Oper:=⟨some 14,.load 22 (.tmp 13),22,"table.go:25",#[⟨1,.data⟩],none⟩
abbrev zww:Oper:=⟨some 15,.move (.tmp 1),3,"table.go:25",#[],none⟩
abbrev zwN:Oper:=⟨some 16,.indexAddr 22 (.tmp 14) (.tmp 15),0,"table.go:25",#[⟨2,.data⟩,⟨3,.data⟩],none⟩
abbrev zwS:Oper:=⟨some 17,.fieldAddr 44 (.tmp 16) 2,0,"table.go:25",#[⟨4,.data⟩],none⟩
abbrev zxl:Oper:=⟨some 18,.load 3 (.tmp 17),3,"table.go:25",#[⟨5,.data⟩],none⟩
abbrev zvC:Oper:=⟨some 19,.call ⟨.value (.func 30),#[.tmp 12,.tmp 18],#[26,3]⟩,68,"table.go:25",#[⟨0,.data⟩,⟨6,.data⟩],none⟩
abbrev zt3:Oper:=⟨some 20,.build 90 #[(0,.tmp 19)],90,"table.go:25",#[⟨7,.data⟩],none⟩
abbrev zvg:Oper:=⟨some 5,.alloc 90,0,"table.go:25",#[],none⟩
abbrev zr6:Oper:=⟨none,.store 90 (.tmp 5) (.tmp 20),0,"table.go:25",#[⟨9,.data⟩,⟨8,.data⟩,⟨7,.chain⟩,⟨0,.phase⟩,⟨1,.phase⟩,⟨2,.phase⟩,⟨3,.phase⟩,⟨4,.phase⟩,⟨5,.phase⟩,⟨6,.phase⟩,⟨7,.phase⟩,⟨8,.phase⟩,⟨9,.phase⟩],none⟩
theorem zqe {g:Img} (W:Wel g) {q:Nat} (hq:q<g.ts.length):g.ts[q].ex = -1∨zam g.ts[q].ex g.ts.length=true:=by
 have hn:zam (q:Int) g.ts.length=true:=zai.2 (by omega)
 have hx:=W.ext _ hn;unfold zb5 at hx;rw[zbi hq,Bool.and_eq_true,Bool.or_eq_true]at hx
 rcases hx.1 with h | h
 ·exact Or.inl (by simpa using h)
 ·rw[Bool.and_eq_true]at h;refine Or.inr (zbk ?_);have:zag g g.ts[q].ex=0:=by simpa using h.1
  rw[this];decide
theorem zqi {g:Img} {V T0:List Int} {i:Nat} (hi:i<V.length):(V.take (i+1)).foldl (zbq g) T0=zbq g ((V.take i).foldl (zbq g) T0) V[i]:=by
 rw[List.take_succ_eq_append_getElem hi,List.foldl_append];rfl
def Sep13 (w:World) (vv:Value) (cb:Nat) (mv:Value):Prop:=∀ k,vv.ownBlock=some k->k<w.heap.size/\k≠cb/\mv.ownBlock≠some k
theorem Sep13.next {w w':World} {vv mv mv':Value} {cb:Nat} (h:Sep13 w vv cb mv) (hk:Kept13 w w' cb mv mv'):Sep13 w' vv cb mv':=λk e=>by
 obtain⟨h1,h2,h3⟩:=h k e;refine⟨Nat.lt_of_lt_of_le h1 hk.size,h2,λe2=>?_⟩
 rcases hk.place k e2 with e3 | e3
 ·exact h3 e3
 ·omega
theorem Sep13.is {w w':World} {vv mv mv':Value} {cb:Nat} {l:List Int} (h:Sep13 w vv cb mv) (hk:Kept13 w w' cb mv mv') (hi:Is w vv l):Is w' vv l:=
 hi.keep hk.size λk e=>by
  obtain⟨h1,h2,h3⟩:=h k e;exact hk.block k h1 h2 h3
set_option maxRecDepth 20000 in
theorem ziS {g:Img} {q:Nat} {w:World} (hg:Im w g) (hw:zaY g=true) (hq:q<g.ts.length) (IH:∀ W,Im W g->ztw g g.ts[q].ex W):ztw g (q:Int) w:=by
 obtain⟨w0,HW0,HB0,HC,HI⟩:=zlo hg;have W0:=Wel.of hw;have hi:=W0.im;have hln:=zax hi;have hn:zam (q:Int) g.ts.length=true:=zai.2 (by omega)
 have HRec:Hid (∀ W,Below w0.heap.size w0 W->Calls Tryz.prog 30 #[zao g,.int .i64 g.ts[q].ex] W λe w'=>∃ v,e=.returned (tbV g v)/\OwnI w' W.heap.size v (zaH g g.ts[q].ex)/\Below W.heap.size W w'):=λW hW=>IH W (HI.out W hW)
 have HVr:Hid (∀ W,Below w0.heap.size w0 W->Calls Tryz.prog 57 #[zao g,.int .i64 q] W λe w'=>∃ v,e=.returned v/\OwnI w' W.heap.size v (zaX g (q:Int))/\Below W.heap.size W w'):=λW hW=>zed (HI.out W hW) hi
 have HT:Hid (zaH g (q:Int)=(zaX g (q:Int)).foldl (zbq g) (zaH g g.ts[q].ex)):=by show _=_;rw[zdz W0 hn,zbi hq]
 have HTn:Hid (∀ x∈zaH g g.ts[q].ex,zbT g x):=λx hx=>zbM hx
 have HVn:Hid (∀ x∈zaX g (q:Int),zbT g x):=λx hx=>zhh hx
 have hvl:=zjq g (q:Int);have htl:(zaH g g.ts[q].ex).length<=2048:=by
  have h1:=zk5 (g:=g) g.ts[q].ex;have h2:g.ts.length * g.ms.length<=32 * 64:=Nat.mul_le_mul hln.1 hln.2.2;omega
 have HPut:Hid (∀ (W:World) (cb:Nat) (mv:Value) (L:List Int) (m:Int),Cls13 w0 W cb g mv L->(∀ x∈L,zbT g x)->L.length<=10000->zbT g m->Calls Tryz.prog 58 #[.pointer (some ⟨cb,0,none⟩),.int .i64 m] W λe w'=>e=.returned (.tuple #[])/\∃ mv',Cls13 w0 w' cb g mv' (zbq g L m)/\Kept13 W w' cb mv mv'):=λW cb mv L m h1 h2 h3 h4=>zpA h1 hi h2 h3 h4
 obtain⟨tb,off,cap,hv,h1,h2,hb,hc⟩:=(HI.out w0 (Below.refl _ _)).ts.parts (by intro e;rw[e]at hq;simp at hq)
 simp only[Value.slice.injEq]at hv;obtain⟨hta,_,hcap⟩:=hv;subst hcap;have HEx:Hid (∀ W,Below w0.heap.size w0 W->W.cell? ⟨tb,off+q * 4+2,none⟩=some (.int .i64 g.ts[q].ex)):=λW hW=>((show El tdE w0 tb (off+q * 4) g.ts[q] from hc q hq).below hW hb).cells_T.2.2.1
 have HK:Hid (∀ W,Below w0.heap.size w0 W->Im4 W w.heap.size g/\W.cell? ⟨tb,off+q * 4+2,none⟩=some (.int .i64 g.ts[q].ex)):=λW hW=>⟨(HC.out W hW).1,HEx.out W hW⟩
 have HRb:Hid (∀ W,Below w0.heap.size w0 W->At W (w.heap.size+1) tbZ 68):=λW hW=>(HC.out W hW).2
 have HIw:Hid (Im w0 g):=HI.out w0 (Below.refl _ _);have hqi:(q:Int)<(g.ts.length:Int):=by omega
 obtain⟨⟨c0,c1,c2,c3⟩,hz⟩:=HC.out w0 (Below.refl _ _);have hxe:=HEx.out w0 (Below.refl _ _);rw[hta]at c0;have HTA:Hid (g.ta=some ⟨tb,off,none⟩):=hta;unfold maxLen at h2;unfold ztw;unfold zao at HRec HVr ⊢;unfold tbV at HRec ⊢;unfold Im4 at HK;clear hz hc hg hw IH W0 hi HC HI HEx;generalize zaH g g.ts[q].ex=T0 at *;generalize zaH g (q:Int)=R at *;generalize zaX g (q:Int)=V at *;generalize g.ts[q]=x at *;rw[hta]at HW0 HRec HVr HK ⊢;clear hta;go_enter Tryz.func30,Tryz.ntmps30;go_wp2_with (rw[<- HW0.out])
 refine wp_region_held_drew (S:=(λW=>(W.cell? ⟨w.heap.size,0,none⟩=some (.slice (some ⟨tb,off,none⟩) g.ts.length g.tc)/\W.cell? ⟨w.heap.size,1,none⟩=some (.slice g.fa g.fs.length g.fc)/\W.cell? ⟨w.heap.size,2,none⟩=some (.slice g.ma g.ms.length g.mc)/\W.cell? ⟨w.heap.size,3,none⟩=some (.int .i64 g.en))/\W.cell? ⟨tb,off+q * 4+2,none⟩=some (.int .i64 x.ex))) (by kernel_rfl) (HK.out _ (zad _)) (λyb=>?_)
 refine tY 0 zwT (.agg #[.slice (some ⟨tb,off,none⟩) g.ts.length g.tc,.slice g.fa g.fs.length g.fc,.slice g.ma g.ms.length g.mc,.int .i64 g.en]) yb ?_;refine tY 1 zwp (.pointer (some ⟨w.heap.size,0,none⟩)) yb ?_;refine tY 2 zwZ (.slice (some ⟨tb,off,none⟩) g.ts.length g.tc) yb ?_;refine tY 3 zww (.int .i64 (q:Int)) yb ?_;refine tY 4 zwN (.pointer (some ⟨tb,off+q * 4,none⟩)) yb ?_;refine tY 5 zwS (.pointer (some ⟨tb,off+q * 4+2,none⟩)) yb ?_;refine tY 6 zxl (.int .i64 x.ex) yb ?_;refine wpAnyH_ready (rs:=[7,9]) (by kernel_rfl) (by simp) ?_
 refine AllReadyH.cons (o:=zvC) rfl (λK hK=>?_) (AllReadyH.cons (o:=zvg) rfl (λK hK=>?_) AllReadyH.nil)
 focus
  go_simp
  refine (HRec.out _ (zad _)).mono ?_;rintro e w1 ⟨tv,rfl,ho1,hb1⟩;obtain⟨va,vc,htv,_,hvc⟩:=ho1.is.shape;subst htv;have hBc:Below w0.heap.size w0 w1:=zaa (zad _) hb1
  try go_wp2_with fail
  refine hK.out _ _ (HK.out _ hBc) (λyb=>?_)
  clear hK K
  try simp only[Act.put,sA,s0,sS]
  refine tY 8 zt3 (.agg #[.slice (some ⟨tb,off,none⟩) g.ts.length g.tc,.slice g.fa g.fs.length g.fc,.slice g.ma g.ms.length g.mc,.int .i64 g.en,.slice va T0.length vc]) yb ?_;refine wpAnyH_ready (rs:=[9]) (by kernel_rfl) (by simp) ?_
  refine AllReadyH.cons (o:=zvg) rfl (λK hK=>?_) AllReadyH.nil
  go_simp
  obtain⟨wB,hwB⟩:∃ W,W=w1.alloc (.cells #[.slice none 0 0,.slice none 0 0,.slice none 0 0,.int .i64 0,.slice none 0 0] 90):=⟨_,rfl⟩;rw[<- hwB];have hbB:Below w1.heap.size w1 wB:=by rw[hwB];exact zac _ _ _
  have hAt:At wB w1.heap.size #[.slice none 0 0,.slice none 0 0,.slice none 0 0,.int .i64 0,.slice none 0 0] 90:=by rw[hwB];exact At.made _ _ _
  have HBB:Hid (Below w0.heap.size w0 wB):=zaa hBc hbB;have HOB:Hid (OwnI wB w0.heap.size (.slice va T0.length vc) T0):=ho1.later hbB;have hcl:w0.heap.size<=w1.heap.size:=hBc.size;clear hwB hbB ho1 hb1 hBc;generalize w1.heap.size=cb at *;refine hK.out _ _ (HK.out _ HBB.out) (λyb=>?_)
  clear hK K
  try simp only[Act.put,sA,s0,sS]
  have hxB:=hAt.cell;have hmB:=hAt.melt;refine wpAnyH_ready (rs:=[10]) (by kernel_rfl) (by simp) ?_
  refine AllReadyH.cons (o:=zr6) rfl (λK hK=>?_) AllReadyH.nil
  go_simp
  refine hK.out _ _ (HK.out _ (zbB HBB.out hcl _ _ _ _ _)) (λyb=>?_)
  clear hK K
  try simp only[Act.put,sA,s0,sS]
  refine wpAnyH_done (by kernel_rfl) ?_ _
  obtain⟨wS,hwS⟩:∃ W,W=(((((wB.setCell ⟨cb,0,none⟩ (.slice (some ⟨tb,off,none⟩) g.ts.length g.tc)).setCell ⟨cb,1,none⟩ (.slice g.fa g.fs.length g.fc)).setCell ⟨cb,2,none⟩ (.slice g.ma g.ms.length g.mc)).setCell ⟨cb,3,none⟩ (.int .i64 g.en)).setCell ⟨cb,4,none⟩ (.slice va T0.length vc)):=⟨_,rfl⟩;rw[<- hwS];have HCl:Hid (Cls13 w0 wS cb g (.slice va T0.length vc) T0):=by
   refine⟨HIw.out, ?_, ?_, ?_,hcl⟩
   ·rw[hwS];exact zbB HBB.out hcl _ _ _ _ _
   ·have:=hAt.set5 (.slice (some ⟨tb,off,none⟩) g.ts.length g.tc) (.slice g.fa g.fs.length g.fc) (.slice g.ma g.ms.length g.mc) (.int .i64 g.en) (.slice va T0.length vc);rw[<- hwS]at this;unfold tbC;rw[HTA.out];exact this
   ·rw[hwS];refine HOB.out.of_block λk hk _=>zd2 (λe=>?_) _ _ _ _ _
    exact HOB.out.ne hAt (by decide) (e ▸ hk)
  clear hwS hAt hcl HBB HOB yb hxB hmB
 rotate_left
 focus
  go_simp
  obtain⟨wA,hwA⟩:∃ W,W=(w0.alloc (.cells #[.slice none 0 0,.slice none 0 0,.slice none 0 0,.int .i64 0,.slice none 0 0] 90)).drew:=⟨_,rfl⟩;rw[<- hwA];have hbA:Below w0.heap.size w0 wA:=by rw[hwA];exact (zac _ _ _).drew
  have hAA:At wA w0.heap.size #[.slice none 0 0,.slice none 0 0,.slice none 0 0,.int .i64 0,.slice none 0 0] 90:=by rw[hwA];exact At.made _ _ _
  have hcl:w0.heap.size<=w0.heap.size:=Nat.le_refl _;clear hwA;refine hK.out _ _ (HK.out _ hbA) (λyb=>?_)
  clear hK K
  try simp only[Act.put,sA,s0,sS]
  refine wpAnyH_ready (rs:=[7]) (by kernel_rfl) (by simp) ?_
  refine AllReadyH.cons (o:=zvC) rfl (λK hK=>?_) AllReadyH.nil
  go_simp
  refine (HRec.out wA hbA).mono ?_;rintro e wB ⟨tv,rfl,ho1,hb1⟩;obtain⟨va,vc,htv,_,hvc⟩:=ho1.is.shape;subst htv;have hAt:=hAA.later hb1;have HBB:Hid (Below w0.heap.size w0 wB):=zaa hbA hb1;have HOB:Hid (OwnI wB w0.heap.size (.slice va T0.length vc) T0):=ho1.mono hbA.size;clear hbA hAA ho1 hb1
  try go_wp2_with fail
  refine hK.out _ _ (HK.out _ HBB.out) (λyb=>?_)
  clear hK K
  try simp only[Act.put,sA,s0,sS]
  obtain⟨cb,hcb⟩:∃ c,c=w0.heap.size:=⟨_,rfl⟩;rw[<- hcb]at hAt ⊢
  replace hcl:w0.heap.size<=cb:=by omega
  clear hcb;refine tY 8 zt3 (.agg #[.slice (some ⟨tb,off,none⟩) g.ts.length g.tc,.slice g.fa g.fs.length g.fc,.slice g.ma g.ms.length g.mc,.int .i64 g.en,.slice va T0.length vc]) yb ?_;have hxB:=hAt.cell;have hmB:=hAt.melt;refine wpAnyH_ready (rs:=[10]) (by kernel_rfl) (by simp) ?_
  refine AllReadyH.cons (o:=zr6) rfl (λK hK=>?_) AllReadyH.nil
  go_simp
  refine hK.out _ _ (HK.out _ (zbB HBB.out hcl _ _ _ _ _)) (λyb=>?_)
  clear hK K
  try simp only[Act.put,sA,s0,sS]
  refine wpAnyH_done (by kernel_rfl) ?_ _
  obtain⟨wS,hwS⟩:∃ W,W=(((((wB.setCell ⟨cb,0,none⟩ (.slice (some ⟨tb,off,none⟩) g.ts.length g.tc)).setCell ⟨cb,1,none⟩ (.slice g.fa g.fs.length g.fc)).setCell ⟨cb,2,none⟩ (.slice g.ma g.ms.length g.mc)).setCell ⟨cb,3,none⟩ (.int .i64 g.en)).setCell ⟨cb,4,none⟩ (.slice va T0.length vc)):=⟨_,rfl⟩;rw[<- hwS];have HCl:Hid (Cls13 w0 wS cb g (.slice va T0.length vc) T0):=by
   refine⟨HIw.out, ?_, ?_, ?_,hcl⟩
   ·rw[hwS];exact zbB HBB.out hcl _ _ _ _ _
   ·have:=hAt.set5 (.slice (some ⟨tb,off,none⟩) g.ts.length g.tc) (.slice g.fa g.fs.length g.fc) (.slice g.ma g.ms.length g.mc) (.int .i64 g.en) (.slice va T0.length vc);rw[<- hwS]at this;unfold tbC;rw[HTA.out];exact this
   ·rw[hwS];refine HOB.out.of_block λk hk _=>zd2 (λe=>?_) _ _ _ _ _
    exact HOB.out.ne hAt (by decide) (e ▸ hk)
  clear hwS hAt hcl HBB HOB yb hxB hmB
 all_goals clear hxe c0 c1 c2 c3
 all_goals
  obtain⟨⟨c0,c1,c2,c3⟩,_⟩:=HK.out wS HCl.out.bel;go_wp2_with fail
  refine Calls.mono (HVr.out wS HCl.out.bel) ?_;rintro e w2 ⟨vv,rfl,ho2,hb2⟩;have HC2:Hid (Cls13 w0 w2 cb g (.slice va T0.length vc) T0):=HCl.out.later hb2;have hsp:Sep13 w2 vv cb (.slice va T0.length vc):=λk e=>by
   have h1:=ho2.block k e;have h2:=HCl.out.box.lt;refine⟨h1.2,by omega,λe2=>?_⟩
   have h3:=HCl.out.own.block k e2;omega
  obtain⟨ua,uc,hvv,_,huc⟩:=ho2.is.shape;have hvi:=ho2.is;subst hvv;have HV2:Hid (Is w2 (.slice ua V.length uc) V):=hvi;have HS2:Hid (Sep13 w2 (.slice ua V.length uc) cb (.slice va T0.length vc)):=hsp;have hva:V.length<=64:=by omega
  unfold maxLen at huc;clear ho2 hb2 hvi hsp c0 c1 c2 c3 HVr HRec HCl;go_wp2_with fail
  go_loopw [7,25] (λ_ z wr=>∃ (i:Nat) (mv:Value),i<=V.length/\z=.int .i64 i/\Hid (Cls13 w0 wr cb g mv ((V.take i).foldl (zbq g) T0))/\Hid (Is wr (.slice ua V.length uc) V)/\Hid (Sep13 wr (.slice ua V.length uc) cb mv)) (λ_ z _=>V.length - (intOf z).toNat)
  case atStart=>exact⟨0,_,Nat.zero_le _,rfl,HC2.out,HV2.out,HS2.out⟩
  case round =>
   obtain⟨i,mv,hil0,rfl,HCr,HVs,HSs⟩:=hrel;by_cases hil:i<V.length
   ·have hii:(i:Int)<(V.length:Int):=by omega
    have HNx:Hid ((V.take (i+1)).foldl (zbq g) T0=zbq g ((V.take i).foldl (zbq g) T0) V[i]):=zqi hil;obtain⟨lb,loff,hla,hlb,_,h6',h7',hcv⟩:=(HVs.out).at hil;have cA:=hcv i hil;have HPq:Hid _:=HPut.out wr cb mv _ V[i] HCr.out (λx hx=>by
     rcases zeB hx with hx | hx
     ·exact HTn.out x hx
     ·exact HVn.out x (List.mem_of_mem_take hx)) (by
      have:=zeA (g:=g) (V.take i) T0;rw[List.length_take]at this;omega) (HVn.out _ (List.getElem_mem hil))
    subst hla;clear hcv;generalize V[i]=y at *;go_wp2_with fail
    refine Calls.mono HPq.out ?_;rintro e w3 ⟨rfl,mv',hc3,hk3⟩;have HC3:Hid (Cls13 w0 w3 cb g mv' ((V.take (i+1)).foldl (zbq g) T0)):=by show Cls13 _ _ _ _ _ _;rw[HNx.out];exact hc3
    have HV3:Hid (Is w3 (.slice (some ⟨lb,loff,none⟩) V.length uc) V):=HSs.out.is hk3 HVs.out;have HS3:Hid (Sep13 w3 (.slice (some ⟨lb,loff,none⟩) V.length uc) cb mv'):=HSs.out.next hk3
    clear hc3 hk3 HPq cA;go_wp2_with fail
    go_roundw
    case rel=>exact⟨i+1,mv',by omega,by go_num,HC3.out,HV3.out,HS3.out⟩
    case measure=>simp[intOf];omega
   ·have hii:¬ (i:Int)<(V.length:Int):=by omega
    have HE:Hid (Cls13 w0 wr cb g mv R):=by
     have:=HCr.out;rw[List.take_of_length_le (by omega),<- HT.out]at this
     exact this
    obtain⟨ma,mc,hmv,_,_⟩:=HE.out.own.is.shape;subst hmv;obtain⟨c0,c1,c2,c3,c4⟩:=Tb5.of HE.out.box;rw[HTA.out]at c0;have hz:=HRb.out wr HE.out.bel;have d0:=hz.cell;have dm:=hz.melt;have HFc:=((show At wr (w.heap.size+1) #[.slice none 0 0,.slice none 0 0,.slice none 0 0,.int .i64 0,.slice none 0 0] 68 from hz).set5 (.slice (some ⟨tb,off,none⟩) g.ts.length g.tc) (.slice g.fa g.fs.length g.fc) (.slice g.ma g.ms.length g.mc) (.int .i64 g.en) (.slice ma R.length mc)).cell
    unfold tbZ at d0;have HO:Hid (OwnI (((((wr.setCell ⟨w.heap.size+1,0,none⟩ (.slice (some ⟨tb,off,none⟩) g.ts.length g.tc)).setCell ⟨w.heap.size+1,1,none⟩ (.slice g.fa g.fs.length g.fc)).setCell ⟨w.heap.size+1,2,none⟩ (.slice g.ma g.ms.length g.mc)).setCell ⟨w.heap.size+1,3,none⟩ (.int .i64 g.en)).setCell ⟨w.heap.size+1,4,none⟩ (.slice ma R.length mc)) w.heap.size (.slice ma R.length mc) R):=by
     refine (HE.out.own.mono HB0.out.size).of_block λk hk _=>zd2 (λe=>?_) _ _ _ _ _
     exact HE.out.own.ne hz (by decide) (e ▸ hk)
    have HBf:=zbB (zaa HB0.out HE.out.bel) (Nat.le_succ w.heap.size) (.slice (some ⟨tb,off,none⟩) g.ts.length g.tc) (.slice g.fa g.fs.length g.fc) (.slice g.ma g.ms.length g.mc) (.int .i64 g.en) (.slice ma R.length mc);have HBF:Hid _:=HBf;clear hz HBf HCr HVs HSs HE;go_wp2_with fail
    exact bodyPost_ret (v:=.agg #[.slice (some ⟨tb,off,none⟩) g.ts.length g.tc,.slice g.fa g.fs.length g.fc,.slice g.ma g.ms.length g.mc,.int .i64 g.en,.slice ma R.length mc]) (by simp[results,Tryz.results30,go_sem,HFc]) rfl ⟨_,rfl,HO.out,HBF.out⟩
theorem zeY {g:Img} (hw:zaY g=true):∀ (n:Nat) (t:Int) (w:World),(t = -1∨zam t g.ts.length=true)->(upL g t).length<=n->Im w g->ztw g t w
 | n,t,w,h,hn,hg=>by
  rcases h with rfl | h
  ·exact zia hg
  ·have W:=Wel.of hw;obtain⟨q,hq,rfl⟩:∃ q:Nat,q<g.ts.length/\t=q:=⟨t.toNat,by have:=zai.1 h;omega,by have:=zai.1 h;omega⟩
   have hc:=zbz W h;rw[zbi hq]at hc
   match n with
   | 0=>rw[hc]at hn;simp at hn
   | n+1=>exact ziS hg hw hq (λW2 hW2=>zeY hw n _ W2 (zqe W hq) (by rw[hc]at hn;simpa using hn) hW2)
theorem zb9 {g:Img} (hw:zaY g=true) {t:Int} (h:zam t g.ts.length=true) {w:World} (hg:Im w g) :
 Calls Tryz.prog 30 #[zao g,.int .i64 t] w λe w'=>∃ v,e=.returned (tbV g v)/\OwnI w' w.heap.size v (zaH g t)/\Below w.heap.size w w':=zeY hw _ t w (Or.inr h) (Nat.le_refl _) hg
theorem zmY {g:Img} {gb i:Nat} {w:World} (hG:GB w gb g) (hi:i<g.fs.length) :
 Calls Tryz.prog 168 #[.int .i64 i,.pointer (some ⟨gb,0,none⟩)] w λe w'=>e=.returned (.bool (!g.fs[i].st))/\w'=w:=by
 obtain⟨tb,off,hta,h1,h2,hty⟩:=hG.fd (by intro e;rw[e]at hi;simp at hi)
 obtain⟨d1,hd⟩:=hty w (Below.refl _ _);obtain⟨k0,k1,k2,k3,k4,k5,k6⟩:=(hd i hi).cells_F;unfold maxLen at h2;have hii:(i:Int)<(g.fs.length:Int):=by omega
 clear hta hG hty hd;generalize g.fs[i]=x at *;go_enter Tryz.func168,Tryz.ntmps168;go_wp2_with fail
 go_ret;exact⟨rfl,rfl⟩
theorem znD (g:Img) (t:Int) (h:zam t g.ts.length=true):zag g t=0∨zag g t=2∨zag g t=1∨zag g t=3:=by
 unfold zag;rw[if_pos h];exact zbp _
set_option maxRecDepth 20000 in
theorem zj1 {g:Img} {q:Nat} {w:World} (hg:Im w g) (hi:imB g=true) (hq:q<g.ts.length) :
 Calls Tryz.prog 117 #[imV g,.int .i64 q] w λe w'=>e=.returned (.bool (zes g (q:Int)))/\Below w.heap.size w w':=by
 obtain⟨w0,hw0⟩:∃ W,W=w.alloc (.cells (imC g) 26):=⟨_,rfl⟩;have HW0:Hid (w0=_):=hw0;obtain⟨hb0,hgb⟩:=GB.made hg hw0;have HB0:Hid (Below w.heap.size w w0):=hb0;have HG:Hid (GB w0 w.heap.size g):=hgb;have HK:Hid (∀ W,Below w0.heap.size w0 W->W.cell? ⟨w.heap.size,0,none⟩=some (.slice g.ta g.ts.length g.tc)/\W.cell? ⟨w.heap.size,1,none⟩=some (.slice g.fa g.fs.length g.fc)/\W.cell? ⟨w.heap.size,2,none⟩=some (.slice g.ma g.ms.length g.mc)/\W.cell? ⟨w.heap.size,3,none⟩=some (.int .i64 g.en)):=λW hW=>(hgb.later hW).cells
 have HFl:Hid (Calls Tryz.prog 164 #[.agg (imC g),.int .i64 q] w0 λe w'=>∃ v,e=.returned v/\OwnI w' w0.heap.size v (zbg g (q:Int))/\Below w0.heap.size w0 w'):=zcH hgb.im hi
 have HKd:Hid (∀ W,Below w0.heap.size w0 W->Calls Tryz.prog 16 #[.agg (imC g),.int .i64 q] W λe w'=>e=.returned (.int .i64 (zag g (q:Int)))/\Below W.heap.size W w'):=λW hW=>zaQ (q:Int) (HG.out.im.later hW) (FlOk.of hi)
 have HBV:Hid (∀ W,Calls Tryz.prog 169 #[.agg (imC g)] W λe w'=>e=.returned (.func (.func 202) #[] #[.pointer (some ⟨W.heap.size,0,none⟩)])/\w'=W.alloc (.cells (imC g) 26)):=λW=>zil W
 have HCB:Hid (∀ W,Below w0.heap.size w0 W->Calls Tryz.prog 163 #[.agg (imC g),.int .i64 q,.func (.func 202) #[] #[.pointer (some ⟨W.heap.size,0,none⟩)]] (W.alloc (.cells (imC g) 26)) λe w'=>e=.returned (.bool ((zau g.ts.length (za6 g) (za6 g (q:Int))).contains (q:Int)))/\Below W.heap.size W w'):=λW hW=>by
  have hG:=GB.made (HG.out.im.later hW) (rfl:W.alloc (.cells (imC g) 26)=_);refine (zdk hG.2.im hi hq (znu hG.2 hi)).mono ?_;rintro e w' ⟨rfl,hb⟩;exact⟨rfl,zaa hG.1 hb⟩
 have HAny:Hid (∀ W v,Below w0.heap.size w0 W->Is W v (zbg g (q:Int))->Calls Tryz.prog 159 #[v,.func (.func 168) #[] #[.pointer (some ⟨w.heap.size,0,none⟩)]] W λe w'=>e=.returned (.bool (!((zbg g (q:Int)).all (zc0 g))))/\Below W.heap.size W w'):=λW v hW hv=>by
  have:=zbd hv.toEs (f:=168) (bs:=#[]) (cs:=#[.pointer (some ⟨w.heap.size,0,none⟩)]) (p:=λf=>!zc0 g f) ⟨zah Tryz.func168 (by kernel_rfl) rfl,λW2 hW2 x hx=>by
   obtain⟨i,rfl,hil⟩:=zby hx;rw[zdY hil];have:=zmY (HG.out.later (zaa hW hW2)) hil;refine (show Calls Tryz.prog 168 _ W2 _ by simpa[zew]using this).mono ?_
   rintro e w' ⟨rfl,rfl⟩;exact⟨rfl,Below.refl _ _⟩⟩
  rw[zc5]at this;exact this
 have hk4:=znD g (q:Int) (by rw[zai];omega)
 have HR:Hid (zes g (q:Int)=(if zag g (q:Int)=2 then (zbg g (q:Int)).all (zc0 g) else if zag g (q:Int)=3 then decide (zbg g (q:Int)=[]) else if zag g (q:Int)=1 then !(zau g.ts.length (za6 g) (za6 g (q:Int))).contains (q:Int) else true)):=rfl
 obtain⟨c0,c1,c2,c3⟩:=hgb.cells;unfold imC at HW0 HFl HKd HBV HCB;clear hw0 hb0 hgb hg hi HG;generalize (zbg g (q:Int)).all (zc0 g)=r1 at *;generalize (zau g.ts.length (za6 g) (za6 g (q:Int))).contains (q:Int)=r2 at *;generalize zes g (q:Int)=F at *;generalize zbg g (q:Int)=L at *;generalize zag g (q:Int)=k at *;unfold imV;go_enter Tryz.func117,Tryz.ntmps117;go_wp2_with (rw[<- HW0.out])
 refine Calls.mono HFl.out ?_;rintro e w1 ⟨fv,rfl,hf,hb1⟩;have HB1:Hid (Below w0.heap.size w0 w1):=hb1;have HFv:Hid (∀ W,Below w1.heap.size w1 W->Is W fv L):=λW hW=>hf.is.later hW
 obtain⟨la,lc,hfv,_,hlc⟩:=(show Is w1 fv L from hf.is).shape
 clear c0 c1 c2 c3 hf hb1 HFl;obtain⟨c0,c1,c2,c3⟩:=HK.out w1 HB1.out;go_wp2_with fail
 refine Calls.mono (HKd.out w1 HB1.out) ?_;rintro e w2 ⟨rfl,hb2⟩;have HB2:Hid (Below w0.heap.size w0 w2):=zaa HB1.out hb2;have HFv2:Hid (∀ W,Below w2.heap.size w2 W->Is W fv L):=λW hW=>HFv.out W (zaa hb2 hW)
 clear c0 c1 c2 c3 hb2 HFv
 rcases hk4 with rfl | rfl | rfl | rfl
 ·have HR2:Hid (F=true):=by show _=_;rw[HR.out];rfl
  go_wp2_with fail
  go_ret;exact⟨zab HR2.out.symm,zaa HB0.out HB2.out⟩
 ·have HR2:Hid (F=r1):=by show _=_;rw[HR.out];rfl
  have HC:Hid (Calls Tryz.prog 159 #[fv,.func (.func 168) #[] #[.pointer (some ⟨w.heap.size,0,none⟩)]] w2 λe w'=>e=.returned (.bool (!r1))/\Below w2.heap.size w2 w'):=HAny.out w2 fv HB2.out (HFv2.out w2 (Below.refl _ _))
  subst hfv;go_wp2_with fail
  refine Calls.mono HC.out ?_;rintro e w3 ⟨rfl,hb3⟩;have HB3:Hid (Below w0.heap.size w0 w3):=zaa HB2.out hb3;clear hb3 HC;go_wp2_with fail
  go_ret;exact⟨zab (by rw[HR2.out];try simp),zaa HB0.out HB3.out⟩
 ·have HR2:Hid (F=!r2):=by show _=_;rw[HR.out];rfl
  have HQ:Hid (∀ W,Below w2.heap.size w2 W->W.cell? ⟨w.heap.size,0,none⟩=some (.slice g.ta g.ts.length g.tc)/\W.cell? ⟨w.heap.size,1,none⟩=some (.slice g.fa g.fs.length g.fc)/\W.cell? ⟨w.heap.size,2,none⟩=some (.slice g.ma g.ms.length g.mc)/\W.cell? ⟨w.heap.size,3,none⟩=some (.int .i64 g.en)):=λW hW=>HK.out W (zaa HB2.out hW)
  obtain⟨c0,c1,c2,c3⟩:=HQ.out w2 (Below.refl _ _);subst hfv;go_wp2_with fail
  go_region_held3 (λW:World=>W.cell? ⟨w.heap.size,0,none⟩=some (.slice g.ta g.ts.length g.tc)/\W.cell? ⟨w.heap.size,1,none⟩=some (.slice g.fa g.fs.length g.fc)/\W.cell? ⟨w.heap.size,2,none⟩=some (.slice g.ma g.ms.length g.mc)/\W.cell? ⟨w.heap.size,3,none⟩=some (.int .i64 g.en))
   (first | (exact HQ.out _ hB3) | (exact HQ.out _ (zbN (zad _) _)) | (exact HQ.out _ (zad _)))
   (first | (go_at_call 169;refine (HBV.out _).mono ?_;rintro e wz ⟨rfl,hz2⟩;subst hz2) | (go_at_call 163;refine (HCB.out _ (zaa HB2.out (zad _))).mono ?_;rintro e w3 ⟨rfl,hz3⟩;have hB3:Below w2.heap.size w2 w3:=zaa (zad _) hz3))
  rename_i hheld
  clear hheld;have HBe:Hid (Below w0.heap.size w0 w3):=zaa HB2.out hB3;clear hz3 hB3 c0 c1 c2 c3;go_wp2_with fail
  go_ret;exact⟨zab (by rw[HR2.out];try simp),zaa HB0.out HBe.out⟩
 ·have hd:((L.length:Int)==0)=decide (L=[]):=by
   rw[Bool.eq_iff_iff];simp
  have HR2:Hid (F=((L.length:Int)==0)):=by show _=_;rw[HR.out,hd];rfl
  clear hd;subst hfv;go_wp2_with fail
  go_ret;exact⟨zab (by rw[HR2.out];try simp),zaa HB0.out HB2.out⟩
theorem zjE {g:Img} {q:Nat} {w:World} (hg:Im w g) (hi:imB g=true) (hq:q<g.ts.length) :
 Calls Tryz.prog 87 #[imV g,.int .i64 q] w λe w'=>e=.returned (.int .i64 (zdw g (q:Int)))/\Below w.heap.size w w':=by
 obtain⟨w0,hw0⟩:∃ W,W=w.alloc (.cells (imC g) 26):=⟨_,rfl⟩;have HW0:Hid (w0=_):=hw0;obtain⟨hb0,hgb⟩:=GB.made hg hw0;have HB0:Hid (Below w.heap.size w w0):=hb0;have HG:Hid (GB w0 w.heap.size g):=hgb;have HK:Hid (∀ W,Below w0.heap.size w0 W->W.cell? ⟨w.heap.size,0,none⟩=some (.slice g.ta g.ts.length g.tc)/\W.cell? ⟨w.heap.size,1,none⟩=some (.slice g.fa g.fs.length g.fc)/\W.cell? ⟨w.heap.size,2,none⟩=some (.slice g.ma g.ms.length g.mc)/\W.cell? ⟨w.heap.size,3,none⟩=some (.int .i64 g.en)):=λW hW=>(hgb.later hW).cells
 have HisOfItsKind:Hid (∀ W,Below w0.heap.size w0 W->Calls Tryz.prog 113 #[.agg (imC g),.int .i64 q] W λe w'=>e=.returned (.bool (zct (flI g (q:Int)) (exI g (q:Int))))/\Below W.heap.size W w'):=λW hW=>by rw[zek hq,zbi hq];exact zmG (HG.out.im.later hW) hi hq
 have HextendsWell:Hid (∀ W,Below w0.heap.size w0 W->Calls Tryz.prog 114 #[.agg (imC g),.int .i64 q] W λe w'=>e=.returned (.bool (zb5 g (q:Int)))/\Below W.heap.size W w'):=λW hW=>znC (HG.out.im.later hW) hi hq
 have HhasFacesWell:Hid (∀ W,Below w0.heap.size w0 W->Calls Tryz.prog 115 #[.agg (imC g),.int .i64 q] W λe w'=>e=.returned (.bool (zcd g (q:Int)))/\Below W.heap.size W w'):=λW hW=>zow (HG.out.im.later hW) hi hq
 have HisNamedWell:Hid (∀ W,Below w0.heap.size w0 W->Calls Tryz.prog 116 #[.agg (imC g),.int .i64 q] W λe w'=>e=.returned (.bool (zfc g (q:Int)))/\Below W.heap.size W w'):=λW hW=>zkS (HG.out.im.later hW) hi hq
 have HholdsWell:Hid (∀ W,Below w0.heap.size w0 W->Calls Tryz.prog 117 #[.agg (imC g),.int .i64 q] W λe w'=>e=.returned (.bool (zes g (q:Int)))/\Below W.heap.size W w'):=λW hW=>zj1 (HG.out.im.later hW) hi hq
 have HR:Hid (zdw g (q:Int)=if (zct (flI g (q:Int)) (exI g (q:Int))&&zb5 g (q:Int)&&zcd g (q:Int))=false then 7 else if zfc g (q:Int)=false then 18 else if zes g (q:Int)=false then 20 else 0):=rfl
 obtain⟨c0,c1,c2,c3⟩:=hgb.cells;unfold imC at HW0 HisOfItsKind HextendsWell HhasFacesWell HisNamedWell HholdsWell;clear hw0 hb0 hgb hg hi HG;generalize zdw g (q:Int)=F at *;generalize zct (flI g (q:Int)) (exI g (q:Int))=b1 at *;generalize zb5 g (q:Int)=b2 at *;generalize zcd g (q:Int)=b3 at *;generalize zfc g (q:Int)=b4 at *;generalize zes g (q:Int)=b5 at *;unfold imV;go_enter Tryz.func87,Tryz.ntmps87;go_wp2_with (rw[<- HW0.out])
 refine Calls.mono (HisOfItsKind.out w0 (Below.refl _ _)) ?_;rintro e w1 ⟨rfl,hb1⟩;have HBw1:Hid (Below w0.heap.size w0 w1):=hb1;clear hb1 c0 c1 c2 c3
 cases b1 with
 | false =>
  have HR2:Hid (F=7):=by show _=_;rw[HR.out];rfl
  go_wp2_with fail
  go_ret;exact⟨by rw[HR2.out];rfl,zaa HB0.out HBw1.out⟩
 | true =>
 obtain⟨c0,c1,c2,c3⟩:=HK.out w1 HBw1.out;go_wp2_with fail
 refine Calls.mono (HextendsWell.out w1 HBw1.out) ?_;rintro e w2 ⟨rfl,hb2⟩;have HBw2:Hid (Below w0.heap.size w0 w2):=zaa HBw1.out hb2;clear hb2 c0 c1 c2 c3
 cases b2 with
 | false =>
  have HR2:Hid (F=7):=by show _=_;rw[HR.out];rfl
  go_wp2_with fail
  go_ret;exact⟨by rw[HR2.out];rfl,zaa HB0.out HBw2.out⟩
 | true =>
 obtain⟨c0,c1,c2,c3⟩:=HK.out w2 HBw2.out;go_wp2_with fail
 refine Calls.mono (HhasFacesWell.out w2 HBw2.out) ?_;rintro e w3 ⟨rfl,hb3⟩;have HBw3:Hid (Below w0.heap.size w0 w3):=zaa HBw2.out hb3;clear hb3 c0 c1 c2 c3
 cases b3 with
 | false =>
  have HR2:Hid (F=7):=by show _=_;rw[HR.out];rfl
  go_wp2_with fail
  go_ret;exact⟨by rw[HR2.out];rfl,zaa HB0.out HBw3.out⟩
 | true =>
 obtain⟨c0,c1,c2,c3⟩:=HK.out w3 HBw3.out;go_wp2_with fail
 refine Calls.mono (HisNamedWell.out w3 HBw3.out) ?_;rintro e w4 ⟨rfl,hb4⟩;have HBw4:Hid (Below w0.heap.size w0 w4):=zaa HBw3.out hb4;clear hb4 c0 c1 c2 c3
 cases b4 with
 | false =>
  have HR2:Hid (F=18):=by show _=_;rw[HR.out];rfl
  go_wp2_with fail
  go_ret;exact⟨by rw[HR2.out];rfl,zaa HB0.out HBw4.out⟩
 | true =>
 obtain⟨c0,c1,c2,c3⟩:=HK.out w4 HBw4.out;go_wp2_with fail
 refine Calls.mono (HholdsWell.out w4 HBw4.out) ?_;rintro e w5 ⟨rfl,hb5⟩;have HBw5:Hid (Below w0.heap.size w0 w5):=zaa HBw4.out hb5;clear hb5 c0 c1 c2 c3
 cases b5 with
 | false =>
  have HR2:Hid (F=20):=by show _=_;rw[HR.out];rfl
  go_wp2_with fail
  go_ret;exact⟨by rw[HR2.out];rfl,zaa HB0.out HBw5.out⟩
 | true =>
 have HR2:Hid (F=0):=by show _=_;rw[HR.out];rfl
 go_wp2_with fail
 go_ret;exact⟨by rw[HR2.out];rfl,zaa HB0.out HBw5.out⟩
theorem zoa (g:Img) (t:Int):zdw g t=7∨zdw g t=18∨zdw g t=20∨zdw g t=0:=by
 unfold zdw
 split
 ·simp
 ·split
  ·simp
  ·split <;> simp
theorem zcp {a b c d:Int} (h:(a,b)=(c,d)):Ending.returned (.tuple #[.int .i64 a,.int .i64 b])=.returned (.tuple #[.int .i64 c,.int .i64 d]):=by cases h;rfl
theorem zpE {g:Img} {k i:Nat} {e:Int} (h:zdw g i=e) (he:e≠0):zfk g (k+1) i=((i:Int),e):=by unfold zfk;rw[h,if_neg he]
theorem zrb {g:Img} {k i:Nat} (h:zdw g i=0):zfk g (k+1) i=zfk g k (i+1):=by rw[zfk,if_pos h]
theorem ze8 {g:Img} {w:World} (hg:Im w g) :
 Calls Tryz.prog 63 #[imV g] w λe w'=>e=.returned (.tuple #[.int .i64 (zcg g).1,.int .i64 (zcg g).2])/\Below w.heap.size w w':=by
 obtain⟨w0,hw0⟩:∃ W,W=w.alloc (.cells (imC g) 26):=⟨_,rfl⟩;have HW0:Hid (w0=_):=hw0;obtain⟨hb0,hgb⟩:=GB.made hg hw0;have HB0:Hid (Below w.heap.size w w0):=hb0;have HG:Hid (GB w0 w.heap.size g):=hgb;have HFm:Hid (Calls Tryz.prog 86 #[.agg (imC g)] w0 λe w'=>e=.returned (.bool (imB g))/\Below w0.heap.size w0 w'):=zmR hgb.im
 have HC4:Hid (∀ W,Below w0.heap.size w0 W->W.cell? ⟨w.heap.size,0,none⟩=some (.slice g.ta g.ts.length g.tc)/\W.cell? ⟨w.heap.size,1,none⟩=some (.slice g.fa g.fs.length g.fc)/\W.cell? ⟨w.heap.size,2,none⟩=some (.slice g.ma g.ms.length g.mc)/\W.cell? ⟨w.heap.size,3,none⟩=some (.int .i64 g.en)):=λW hW=>(hgb.later hW).cells
 obtain⟨c0,c1,c2,c3⟩:=hgb.cells;have htl:=hg.ts.len;unfold maxLen at htl;unfold imC at HW0 HFm;clear hw0 hb0 hgb hg;unfold imV;go_enter Tryz.func63,Tryz.ntmps63;go_wp2_with (rw[<- HW0.out])
 refine Calls.mono HFm.out ?_;rintro e w1 ⟨rfl,hb1⟩;have HB1:Hid (Below w0.heap.size w0 w1):=hb1;clear hb1 c0 c1 c2 c3 HFm
 cases hi:imB g with
 | false =>
  have HE:Hid (zcg g=(0,17)):=by show _=_;unfold zcg;rw[hi];rfl
  clear hi;go_wp2_with fail
  go_ret2
  exact⟨zcp (by rw[HE.out]),zaa HB0.out HB1.out⟩
 | true =>
  have HE:Hid (zcg g=zfk g g.ts.length 0):=by show _=_;unfold zcg;rw[hi];rfl
  have HWr:Hid (∀ W,Below w0.heap.size w0 W->∀ k:Nat,k<g.ts.length->Calls Tryz.prog 87 #[.agg (imC g),.int .i64 (k:Int)] W λe w'=>e=.returned (.int .i64 (zdw g (k:Int)))/\Below W.heap.size W w'):=λW hW k hk=>zjE (HG.out.im.later hW) hi hk
  unfold imC at HWr;clear hi;obtain⟨c0,c1,c2,c3⟩:=HC4.out w1 HB1.out;go_wp2_with fail
  clear c0 c1 c2 c3;go_loopw [4,5,12] (λ_ _ z wr=>∃ k:Nat,k<=g.ts.length/\z=.int .i64 k/\Hid (Below w0.heap.size w0 wr)/\Hid (zfk g (g.ts.length - k) k=zcg g)) (λ_ _ z _=>g.ts.length - (intOf z).toNat)
  case atStart=>exact⟨0,Nat.zero_le _,rfl,HB1.out,HE.out.symm⟩
  case round =>
   obtain⟨k,hk,rfl,HB,HC⟩:=hrel;obtain⟨c0,c1,c2,c3⟩:=HC4.out wr HB.out;by_cases hkl:k<g.ts.length
   ·have hki:(k:Int)<(g.ts.length:Int):=by omega
    have HBad:Hid (∀ e,zdw g (k:Int)=e->e≠0->((k:Int),e)=zcg g):=λe h he=>by rw[<- HC.out,show g.ts.length - k=(g.ts.length - (k+1))+1 by omega,zpE h he]
    have HOk:Hid (zdw g (k:Int)=0->zfk g (g.ts.length - (k+1)) (k+1)=zcg g):=λh=>by rw[<- HC.out,show g.ts.length - k=(g.ts.length - (k+1))+1 by omega,zrb h]
    go_wp2_with fail
    refine Calls.mono (HWr.out wr HB.out k hkl) ?_;rintro e w2 ⟨rfl,hb2⟩;have HB2:Hid (Below w0.heap.size w0 w2):=zaa HB.out hb2;clear hb2 c0 c1 c2 c3
    rcases zoa g (k:Int) with h | h | h | h
    ·have HR:Hid _:=HBad.out 7 h (by decide)
     rw[h];clear h HBad HOk;go_wp2_with fail
     go_ret2
     exact⟨zcp HR.out,zaa HB0.out HB2.out⟩
    ·have HR:Hid _:=HBad.out 18 h (by decide)
     rw[h];clear h HBad HOk;go_wp2_with fail
     go_ret2
     exact⟨zcp HR.out,zaa HB0.out HB2.out⟩
    ·have HR:Hid _:=HBad.out 20 h (by decide)
     rw[h];clear h HBad HOk;go_wp2_with fail
     go_ret2
     exact⟨zcp HR.out,zaa HB0.out HB2.out⟩
    ·have HR:Hid _:=HOk.out h;rw[h];clear h HBad HOk;go_wp2_with fail
     go_roundw
     case rel=>exact⟨k+1,by omega,by go_num,HB2.out,HR.out⟩
     case measure=>simp[intOf];omega
   ·have hki:¬ (k:Int)<(g.ts.length:Int):=by omega
    have HR:Hid (((0:Int),(0:Int))=zcg g):=by show _=_;rw[<- HC.out,show g.ts.length - k=0 by omega];rfl
    go_wp2_with fail
    go_ret2
    exact⟨zcp HR.out,zaa HB0.out HB.out⟩
end Go.Proofs.YtkedhjdipnhgdaaGreat
