import Derived.Test.YtkedhjdipnhgdaaGreatR34
import Derived.Test.YtkedhjdipnhgdaaGreatR29
namespace Go.Proofs.YtkedhjdipnhgdaaGreat
set_option maxHeartbeats 16000000
set_option linter.all false
open RowKit
attribute [local go_sem ↓] wp_at_zero wp_at_succ
abbrev zwB:Oper:=⟨some 18,.load 26 (.tmp 2),26,"check.go:77",#[],none⟩
abbrev zvV:Oper:=⟨some 19,.move (.tmp 1),3,"check.go:77",#[],none⟩
abbrev zwa:Oper:=⟨some 20,.call ⟨.value (.func 16),#[.tmp 18,.tmp 19],#[26,3]⟩,3,"check.go:77",#[⟨0,.data⟩,⟨1,.data⟩],none⟩
abbrev zwJ:Oper:=⟨some 21,.binOp .neq 3 (.tmp 20) (.const (.int .i64 2)) 3,4,"check.go:77",#[⟨2,.data⟩],none⟩
abbrev zwE:Oper:=⟨some 22,.move (.tmp 21),4,"check.go:77",#[⟨3,.data⟩,⟨2,.chain⟩],none⟩
abbrev zwy:Oper:=⟨some 23,.load 26 (.tmp 2),26,"check.go:77",#[⟨4,.guard⟩],some (4,false)⟩
abbrev zwY:Oper:=⟨some 24,.move (.tmp 1),3,"check.go:77",#[⟨4,.guard⟩],some (4,false)⟩
abbrev zwF:Oper:=⟨some 25,.load 26 (.tmp 2),26,"check.go:77",#[⟨4,.guard⟩],some (4,false)⟩
abbrev zvS:Oper:=⟨some 26,.call ⟨.value (.func 69),#[.tmp 25],#[26]⟩,98,"check.go:77",#[⟨7,.data⟩,⟨4,.chain⟩,⟨4,.guard⟩],some (4,false)⟩
abbrev zxA:Oper:=⟨some 27,.call ⟨.value (.func 163),#[.tmp 23,.tmp 24,.tmp 26],#[26,3,98]⟩,4,"check.go:77",#[⟨5,.data⟩,⟨6,.data⟩,⟨8,.data⟩,⟨8,.chain⟩,⟨4,.guard⟩],some (4,false)⟩
abbrev zvf:Oper:=⟨some 28,.unOp .not 4 (.tmp 27),4,"check.go:77",#[⟨9,.data⟩,⟨4,.guard⟩],some (4,false)⟩
abbrev zub:Oper:=⟨some 29,.pick (.tmp 22) (.const (.bool true)) (.tmp 28),4,"check.go:77",#[⟨4,.data⟩,⟨10,.data⟩],none⟩
abbrev ztR:Oper:=⟨some 4,.assign (.tmp 29),4,"check.go:77",#[⟨11,.data⟩,⟨9,.chain⟩,⟨0,.phase⟩,⟨1,.phase⟩,⟨2,.phase⟩,⟨3,.phase⟩,⟨4,.phase⟩,⟨5,.phase⟩,⟨6,.phase⟩,⟨7,.phase⟩,⟨8,.phase⟩,⟨9,.phase⟩,⟨10,.phase⟩,⟨11,.phase⟩],none⟩
theorem zg4 {g:Img} {gb:Nat} {f:Int} {w:World} (hG:GB w gb g) (hi:imB g=true) :
 Calls Tryz.prog 160 #[.int .i64 f,.pointer (some ⟨gb,0,none⟩)] w λe w'=>e=.returned (.bool (!decide (zag g f=2)))/\Below w.heap.size w w':=by
 have HKd:Hid (Calls Tryz.prog 16 #[.agg (imC g),.int .i64 f] w λe w'=>e=.returned (.int .i64 (zag g f))/\Below w.heap.size w w'):=zaQ f hG.im (FlOk.of hi)
 obtain⟨c0,c1,c2,c3⟩:=hG.cells;unfold imC at HKd;clear hG hi;generalize zag g f=k at *;have HR:Hid ((k != 2)=!decide (k=2)):=by show _=_;rw[Bool.eq_iff_iff];simp
 go_enter Tryz.func160,Tryz.ntmps160;go_wp2_with fail
 refine Calls.mono HKd.out ?_;rintro e w1 ⟨rfl,hb1⟩;have HB1:Hid (Below w.heap.size w w1):=hb1;clear hb1 c0 c1 c2 c3;go_wp2_with fail
 go_ret;exact⟨zab (by rw[<- HR.out];try simp[bne]),HB1.out⟩
theorem zgj {a b:Int} {w:World} :
 Calls Tryz.prog 162 #[.int .i64 a,.int .i64 b] w λe w'=>e=.returned (.bool (a != b))/\w'=w:=by
 go_enter Tryz.func162,Tryz.ntmps162;go_wp2;go_ret;exact⟨zab (by try simp[bne]),rfl⟩
set_option maxRecDepth 20000 in
theorem zow {g:Img} {q:Nat} {w:World} (hg:Im w g) (hi:imB g=true) (hq:q<g.ts.length) :
 Calls Tryz.prog 115 #[imV g,.int .i64 q] w λe w'=>e=.returned (.bool (zcd g (q:Int)))/\Below w.heap.size w w':=by
 obtain⟨w0,hw0⟩:∃ W,W=w.alloc (.cells (imC g) 26):=⟨_,rfl⟩;have HW0:Hid (w0=_):=hw0;obtain⟨hb0,hgb⟩:=GB.made hg hw0;have HB0:Hid (Below w.heap.size w w0):=hb0;have HG:Hid (GB w0 w.heap.size g):=hgb;have hln:=zax hi;obtain⟨tb,off,hta,h8,h9,hty⟩:=hgb.ty (by intro e;rw[e]at hq;simp at hq)
 have HFa:Hid (zcd g (q:Int)=(fcB g g.ts[q].fs&&(decide (zag g (q:Int)≠2)||!(zau g.ts.length (fsI g) (fsI g (q:Int))).contains (q:Int)))):=zoY hq
 have HFI:Hid (∀ W,Below w0.heap.size w0 W->Is W (.slice g.ts[q].fa g.ts[q].fs.length g.ts[q].fc) g.ts[q].fs):=λW hW=>(hgb.im.later hW).tok _ (List.getElem_mem hq) |>.toIs
 have HC4:Hid (∀ W,Below w0.heap.size w0 W->W.cell? ⟨w.heap.size,0,none⟩=some (.slice (some ⟨tb,off,none⟩) g.ts.length g.tc)/\W.cell? ⟨w.heap.size,1,none⟩=some (.slice g.fa g.fs.length g.fc)/\W.cell? ⟨w.heap.size,2,none⟩=some (.slice g.ma g.ms.length g.mc)/\W.cell? ⟨w.heap.size,3,none⟩=some (.int .i64 g.en)):=λW hW=>by
  have:=(HG.out.later hW).cells;rw[hta]at this;exact this
 have HKd:Hid (∀ W,Below w0.heap.size w0 W->Calls Tryz.prog 16 #[.agg (imC g),.int .i64 q] W λe w'=>e=.returned (.int .i64 (zag g (q:Int)))/\Below W.heap.size W w'):=λW hW=>zaQ (q:Int) (HG.out.im.later hW) (FlOk.of hi)
 have HBF:Hid (∀ W,Calls Tryz.prog 69 #[.agg (imC g)] W λe w'=>e=.returned (.func (.func 93) #[] #[.pointer (some ⟨W.heap.size,0,none⟩)])/\w'=W.alloc (.cells (imC g) 26)):=λW=>ze5 W
 have HCB:Hid (∀ W,Below w0.heap.size w0 W->Calls Tryz.prog 163 #[.agg (imC g),.int .i64 q,.func (.func 93) #[] #[.pointer (some ⟨W.heap.size,0,none⟩)]] (W.alloc (.cells (imC g) 26)) λe w'=>e=.returned (.bool ((zau g.ts.length (fsI g) (fsI g (q:Int))).contains (q:Int)))/\Below W.heap.size W w'):=λW hW=>by
  have hG:=GB.made (HG.out.im.later hW) (rfl:W.alloc (.cells (imC g) 26)=_);refine (zdk hG.2.im hi hq (zip hG.2 hi)).mono ?_;rintro e w' ⟨rfl,hb⟩;exact⟨rfl,zaa hG.1 hb⟩
 have HAny:Hid (∀ W,Below w0.heap.size w0 W->Calls Tryz.prog 159 #[.slice g.ts[q].fa g.ts[q].fs.length g.ts[q].fc,.func (.func 160) #[] #[.pointer (some ⟨w.heap.size,0,none⟩)]] W λe w'=>e=.returned (.bool (!(g.ts[q].fs.all λf=>decide (zag g f=2))))/\Below W.heap.size W w'):=λW hW=>by
  have:=zbd (HFI.out W hW).toEs (f:=160) (bs:=#[]) (cs:=#[.pointer (some ⟨w.heap.size,0,none⟩)]) (p:=λf=>!decide (zag g f=2)) ⟨zah Tryz.func160 (by kernel_rfl) rfl,λW2 hW2 x hx=>by
   have:=zg4 (f:=x) (HG.out.later (zaa hW hW2)) hi;simpa[zew]using this⟩
  rw[zc5]at this;exact this
 have HDf:Hid (∀ W,Below w0.heap.size w0 W->Calls Tryz.prog 161 #[.slice g.ts[q].fa g.ts[q].fs.length g.ts[q].fc,.func (.func 162) #[] #[]] W λe w'=>e=.returned (.bool (zcE (λa b=>a != b) g.ts[q].fs))/\Below W.heap.size W w'):=λW hW =>
  zdT (HFI.out W hW) ⟨zah Tryz.func162 (by kernel_rfl) rfl,λW2 hW2 x hx y hy=>by
   refine (show Calls Tryz.prog 162 _ W2 _ by simpa using zgj (a:=x) (b:=y) (w:=W2)).mono ?_
   rintro e w' ⟨rfl,rfl⟩;exact⟨rfl,Below.refl _ _⟩⟩
 obtain⟨c0,c1,c2,c3⟩:=HC4.out w0 (Below.refl _ _);obtain⟨_,_,_,k3⟩:=(hty w0 (Below.refl _ _)).2 q hq;have hqi:(q:Int)<(g.ts.length:Int):=by omega
 unfold maxLen at h9;unfold imC at HW0 HKd HBF HCB;rw[hta]at HW0 HKd HBF HCB;have HFb:Hid (zcd g (q:Int)=((g.ts[q].fs.all λf=>decide (zag g f=2))&&zcE (λa b=>a != b) g.ts[q].fs&&(decide (zag g (q:Int)≠2)||!(zau g.ts.length (fsI g) (fsI g (q:Int))).contains (q:Int)))):=HFa.out
 clear hw0 hb0 hgb hty hi hg HFa HFI HG;unfold imV;rw[hta];clear hta;generalize (g.ts[q].fs.all λf=>decide (zag g f=2))=b1 at *
 generalize zcE (λa b=>a != b) g.ts[q].fs=b2 at *
 generalize (zau g.ts.length (fsI g) (fsI g (q:Int))).contains (q:Int)=r at *;generalize zcd g (q:Int)=F at *;generalize zag g (q:Int)=k at *;generalize g.ts[q]=x at *;go_enter Tryz.func115,Tryz.ntmps115;go_wp2_with (rw[<- HW0.out])
 refine Calls.mono (HAny.out w0 (Below.refl _ _)) ?_;rintro e w1 ⟨rfl,hb1⟩;have HB1:Hid (Below w0.heap.size w0 w1):=hb1;clear hb1 c0 c1 c2 c3 k3
 cases b1 with
 | false =>
  have HR:Hid (F=false):=by show _=_;rw[HFb.out];rfl
  go_wp2_with fail
  go_ret;exact⟨zab HR.out.symm,zaa HB0.out HB1.out⟩
 | true =>
 go_wp2_with fail
 refine Calls.mono (HDf.out w1 HB1.out) ?_;rintro e wx ⟨rfl,hbx⟩;have HBx:Hid (Below w0.heap.size w0 wx):=zaa HB1.out hbx;clear hbx
 cases b2 with
 | false =>
  have HR:Hid (F=false):=by show _=_;rw[HFb.out];rfl
  go_wp2_with fail
  go_ret;exact⟨zab HR.out.symm,zaa HB0.out HBx.out⟩
 | true =>
 have HR:Hid (F=(decide (k≠2)||!r)):=by show _=_;rw[HFb.out];rfl
 have HK:Hid (∀ W,Below wx.heap.size wx W->W.cell? ⟨w.heap.size,0,none⟩=some (.slice (some ⟨tb,off,none⟩) g.ts.length g.tc)/\W.cell? ⟨w.heap.size,1,none⟩=some (.slice g.fa g.fs.length g.fc)/\W.cell? ⟨w.heap.size,2,none⟩=some (.slice g.ma g.ms.length g.mc)/\W.cell? ⟨w.heap.size,3,none⟩=some (.int .i64 g.en)):=λW hW=>HC4.out W (zaa HBx.out hW)
 clear HFb HAny HDf HC4;obtain⟨c0,c1,c2,c3⟩:=HK.out wx (Below.refl _ _);go_wp2_with fail
 by_cases hk:k=2
 ·subst hk;have HR2:Hid (F=!r):=by show _=_;rw[HR.out];simp
  go_region_held3 (λW:World=>W.cell? ⟨w.heap.size,0,none⟩=some (.slice (some ⟨tb,off,none⟩) g.ts.length g.tc)/\W.cell? ⟨w.heap.size,1,none⟩=some (.slice g.fa g.fs.length g.fc)/\W.cell? ⟨w.heap.size,2,none⟩=some (.slice g.ma g.ms.length g.mc)/\W.cell? ⟨w.heap.size,3,none⟩=some (.int .i64 g.en))
   (first | (exact HK.out _ hB3) | (exact HK.out _ (zbN hB1 _)) | (exact HK.out _ hB1) | (exact HK.out _ (zad _)))
   (first | (go_at_call 16;refine (HKd.out _ (zaa HBx.out (zad _))).mono ?_;rintro e w2 ⟨rfl,hz1⟩;have hB1:Below wx.heap.size wx w2:=zaa (zad _) hz1) | (go_at_call 69;refine (HBF.out _).mono ?_;rintro e wz ⟨rfl,hz2⟩;subst hz2) | (go_at_call 163;refine (HCB.out _ (zaa HBx.out hB1)).mono ?_;rintro e w3 ⟨rfl,hz3⟩;have hB3:Below wx.heap.size wx w3:=zaa hB1 hz3))
  rename_i hheld
  clear hheld;have HBe:Hid (Below w0.heap.size w0 w3):=zaa HBx.out hB3;clear hz1 hz3 hB1 hB3 c0 c1 c2 c3;go_wp2_with fail
  go_ret;exact⟨zab HR2.out.symm,zaa HB0.out HBe.out⟩
 ·have HR2:Hid (F=true):=by show _=_;rw[HR.out,decide_eq_true hk];rfl
  have hkb:(k != 2)=true:=by rw[bne_iff_ne];exact hk
  have hkd:decide (k=2)=false:=decide_eq_false hk;refine wp_region_held_drew (S:=(λW=>W.cell? ⟨w.heap.size,0,none⟩=some (.slice (some ⟨tb,off,none⟩) g.ts.length g.tc)/\W.cell? ⟨w.heap.size,1,none⟩=some (.slice g.fa g.fs.length g.fc)/\W.cell? ⟨w.heap.size,2,none⟩=some (.slice g.ma g.ms.length g.mc)/\W.cell? ⟨w.heap.size,3,none⟩=some (.int .i64 g.en))) (by kernel_rfl) (HK.out _ (zad _)) (λyb=>?_)
  refine tY 0 zwB (.agg #[.slice (some ⟨tb,off,none⟩) g.ts.length g.tc,.slice g.fa g.fs.length g.fc,.slice g.ma g.ms.length g.mc,.int .i64 g.en]) yb ?_;refine tY 1 zvV (.int .i64 q) yb ?_;refine wpAnyH_ready (rs:=[2]) (by kernel_rfl) (by simp) ?_
  refine AllReadyH.cons (o:=zwa) rfl (λK hK=>?_) AllReadyH.nil
  go_simp
  refine (HKd.out _ (zaa HBx.out (zad _))).mono ?_;rintro e w2 ⟨rfl,hb2⟩;have hBc:Below wx.heap.size wx w2:=zaa (zad _) hb2
  try go_wp2_with fail
  refine hK.out _ _ (HK.out _ hBc) (λyb=>?_)
  clear hK K
  try simp only[Act.put,List.setIfInBounds_toArray,List.set_cons_zero,List.set_cons_succ]
  refine tY 3 zwJ (.bool true) yb ?_;refine tY 4 zwE (.bool true) yb ?_;refine tN 5 zwy yb ?_;refine tN 6 zwY yb ?_;refine tN 7 zwF yb ?_;refine tN 8 zvS yb ?_;refine tN 9 zxA yb ?_;refine tN 10 zvf yb ?_;refine tY 11 zub (.bool true) yb ?_;refine tY 12 ztR (.bool true) yb ?_;refine wpAnyH_done (by kernel_rfl) ?_ _
  have HBe:Hid (Below w0.heap.size w0 w2):=zaa HBx.out hBc;clear hBc hb2;go_wp2_with fail
  go_ret;exact⟨zab HR2.out.symm,zaa HB0.out HBe.out⟩
theorem zkT {w:World} {ba oa ca bb ob cb:Nat} {xs ys:List Ty} (hle:xs.length=ys.length) (hl:xs.length<=maxLen) (ha:∀ i (h:i<xs.length),El tyE w ba (oa+i * 4) xs[i]) (hb:∀ i (h:i<ys.length),El tyE w bb (ob+i * 4) ys[i]) :
 Calls Tryz.prog 85 #[.slice (some ⟨ba,oa,none⟩) xs.length ca,.slice (some ⟨bb,ob,none⟩) xs.length cb] w λe w'=>e=.returned (.bool (decide (xs=ys)))/\∃ n,w'=w.drewN n:=by
 unfold maxLen at hl;have HA:Hid (∀ i (h:i<xs.length),El tyE w ba (oa+i * 4) xs[i]):=ha;have HB:Hid (∀ i (h:i<ys.length),El tyE w bb (ob+i * 4) ys[i]):=hb;have h1:((xs.length:Int) != (xs.length:Int))=false:=by simp
 clear ha hb;go_enter Tryz.func85,Tryz.ntmps85;go_wp2_with fail
 go_loopw [5,13] (λ_ z wr=>∃ q n:Nat,q<=xs.length/\z=.int .i64 (q:Int)/\wr=w.drewN n/\Hid (xs.take q=ys.take q)) (λ_ z _=>xs.length - (intOf z).toNat)
 case atStart=>exact⟨0,0,Nat.zero_le _,rfl,rfl,by show _=_;simp⟩
 case round =>
  obtain⟨q,n,hq,rfl,rfl,HT⟩:=hrel;by_cases hql:q<xs.length
  ·have hqi:(q:Int)<(xs.length:Int):=by omega
   obtain⟨c0,c1,c2,c3⟩:=(HA.out q hql).cells_Y;obtain⟨d0,d1,d2,d3⟩:=(HB.out q (by omega)).cells_Y
   have HN:Hid (xs[q]≠ys[q]->decide (xs=ys)=false):=λh=>by rw[decide_eq_false_iff_not];intro e;subst e;exact h rfl
   have HY:Hid (xs[q]=ys[q]->xs.take (q+1)=ys.take (q+1)):=λh=>by rw[List.take_succ_eq_append_getElem hql,List.take_succ_eq_append_getElem (by omega),HT.out,h]
   have hnq:∀ W:World,(binOp .neq 47 (.agg #[.int .i64 xs[q].1,.int .i64 xs[q].2.1,.int .i64 xs[q].2.2.1,.bool xs[q].2.2.2]) (.agg #[.int .i64 ys[q].1,.int .i64 ys[q].2.1,.int .i64 ys[q].2.2.1,.bool ys[q].2.2.2])).run Tryz.prog W=.ok (.bool (!decide (xs[q]=ys[q]))) W:=λW=>zoX W _ _
   by_cases he:xs[q]=ys[q]
   ·rw[decide_eq_true he]at hnq;have HY2:Hid _:=HY.out he;clear he HY HN;generalize xs[q]=x at *;generalize ys[q]=y at *;obtain⟨x1,x2,x3,x4⟩:=x;obtain⟨y1,y2,y3,y4⟩:=y;simp only at c0 c1 c2 c3 d0 d1 d2 d3 hnq;go_wp2_with fail
    go_quiet (fail)
    go_wp2_with fail
    go_roundw
    case rel=>exact⟨q+1,n+nq,by omega,by go_num,rfl,HY2.out⟩
    case measure=>simp[intOf];omega
   ·rw[decide_eq_false he]at hnq;have HBad:Hid _:=HN.out he;clear he HY HN;generalize xs[q]=x at *;generalize ys[q]=y at *;obtain⟨x1,x2,x3,x4⟩:=x;obtain⟨y1,y2,y3,y4⟩:=y;simp only at c0 c1 c2 c3 d0 d1 d2 d3 hnq;go_wp2_with fail
    go_quiet (fail)
    go_wp2_with fail
    go_ret;exact⟨zab HBad.out.symm,n+nq,by rw[World.drewN_drewN]⟩
  ·have hqi:¬ (q:Int)<(xs.length:Int):=by omega
   have HE:Hid (decide (xs=ys)=true):=by
    show _=_;rw[decide_eq_true_iff];have:=HT.out
    rwa [List.take_of_length_le (by omega),List.take_of_length_le (by omega)]at this
   go_wp2_with fail
   go_ret;exact⟨zab HE.out.symm,n,rfl⟩
theorem zhS (va vb:Option Addr) (la lb ca cb:Nat) (w:World) (hne:la≠lb) (ha:la<=maxLen) (hb:lb<=maxLen) :
 Calls Tryz.prog 85 #[.slice va la ca,.slice vb lb cb] w λe w'=>e=.returned (.bool false)/\w'=w:=by
 have h1:((la:Int) != (lb:Int))=true:=by rw[bne_iff_ne];omega
 go_enter Tryz.func85,Tryz.ntmps85;go_wp2;go_ret;exact⟨rfl,rfl⟩
theorem zfE (va vb:Option Addr) (ca cb:Nat) (w:World) :
 Calls Tryz.prog 85 #[.slice va 0 ca,.slice vb 0 cb] w λe w'=>e=.returned (.bool true)/\w'=w:=by
 go_enter Tryz.func85,Tryz.ntmps85;go_wp2;refine wp_loop_rounds 1 ?_;rw[rounds_succ];go_wp2;go_ret;exact⟨rfl,rfl⟩
theorem zd6 {w:World} {va vb:Value} {xs ys:List Ty} (ha:Es tyE w va xs) (hb:Es tyE w vb ys) :
 Calls Tryz.prog 85 #[va,vb] w λe w'=>e=.returned (.bool (decide (xs=ys)))/\∃ n,w'=w.drewN n:=by
 by_cases hl:xs.length=ys.length
 ·by_cases hx:xs=[]
  ·subst hx;have hy:ys=[]:=List.eq_nil_of_length_eq_zero hl.symm;subst hy;obtain⟨a,ca,rfl,_,_⟩:=ha.shape;obtain⟨b,cb,rfl,_,_⟩:=hb.shape;refine (zfE a b ca cb w).mono ?_;rintro e w' ⟨rfl,rfl⟩;exact⟨zab (by simp),0,rfl⟩
  ·have hll:=ha.len;obtain⟨b1,o1,c1,rfl,_,_,_,h1⟩:=ha.parts hx;obtain⟨b2,o2,c2,rfl,_,_,_,h2⟩:=hb.parts (by intro e;subst e;exact hx (List.eq_nil_of_length_eq_zero hl))
   have:=zkT (ca:=c1) (cb:=c2) hl hll h1 h2;rw[<- hl];exact this
 ·have h1:=ha.len;have h2:=hb.len;obtain⟨a,ca,rfl,_,_⟩:=ha.shape;obtain⟨b,cb,rfl,_,_⟩:=hb.shape;refine (zhS a b _ _ ca cb w hl h1 h2).mono ?_;rintro e w' ⟨rfl,rfl⟩;exact⟨zab (by symm;rw[decide_eq_false_iff_not];intro e;subst e;exact hl rfl),0,rfl⟩
theorem zmW {x y:MD} {w:World} (hx:x.ok w) (hy:y.ok w) :
 Calls Tryz.prog 167 #[mdV x,mdV y] w λe w'=>e=.returned (.bool (smM x y))/\Below w.heap.size w w':=by
 obtain⟨w0,hw0⟩:∃ W,W=(w.alloc (.cells (mdA x) 51)).alloc (.cells (mdA y) 51):=⟨_,rfl⟩;have HW0:Hid (w0=_):=hw0;obtain⟨hb0,hat⟩:=zan hw0;have HB0:Hid (Below w.heap.size w w0):=hb0;have HAT:Hid (∀ n,At (w0.drewN n) w.heap.size (mdA x) 51/\At (w0.drewN n) (w.heap.size+1) (mdA y) 51):=λn=>hat _ (Below.drewN (Below.refl _ _) n)
 obtain⟨hA1,hA2⟩:=hat w0 (Below.refl _ _);have c1:=hA1.cell;have c2:=hA2.cell;have HST:Hid (Calls Tryz.prog 85 #[.slice x.pa x.ps.length x.pc,.slice y.pa y.ps.length y.pc] w0 λe w'=>e=.returned (.bool (decide (x.ps=y.ps)))/\∃ n,w'=w0.drewN n):=zd6 (hx.ps.later hb0) (hy.ps.later hb0)
 have hq:∀ W:World,(binOp .eql 47 (.agg #[.int .i64 x.rt.1,.int .i64 x.rt.2.1,.int .i64 x.rt.2.2.1,.bool x.rt.2.2.2]) (.agg #[.int .i64 y.rt.1,.int .i64 y.rt.2.1,.int .i64 y.rt.2.2.1,.bool y.rt.2.2.2])).run Tryz.prog W=.ok (.bool (decide (x.rt=y.rt))) W:=λW=>zf1 W _ _
 have hs:=zcu x.nm y.nm;have m1:=ze6 x.fl;have m2:=ze6 y.fl;have HR:Hid (smM x y=(decide (x.nm=y.nm)&&(decide (x.ps=y.ps)&&(decide (x.rt=y.rt)&&(x.fl % 2==y.fl % 2))))):=by
  show _=_;unfold smM;rw[Bool.eq_iff_iff];simp
 unfold mdA at c1 c2 HW0 HAT;clear hw0 hb0 hat hA1 hA2 hx hy;generalize smM x y=F at *;generalize decide (x.nm=y.nm)=r0 at *;generalize decide (x.rt=y.rt)=r1 at *;generalize decide (x.ps=y.ps)=r3 at *;unfold mdV;go_enter Tryz.func167,Tryz.ntmps167
 cases r0 with
 | false =>
  have HR2:Hid (F=false):=by show _=_;rw[HR.out];rfl
  go_wp2_with (rw[<- HW0.out])
  go_ret;exact⟨zab HR2.out.symm,HB0.out⟩
 | true =>
  go_wp2_with (rw[<- HW0.out])
  refine Calls.mono HST.out ?_;rintro e w1 ⟨rfl,n,rfl⟩;have d1:=(HAT.out n).1.cell;have d2:=(HAT.out n).2.cell;clear c1 c2 HST
  cases r3 with
  | false =>
   have HR2:Hid (F=false):=by show _=_;rw[HR.out];rfl
   go_wp2_with fail
   go_ret;exact⟨zab HR2.out.symm,Below.drewN HB0.out _⟩
  | true =>
   cases r1 with
   | false =>
    have HR2:Hid (F=false):=by show _=_;rw[HR.out];rfl
    go_wp2_with fail
    go_ret;exact⟨zab HR2.out.symm,Below.drewN HB0.out _⟩
   | true =>
    have HR2:Hid (F=(x.fl % 2==y.fl % 2)):=by show _=_;rw[HR.out];rfl
    clear HR;generalize x.fl % 2=z1 at *;generalize y.fl % 2=z2 at *;go_wp2_with fail
    go_ret;exact⟨zab HR2.out.symm,Below.drewN HB0.out _⟩
def zlz (g:Img) (k:Nat) (t:Ty) (w:World):Prop:=
 Calls Tryz.prog 89 #[zao g,.agg #[.int .i64 t.1,.int .i64 t.2.1,.int .i64 t.2.2.1,.bool t.2.2.2]] w λe w'=>∃ v,e=.returned v/\∃ l,OwnE tyE w' w.heap.size 47 v l/\Cut l (zcQ g k t)/\l.length<=32 * k+32/\Below w.heap.size w w'
theorem zdj {g:Img} {t:Ty} {w:World} (hg:Im w g) (hw:zcP t=true) :
 Calls Tryz.prog 89 #[zao g,.agg #[.int .i64 t.1,.int .i64 t.2.1,.int .i64 t.2.2.1,.bool t.2.2.2]] w λe w'=>∃ v,e=.returned v/\OwnE tyE w' w.heap.size 47 v (zft t)/\Below w.heap.size w w':=by
 obtain⟨w0,HW0,HB0,HC,HI⟩:=zaO hg t;obtain⟨⟨c0,c1,c2,c3⟩,d0,d1,d2,d3⟩:=HC.out w0 (Below.refl _ _);clear HC HI hg;unfold zao;obtain⟨k,i,d,r⟩:=t;simp only at *;by_cases h1:k=1
 ·subst h1;go_enter Tryz.func89,Tryz.ntmps89;go_wp2_with (rw[<- HW0.out])
  go_ret;exact⟨_,rfl,OwnE.nil _ _ _ _,HB0.out⟩
 ·have HO:Hid (zft (k,i,d,r)=[(k,i,d,r)]):=by show _=_;unfold zft;rw[if_neg h1]
  have HT:Hid (OwnE tyE (w0.alloc (.cells #[.int .i64 k,.int .i64 i,.int .i64 d,.bool r] 47)) w.heap.size 47 (.slice (some ⟨w0.heap.size,0,none⟩) 1 1) [(k,i,d,r)]):=zoD w0 (k,i,d,r) _ HB0.out.size;have e1:(k==1)=false:=by simpa using h1
  unfold zcP at hw;simp only[Bool.or_eq_true,decide_eq_true_iff]at hw;clear h1;by_cases h6:k=6
  ·subst h6;by_cases hd:0<d
   ·clear hw;go_enter Tryz.func89,Tryz.ntmps89;go_wp2_with (rw[<- HW0.out])
    go_ret;exact⟨_,rfl,by rw[HO.out];exact HT.out,zbN HB0.out _⟩
   ·have hr:r=true:=by
     rcases hw with h | h | h
     ·exact absurd rfl h
     ·exact h
     ·exact absurd h hd
    subst hr;clear hw;go_enter Tryz.func89,Tryz.ntmps89;go_wp2_with (rw[<- HW0.out])
    go_ret;exact⟨_,rfl,by rw[HO.out];exact HT.out,zbN HB0.out _⟩
  ·have e6:(k==6)=false:=by simpa using h6
   have e7:(k != 6)=true:=by simpa using h6
   clear h6 hw;go_enter Tryz.func89,Tryz.ntmps89;go_wp2_with (rw[<- HW0.out])
   go_ret;exact⟨_,rfl,by rw[HO.out];exact HT.out,zbN HB0.out _⟩
theorem zjd {α β:Type} {L:List α} {f:α->List β} {i:Nat} (hi:i<L.length):(L.take (i+1)).flatMap f=(L.take i).flatMap f ++ f L[i]:=by
 rw[List.take_succ_eq_append_getElem hi,List.flatMap_append];simp
theorem zqr {α β:Type} (L:List α) (f:α->List β) (i:Nat):L.flatMap f=(L.take i).flatMap f ++ (L.drop i).flatMap f:=by
 rw[<- List.flatMap_append,List.take_append_drop]
set_option maxRecDepth 20000 in
theorem zi8 {g:Img} {k:Nat} {i:Int} {w:World} (hg:Im w g) (hi:imB g=true) (U:AllU g) (hk:k<=100) (hn:zam i g.ts.length=true) (hd:∀ y∈zbP g i,dpB g k y=true)
 (IH:∀ y W,Im W g->zaw g y=true->dpB g k y=true->zlz g k y W):zlz g (k+1) (6,i,0,false) w:=by
 obtain⟨w0,HW0,HB0,HC,HI⟩:=zaO hg (6,i,0,false);have hln:=zax hi;have HHe:Hid (Calls Tryz.prog 119 #[zao g,.int .i64 i] w0 λe w'=>∃ v,e=.returned v/\OwnE tyE w' w0.heap.size 47 v (zbP g i)/\Below w0.heap.size w0 w'):=zfR (HI.out w0 (Below.refl _ _)) hi hn
 have HRec:Hid (∀ W (y:Ty),Below w0.heap.size w0 W->y∈zbP g i->Calls Tryz.prog 89 #[zao g,.agg #[.int .i64 y.1,.int .i64 y.2.1,.int .i64 y.2.2.1,.bool y.2.2.2]] W λe w'=>∃ v,e=.returned v/\∃ l,OwnE tyE w' W.heap.size 47 v l/\Cut l (zcQ g k y)/\l.length<=32 * k+32/\Below W.heap.size W w'):=λW y hW hy=>IH y W (HI.out W hW) (U.hld hy) (hd y hy)
 have hll:=zoT g i;have HR:Hid (zcQ g (k+1) (6,i,0,false)=orI ((zbP g i).flatMap (zcQ g k))):=by
  show (if zcP (6,i,0,false)=true then _ else _)=_
  rw[if_neg (by simp[zcP])]
 obtain⟨⟨c0,c1,c2,c3⟩,d0,d1,d2,d3⟩:=HC.out w0 (Below.refl _ _);unfold zlz;unfold zao at HHe HRec ⊢;generalize zcQ g (k+1) (6,i,0,false)=R at *;generalize zbP g i=F at *;clear hg hi U IH hd hn;simp only at *;go_enter Tryz.func89,Tryz.ntmps89;go_wp2_with (rw[<- HW0.out])
 refine Calls.mono HHe.out ?_;rintro e w1 ⟨fv,rfl,hf,hb1⟩;have HB1:Hid (Below w0.heap.size w0 w1):=hb1;obtain⟨la,lc,hfv,hlq,hlc⟩:=hf.shape;have HFi:Hid (∀ W,Below w1.heap.size w1 W->Es tyE W (.slice la F.length lc) F):=λW hW=>by
  have:=hf.es.later hW;rw[hfv]at this;exact this
 subst hfv;unfold maxLen at hlc;clear c0 c1 c2 c3 d0 d1 d2 d3 hf hb1 HHe;go_wp2_with fail
 go_loopw [5,7,32] (λlv _ z wr=>∃ (q:Nat) (l:List Ty),q<=F.length/\z=.int .i64 q/\Hid (OwnE tyE wr w1.heap.size 47 lv l)/\Hid (Cut l ((F.take q).flatMap (zcQ g k)))/\l.length<=32 * k+64/\Hid (Below w1.heap.size w1 wr)) (λ_ _ z _=>F.length - (intOf z).toNat)
 case atStart=>exact⟨0,[],Nat.zero_le _,rfl,OwnE.nil _ _ _ _,Or.inl rfl,by simp,Below.refl _ _⟩
 case round =>
  obtain⟨q,l,hq,rfl,HO,HCu,hl64,HB⟩:=hrel;obtain⟨oa,oc,hov,hoq,hoc⟩:=HO.out.shape;subst hov;unfold maxLen at hoc;by_cases hql:q<F.length
  ·have hqi:(q:Int)<(F.length:Int):=by omega
   have HT:Hid ((F.take (q+1)).flatMap (zcQ g k)=(F.take q).flatMap (zcQ g k) ++ zcQ g k F[q]):=zjd hql;have HS:Hid (F.flatMap (zcQ g k)=(F.take q).flatMap (zcQ g k) ++ (F.drop q).flatMap (zcQ g k)):=zqr _ _ _;obtain⟨lb,loff,lcap,hla,_,_,hlb,hc⟩:=(HFi.out wr HB.out).parts (by intro e;rw[e]at hql;simp at hql)
   simp only[Value.slice.injEq]at hla;obtain⟨hla, -,hlc2⟩:=hla;subst hla hlc2;obtain⟨k0,k1,k2,k3⟩:=(show El tyE wr lb (loff+q * 4) F[q] from hc q hql).cells_Y
   have HRq:Hid (∀ W,Below w0.heap.size w0 W->Calls Tryz.prog 89 #[.agg #[.slice g.ta g.ts.length g.tc,.slice g.fa g.fs.length g.fc,.slice g.ma g.ms.length g.mc,.int .i64 g.en],.agg #[.int .i64 F[q].1,.int .i64 F[q].2.1,.int .i64 F[q].2.2.1,.bool F[q].2.2.2]] W λe w'=>∃ v,e=.returned v/\∃ l,OwnE tyE w' W.heap.size 47 v l/\Cut l (zcQ g k F[q])/\l.length<=32 * k+32/\Below W.heap.size W w'):=λW hW=>HRec.out W F[q] hW (List.getElem_mem hql)
   clear hc;generalize F[q]=x at *;obtain⟨wA,hwA⟩:∃ W,W=wr.alloc (.cells #[.int .i64 x.1,.int .i64 x.2.1,.int .i64 x.2.2.1,.bool x.2.2.2] 47):=⟨_,rfl⟩;have HWA:Hid (wA=_):=hwA;have hbA:Below wr.heap.size wr wA:=by rw[hwA];exact zac _ _ _
   have hAA:At wA wr.heap.size #[.int .i64 x.1,.int .i64 x.2.1,.int .i64 x.2.2.1,.bool x.2.2.2] 47:=by rw[hwA];exact At.made _ _ _
   have HBA:Hid (Below w1.heap.size w1 wA):=zaa HB.out hbA;have HOA:Hid (OwnE tyE wA w1.heap.size 47 (.slice oa l.length oc) l):=HO.out.later hbA;obtain⟨⟨c0,c1,c2,c3⟩,_⟩:=HC.out wA (zaa HB1.out HBA.out);have a0:=hAA.cell 0;have a1:=hAA.cell 1;have a2:=hAA.cell 2;have a3:=hAA.cell 3;simp at a0 a1 a2 a3;clear hwA hbA hAA HO;by_cases hgt:32<l.length
   ·have hgi:(32:Int)<(l.length:Int):=by omega
    have hz:¬ (l.length:Int)=0:=by omega
    have HFin:Hid (Cut l R):=by
     show Cut l R;have h1:=HCu.out.stop hgt ((F.drop q).flatMap (zcQ g k));rw[<- HS.out]at h1;rw[HR.out];unfold orI;have hne:F.flatMap (zcQ g k)≠[]:=by
      intro e;rw[e]at h1
      rcases h1 with h1 | ⟨_,h1⟩
      ·rw[h1]at hgt;simp at hgt
      ·simp at h1
     rw[if_neg hne];exact h1
    go_wp2_with (rw[<- HWA.out])
    go_ret;exact⟨_,rfl,l,HOA.out.mono (Nat.le_trans HB0.out.size HB1.out.size),HFin.out,by omega,zaa HB0.out (zaa HB1.out HBA.out)⟩
   ·have hgi:¬ (32:Int)<(l.length:Int):=by omega
    go_wp2_with (rw[<- HWA.out])
    refine Calls.mono (HRq.out wA (zaa HB1.out HBA.out)) ?_;rintro e w3 ⟨yv,rfl,m,hy,hcm,hml,hb3⟩;have HY:Hid (Es tyE w3 yv m):=hy.es;have HCm:Hid (Cut m (zcQ g k x)):=hcm;have HO3:Hid (OwnE tyE w3 w1.heap.size 47 (.slice oa l.length oc) l):=HOA.out.later hb3;have HB3:Hid (Below w1.heap.size w1 w3):=zaa HBA.out hb3;clear hy hcm hb3 c0 c1 c2 c3 a0 a1 a2 a3 k0 k1 k2 k3 HOA HWA HRq;go_wp2_with (at_builtin;go_must (refine zal tyE rfl (.tmp 39) (.tmp 42) 45 rfl w1.heap.size 47 _ 32 Tryz.underlying45 Tryz.info12Y rfl rfl rfl HO3.out HY.out (by unfold maxLen;omega) (by omega) HB3.out.size ?_;intro v5 w5 ho5 hg5;have hB5:=HB3.out.trans (zaE HO3.out hg5 (Nat.le_refl _) HB3.out.size)))
    go_roundw
    case rel=>exact⟨q+1,l ++ m,by omega,by go_num,ho5,by show Cut _ _;rw[HT.out];exact HCu.out.app HCm.out,by rw[List.length_append];omega,hB5⟩
    case measure=>simp[intOf];omega
  ·have hqi:¬ (q:Int)<(F.length:Int):=by omega
   have HE:Hid (Cut l (F.flatMap (zcQ g k))):=by have:=HCu.out;rw[List.take_of_length_le (by omega)]at this;exact this
   by_cases hz:l.length=0
   ·have hzi:(l.length:Int)=0:=by omega
    have HFin:Hid (R=[zvP]):=by
     show _=_;have h0:l=[]:=List.eq_nil_of_length_eq_zero hz;have h1:=HE.out;rw[h0]at h1
     rcases h1 with h1 | ⟨h1,_⟩
     ·rw[HR.out,<- h1];rfl
     ·simp at h1
    clear hz;go_wp2_with fail
    go_ret;exact⟨_,rfl,[zvP],zoD wr zvP _ (Nat.le_trans (Nat.le_trans HB0.out.size HB1.out.size) HB.out.size),by rw[HFin.out];exact Or.inl rfl,by simp,zbN (zaa HB0.out (zaa HB1.out HB.out)) _⟩
   ·have hzi:¬ (l.length:Int)=0:=by omega
    have HFin:Hid (Cut l R):=by
     show Cut l R;have h1:=HE.out;have hne:F.flatMap (zcQ g k)≠[]:=by
      intro e;rw[e]at h1
      rcases h1 with h1 | ⟨_,h1⟩
      ·rw[h1]at hz;simp at hz
      ·simp at h1
     rw[HR.out];unfold orI;rw[if_neg hne];exact h1
    clear hz;go_wp2_with fail
    go_ret;exact⟨_,rfl,l,HO.out.mono (Nat.le_trans HB0.out.size HB1.out.size),HFin.out,by omega,zaa HB0.out (zaa HB1.out HB.out)⟩
theorem zfb {g:Img} (hi:imB g=true) (U:AllU g):∀ (k:Nat) (t:Ty) (w:World),k<=100->Im w g->zaw g t=true->dpB g k t=true->zlz g k t w
 | 0,t,w,hk,hg,hu,hd=>by
  refine (zdj hg hd).mono ?_;rintro e w' ⟨v,rfl,ho,hb⟩;exact⟨v,rfl,_,ho,Or.inl rfl,by unfold zft;split <;> simp,hb⟩
 | k+1,t,w,hk,hg,hu,hd=>by
  cases hw:zcP t with
  | true =>
   refine (zdj hg hw).mono ?_;rintro e w' ⟨v,rfl,ho,hb⟩;refine⟨v,rfl,_,ho,Or.inl ?_,by unfold zft;split <;> simp,hb⟩
   show _=(if zcP t=true then _ else _)
   rw[if_pos hw]
  | false =>
   obtain⟨v1,v2,v3,v4,v5⟩:=zd1 hu hw;have h1:(zbP g t.2.1).all (dpB g k)=true:=by
    unfold dpB at hd;rw[hw]at hd;simpa using hd
   rw[List.all_eq_true]at h1;have e:t=(6,t.2.1,0,false):=by
    obtain⟨a,b,c,d⟩:=t;simp only at v1 v2 v3;subst v1 v2 v3;rfl
   rw[e];exact zi8 hg hi U (by omega) v5 h1 (λy W hW hy1 hy2=>zfb hi U k y W (by omega) hW hy1 hy2)
theorem zeU {g:Img} (U:AllU g) (hw:zaY g=true) {t:Ty} {w:World} (hg:Im w g) (hu:zaw g t=true) :
 Calls Tryz.prog 89 #[zao g,.agg #[.int .i64 t.1,.int .i64 t.2.1,.int .i64 t.2.2.1,.bool t.2.2.2]] w λe w'=>∃ v,e=.returned v/\∃ l,OwnE tyE w' w.heap.size 47 v l/\Cut l (zbl g t)/\l.length<=2000/\Below w.heap.size w w':=by
 have hi:=(Wel.of hw).im;have hl:=(zax hi).1;refine Calls.mono (zfb hi U g.ts.length t w (by omega) hg hu (zoF U (ValA.of hw) hu)) ?_
 rintro e w' ⟨v,rfl,l,ho,hc,hn,hb⟩;exact⟨v,rfl,l,ho,hc,by omega,hb⟩
end Go.Proofs.YtkedhjdipnhgdaaGreat
