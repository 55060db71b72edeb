import Derived.Test.YtkedhjdipnhgdaaGreatR45
namespace Go.Proofs.YtkedhjdipnhgdaaGreat
set_option maxHeartbeats 16000000
set_option linter.all false
open Go.RowKit Go.Maps
attribute [local go_sem ↓] wp_at_zero wp_at_succ
theorem zsU {x:MD} (h:MdLen x):(zfN x).length<=190:=by
 obtain⟨h1,h2,h3,h4⟩:=h;have h5:=zoS x.co;have h6:=zps x.cl;unfold zfN;simp only[List.length_append,List.length_singleton];omega
theorem zsO {g:Img} {x:MD} (h:zdZ g x=false):za8 g x=8:=by unfold za8;rw[h,if_pos rfl]
theorem zte {g:Img} {x:MD} (h:zdZ g x=true) {i:Nat} (hi:i<(zfN x).length) (hb:zaw g (zfN x)[i]=false):za8 g x=10:=by
 unfold za8;rw[h,if_neg (by decide),if_pos ?_]
 unfold ziM;rw[List.all_eq_false];exact⟨_,List.getElem_mem hi,by rw[hb];simp⟩
theorem zvB {g:Img} {x:MD} (h:zdZ g x=true) (ha:∀ t∈zfN x,zaw g t=true):za8 g x=0:=by
 unfold za8;rw[h,if_neg (by decide),if_neg ?_]
 unfold ziM;rw[List.all_eq_true.2 ha];simp
abbrev zqw:Oper:=⟨some 14,.load 51 (.tmp 5),51,"check.go:52",#[],none⟩
abbrev zpV:Oper:=⟨some 15,.fieldAddr 54 (.tmp 2) 0,0,"check.go:52",#[],none⟩
abbrev zqI:Oper:=⟨some 16,.load 26 (.tmp 15),26,"check.go:52",#[⟨1,.data⟩],none⟩
abbrev zpN:Oper:=⟨some 17,.fieldAddr 51 (.tmp 5) 1,0,"check.go:52",#[],none⟩
abbrev zrc:Oper:=⟨some 18,.load 3 (.tmp 17),3,"check.go:52",#[⟨3,.data⟩],none⟩
abbrev zqm:Oper:=⟨some 19,.call ⟨.value (.func 16),#[.tmp 16,.tmp 18],#[26,3]⟩,3,"check.go:52",#[⟨2,.data⟩,⟨4,.data⟩],none⟩
abbrev zqd:Oper:=⟨some 20,.call ⟨.value (.func 35),#[.tmp 14,.tmp 19],#[51,3]⟩,4,"check.go:52",#[⟨0,.data⟩,⟨5,.data⟩,⟨5,.chain⟩],none⟩
abbrev zpR:Oper:=⟨some 21,.unOp .not 4 (.tmp 20),4,"check.go:52",#[⟨6,.data⟩],none⟩
abbrev zq8:Oper:=⟨some 22,.move (.tmp 21),4,"check.go:52",#[⟨7,.data⟩,⟨6,.chain⟩],none⟩
abbrev zra:Oper:=⟨some 23,.load 51 (.tmp 5),51,"check.go:52",#[⟨8,.guard⟩],some (8,false)⟩
abbrev zmi:Oper:=⟨some 24,.call ⟨.value (.func 36),#[.tmp 23],#[51]⟩,4,"check.go:52",#[⟨9,.data⟩,⟨8,.chain⟩,⟨8,.guard⟩],some (8,false)⟩
abbrev zlZ:Oper:=⟨some 25,.unOp .not 4 (.tmp 24),4,"check.go:52",#[⟨10,.data⟩,⟨8,.guard⟩],some (8,false)⟩
abbrev zmf:Oper:=⟨some 26,.pick (.tmp 22) (.const (.bool true)) (.tmp 25),4,"check.go:52",#[⟨8,.data⟩,⟨11,.data⟩],none⟩
abbrev zlp:Oper:=⟨some 27,.move (.tmp 26),4,"check.go:52",#[⟨12,.data⟩,⟨10,.chain⟩],none⟩
abbrev zlB:Oper:=⟨some 28,.fieldAddr 54 (.tmp 2) 0,0,"check.go:52",#[⟨13,.guard⟩],some (13,false)⟩
abbrev zmd:Oper:=⟨some 29,.load 26 (.tmp 28),26,"check.go:52",#[⟨14,.data⟩,⟨13,.guard⟩],some (13,false)⟩
abbrev zly:Oper:=⟨some 30,.load 51 (.tmp 5),51,"check.go:52",#[⟨13,.guard⟩],some (13,false)⟩
abbrev zln:Oper:=⟨some 31,.call ⟨.value (.func 37),#[.tmp 29,.tmp 30],#[26,51]⟩,4,"check.go:52",#[⟨15,.data⟩,⟨16,.data⟩,⟨13,.chain⟩,⟨13,.guard⟩],some (13,false)⟩
abbrev zms:Oper:=⟨some 32,.unOp .not 4 (.tmp 31),4,"check.go:52",#[⟨17,.data⟩,⟨13,.guard⟩],some (13,false)⟩
abbrev zmc:Oper:=⟨some 33,.pick (.tmp 27) (.const (.bool true)) (.tmp 32),4,"check.go:52",#[⟨13,.data⟩,⟨18,.data⟩],none⟩
set_option maxRecDepth 20000 in
theorem zjQ {win w:World} {mm c k:Nat} {g:Img} (hw:zaY g=true) (hg:Im win g) (hbel:Below win.heap.size win w) (hlo:win.heap.size<=mm) (hU:UM w mm g c) (hc:c<=500000) (hk:k<g.ms.length) :
 Calls Tryz.prog 15 #[usV g mm,.int .i64 k] w λe w'=>e=.returned (.int .i64 (za8 g g.ms[k]))/\Bm mm w w'/\UM w' mm g (c+200):=by
 have hi:=(Wel.of hw).im;have hgw:=hg.later hbel;obtain⟨w0,hw0⟩:∃ W,W=w.alloc (.cells (usA g mm) 54):=⟨_,rfl⟩;have HW0:Hid (w0=_):=hw0;have hb0:Below w.heap.size w w0:=by rw[hw0];exact zac _ _ _
 have hA0:At w0 w.heap.size (usA g mm) 54:=by rw[hw0];exact At.made _ _ _
 obtain⟨tb,off,hma,h1,h2,hcm⟩:=hgw.mth hk;obtain⟨x,hx⟩:∃ x,x=g.ms[k]:=⟨_,rfl⟩;obtain⟨w1,hw1⟩:∃ W,W=w0.alloc (.cells (zcN x) 51):=⟨_,rfl⟩;have HW1:Hid (w1=_):=hw1;have hb1:Below w0.heap.size w0 w1:=by rw[hw1];exact zac _ _ _
 have hA1:At w1 w0.heap.size (zcN x) 51:=by rw[hw1];exact At.made _ _ _
 have hb01:Below w.heap.size w w1:=zaa hb0 hb1;have HB01:Hid (Below w.heap.size w w1):=hb01;have HU1:Hid (UM w1 mm g c):=hU.later hb01;have hmm:mm<w.heap.size:=hU.lt;have HA1:Hid (At w1 w.heap.size (usA g mm) 54):=hA0.later hb1;have hmd:=hgw.mok _ (List.getElem_mem hk);rw[<- hx]at hmd ⊢;have hfl:0<=x.fl/\x.fl<=31:=by rw[hx];exact zav hi hk
 have hpt:=zdy hi hk;have hown:zam x.ow g.ts.length=true:=by rw[hx];exact hpt.2.2.2.2.2.2.2
 have hmx:0<=x.mx:=by rw[hx];exact hpt.2.2.2.2.2.2.1
 have HPl:Hid (∀ t∈zfN x,plainT t=true):=by rw[hx];exact zq4 hi hk
 have hMl:MdLen x:=by rw[hx];exact zr9 hi hk
 have hOp:zpW x:=by rw[hx];exact zrY hi hk
 have hTl:=zsU hMl;have hM0:=hcm w0 hb0 k hk;rw[<- hx]at hM0;obtain⟨k0,k1,k2,k3,k4,k5,k6,k7,k8,k9,k10,k11⟩:=hM0;have HK0:Hid (∀ W,Below w1.heap.size w1 W->Us5 W w.heap.size g mm/\Mt W w0.heap.size x):=λW hW=>⟨Us5.of ((hA0.later hb1).later hW),Mt.of (hA1.later hW)⟩
 have HI1:Hid (∀ W,Below w1.heap.size w1 W->Im W g):=λW hW=>(hgw.later hb01).later hW
 have HKn:Hid (∀ W,Below w1.heap.size w1 W->Ans 16 #[zao g,.int .i64 x.ow] W (.int .i64 (zag g x.ow))):=λW hW=>zaQ _ (HI1.out W hW) (FlOk.of hi)
 have HF1:Hid (∀ W,Ans 35 #[mdV x,.int .i64 (zag g x.ow)] W (.bool (zrM (zag g x.ow) x))):=λW=>zkd x hfl _ W
 have HF2:Hid (∀ W,Ans 36 #[mdV x] W (.bool (zsf x))):=λW=>zmw x hfl W
 have HF3:Hid (∀ W,Below w1.heap.size w1 W->Ans 37 #[zao g,mdV x] W (.bool (zrl g x))):=λW hW=>zhy (HI1.out W hW) hi hfl hown
 have HTy:Hid (∀ W,Below w1.heap.size w1 W->Calls Tryz.prog 38 #[mdV x] W λe w'=>∃ v,e=.returned v/\OwnE tyE w' W.heap.size 47 v (zfN x)/\Below W.heap.size W w'):=λW hW=>zj7 ((hmd.later hb01).later hW) hMl hOp
 have HUs:Hid (∀ W c t,Bm mm w W->UM W mm g c->c<=1000000->plainT t=true->Calls Tryz.prog 39 #[usV g mm,.agg #[.int .i64 t.1,.int .i64 t.2.1,.int .i64 t.2.2.1,.bool t.2.2.2]] W λe w'=>e=.returned (.bool (zaw g t))/\Bm mm W w'/\UM w' mm g (c+1)):=λW c t hW h1 h2 h3=>zit hw hg (Bm.below hbel (Nat.le_refl _) hlo hW) hlo h1 h2 h3
 have HFl:Hid ((zrM (zag g x.ow) x&&zsf x&&zrl g x)=zdZ g x):=zuN hown hmx;have HE8:Hid (zdZ g x=false->za8 g x=8):=zsO;have HE10:Hid (zdZ g x=true->∀ (i:Nat) (hi:i<(zfN x).length),zaw g (zfN x)[i]=false->za8 g x=10):=λh i hi hb=>zte h hi hb
 have HE0:Hid (zdZ g x=true->(∀ t∈zfN x,zaw g t=true)->za8 g x=0):=zvB;have hki:(k:Int)<(g.ms.length:Int):=by omega
 obtain⟨c0,c1,c2,c3,c4⟩:=Us5.of hA0;have HMM:Hid (mm<w.heap.size):=hmm;unfold maxLen at h2;unfold usA at HW0;unfold zcN at HW1;unfold zao at HKn HF3;unfold mdV at HF1 HF2 HF3 HTy;unfold usV at HUs;unfold usV;unfold Us5 at HK0;clear hw0 hb0 hA0 hw1 hb1 hA1 hb01 hU hmm hmd hfl hpt hown hmx hMl hOp hcm hw hg hbel hlo hgw hi hx;have HME:Hid (g.ma=some ⟨tb,off,none⟩):=hma;rw[hma]at HW0 HK0 HKn HF3 HUs c2 ⊢;clear hma;generalize za8 g x=R at *;generalize zdZ g x=fm at *;generalize hT:zfN x=T at *;generalize zag g x.ow=kn at *;generalize zrM kn x=f1 at *;generalize zsf x=f2 at *;generalize zrl g x=f3 at *;go_enter Tryz.func15,Tryz.ntmps15;go_wp2_with (first | rw[<- HW0.out] | rw[<- HW1.out])
 clear k0 k1 k2 k3 k4 k5 k6 k7 k8 k9 k10 k11 c0 c1 c2 c3 c4
 cases f1 with
 | false =>
  refine wp_region_held_drew (S:=(λW=>(W.cell? ⟨w.heap.size,0,none⟩=some (.slice g.ta g.ts.length g.tc)/\W.cell? ⟨w.heap.size,1,none⟩=some (.slice g.fa g.fs.length g.fc)/\W.cell? ⟨w.heap.size,2,none⟩=some (.slice (some ⟨tb,off,none⟩) g.ms.length g.mc)/\W.cell? ⟨w.heap.size,3,none⟩=some (.int .i64 g.en)/\W.cell? ⟨w.heap.size,4,none⟩=some (.map (some mm)))/\Mt W w0.heap.size x)) (by kernel_rfl) (HK0.out _ (zad _)) (λyb=>?_)
  refine tY 0 zqw (.agg #[.string x.nm,.int .i64 x.ow,.int .i64 x.fl,.slice x.pa x.ps.length x.pc,.int .i64 x.rt.1,.int .i64 x.rt.2.1,.int .i64 x.rt.2.2.1,.bool x.rt.2.2.2,.slice x.la x.ls.length x.lc,.int .i64 x.mx,.slice x.ca x.co.length x.cc,.slice x.ka x.cl.length x.kc]) yb ?_;refine tY 1 zpV (.pointer (some ⟨w.heap.size,0,none⟩)) yb ?_;refine tY 2 zqI (.agg #[.slice g.ta g.ts.length g.tc,.slice g.fa g.fs.length g.fc,.slice (some ⟨tb,off,none⟩) g.ms.length g.mc,.int .i64 g.en]) yb ?_;refine tY 3 zpN (.pointer (some ⟨w0.heap.size,1,none⟩)) yb ?_;refine tY 4 zrc (.int .i64 x.ow) yb ?_;refine wpAnyH_ready (rs:=[5]) (by kernel_rfl) (by simp) ?_
  refine AllReadyH.cons (o:=zqm) rfl (λK hK=>?_) AllReadyH.nil
  go_simp
  refine (HKn.out _ (zad _)).mono ?_;rintro e w2 ⟨rfl,hb2⟩;have hB2:Below w1.heap.size w1 w2:=zaa (zad _) hb2
  try go_wp2_with fail
  refine hK.out _ _ (HK0.out _ hB2) (λyb=>?_)
  clear hK K
  try simp only[Act.put,sA,s0,sS]
  refine wpAnyH_ready (rs:=[6]) (by kernel_rfl) (by simp) ?_
  refine AllReadyH.cons (o:=zqd) rfl (λK hK=>?_) AllReadyH.nil
  go_simp
  refine (HF1.out _).mono ?_;rintro e w3 ⟨rfl,hb3⟩;have hB3:Below w1.heap.size w1 w3:=zaa hB2 hb3
  try go_wp2_with fail
  refine hK.out _ _ (HK0.out _ hB3) (λyb=>?_)
  clear hK K
  try simp only[Act.put,sA,s0,sS]
  refine tY 7 zpR (.bool true) yb ?_;refine tY 8 zq8 (.bool true) yb ?_;refine tN 9 zra yb ?_;refine tN 10 zmi yb ?_;refine tN 11 zlZ yb ?_;refine tY 12 zmf (.bool true) yb ?_;refine tY 13 zlp (.bool true) yb ?_;refine tN 14 zlB yb ?_;refine tN 15 zmd yb ?_;refine tN 16 zly yb ?_;refine tN 17 zln yb ?_;refine tN 18 zms yb ?_;refine tY 19 zmc (.bool true) yb ?_;refine wpAnyH_done (by kernel_rfl) ?_ _
  have HF:Hid (R=8):=HE8.out (by rw[<- HFl.out];rfl)
  go_wp2_with fail
  go_ret;exact⟨zak HF.out.symm,Bm.of (zaa HB01.out hB3),(HU1.out.later hB3).mono (by omega)⟩
 | true =>
  cases f2 with
  | false =>
   refine wp_region_held_drew (S:=(λW=>(W.cell? ⟨w.heap.size,0,none⟩=some (.slice g.ta g.ts.length g.tc)/\W.cell? ⟨w.heap.size,1,none⟩=some (.slice g.fa g.fs.length g.fc)/\W.cell? ⟨w.heap.size,2,none⟩=some (.slice (some ⟨tb,off,none⟩) g.ms.length g.mc)/\W.cell? ⟨w.heap.size,3,none⟩=some (.int .i64 g.en)/\W.cell? ⟨w.heap.size,4,none⟩=some (.map (some mm)))/\Mt W w0.heap.size x)) (by kernel_rfl) (HK0.out _ (zad _)) (λyb=>?_)
   refine tY 0 zqw (.agg #[.string x.nm,.int .i64 x.ow,.int .i64 x.fl,.slice x.pa x.ps.length x.pc,.int .i64 x.rt.1,.int .i64 x.rt.2.1,.int .i64 x.rt.2.2.1,.bool x.rt.2.2.2,.slice x.la x.ls.length x.lc,.int .i64 x.mx,.slice x.ca x.co.length x.cc,.slice x.ka x.cl.length x.kc]) yb ?_;refine tY 1 zpV (.pointer (some ⟨w.heap.size,0,none⟩)) yb ?_;refine tY 2 zqI (.agg #[.slice g.ta g.ts.length g.tc,.slice g.fa g.fs.length g.fc,.slice (some ⟨tb,off,none⟩) g.ms.length g.mc,.int .i64 g.en]) yb ?_;refine tY 3 zpN (.pointer (some ⟨w0.heap.size,1,none⟩)) yb ?_;refine tY 4 zrc (.int .i64 x.ow) yb ?_;refine wpAnyH_ready (rs:=[5]) (by kernel_rfl) (by simp) ?_
   refine AllReadyH.cons (o:=zqm) rfl (λK hK=>?_) AllReadyH.nil
   go_simp
   refine (HKn.out _ (zad _)).mono ?_;rintro e w2 ⟨rfl,hb2⟩;have hB2:Below w1.heap.size w1 w2:=zaa (zad _) hb2
   try go_wp2_with fail
   refine hK.out _ _ (HK0.out _ hB2) (λyb=>?_)
   clear hK K
   try simp only[Act.put,sA,s0,sS]
   refine wpAnyH_ready (rs:=[6]) (by kernel_rfl) (by simp) ?_
   refine AllReadyH.cons (o:=zqd) rfl (λK hK=>?_) AllReadyH.nil
   go_simp
   refine (HF1.out _).mono ?_;rintro e w3 ⟨rfl,hb3⟩;have hB3:Below w1.heap.size w1 w3:=zaa hB2 hb3
   try go_wp2_with fail
   refine hK.out _ _ (HK0.out _ hB3) (λyb=>?_)
   clear hK K
   try simp only[Act.put,sA,s0,sS]
   refine tY 7 zpR (.bool false) yb ?_;refine tY 8 zq8 (.bool false) yb ?_;refine tY 9 zra (.agg #[.string x.nm,.int .i64 x.ow,.int .i64 x.fl,.slice x.pa x.ps.length x.pc,.int .i64 x.rt.1,.int .i64 x.rt.2.1,.int .i64 x.rt.2.2.1,.bool x.rt.2.2.2,.slice x.la x.ls.length x.lc,.int .i64 x.mx,.slice x.ca x.co.length x.cc,.slice x.ka x.cl.length x.kc]) yb ?_;refine wpAnyH_ready (rs:=[10]) (by kernel_rfl) (by simp) ?_
   refine AllReadyH.cons (o:=zmi) rfl (λK hK=>?_) AllReadyH.nil
   go_simp
   refine (HF2.out _).mono ?_;rintro e w4 ⟨rfl,hb4⟩;have hB4:Below w1.heap.size w1 w4:=zaa hB3 hb4
   try go_wp2_with fail
   refine hK.out _ _ (HK0.out _ hB4) (λyb=>?_)
   clear hK K
   try simp only[Act.put,sA,s0,sS]
   refine tY 11 zlZ (.bool true) yb ?_;refine tY 12 zmf (.bool true) yb ?_;refine tY 13 zlp (.bool true) yb ?_;refine tN 14 zlB yb ?_;refine tN 15 zmd yb ?_;refine tN 16 zly yb ?_;refine tN 17 zln yb ?_;refine tN 18 zms yb ?_;refine tY 19 zmc (.bool true) yb ?_;refine wpAnyH_done (by kernel_rfl) ?_ _
   have HF:Hid (R=8):=HE8.out (by rw[<- HFl.out];rfl)
   go_wp2_with fail
   go_ret;exact⟨zak HF.out.symm,Bm.of (zaa HB01.out hB4),(HU1.out.later hB4).mono (by omega)⟩
  | true =>
   cases f3 with
   | false =>
    refine wp_region_held_drew (S:=(λW=>(W.cell? ⟨w.heap.size,0,none⟩=some (.slice g.ta g.ts.length g.tc)/\W.cell? ⟨w.heap.size,1,none⟩=some (.slice g.fa g.fs.length g.fc)/\W.cell? ⟨w.heap.size,2,none⟩=some (.slice (some ⟨tb,off,none⟩) g.ms.length g.mc)/\W.cell? ⟨w.heap.size,3,none⟩=some (.int .i64 g.en)/\W.cell? ⟨w.heap.size,4,none⟩=some (.map (some mm)))/\Mt W w0.heap.size x)) (by kernel_rfl) (HK0.out _ (zad _)) (λyb=>?_)
    refine tY 0 zqw (.agg #[.string x.nm,.int .i64 x.ow,.int .i64 x.fl,.slice x.pa x.ps.length x.pc,.int .i64 x.rt.1,.int .i64 x.rt.2.1,.int .i64 x.rt.2.2.1,.bool x.rt.2.2.2,.slice x.la x.ls.length x.lc,.int .i64 x.mx,.slice x.ca x.co.length x.cc,.slice x.ka x.cl.length x.kc]) yb ?_;refine tY 1 zpV (.pointer (some ⟨w.heap.size,0,none⟩)) yb ?_;refine tY 2 zqI (.agg #[.slice g.ta g.ts.length g.tc,.slice g.fa g.fs.length g.fc,.slice (some ⟨tb,off,none⟩) g.ms.length g.mc,.int .i64 g.en]) yb ?_;refine tY 3 zpN (.pointer (some ⟨w0.heap.size,1,none⟩)) yb ?_;refine tY 4 zrc (.int .i64 x.ow) yb ?_;refine wpAnyH_ready (rs:=[5]) (by kernel_rfl) (by simp) ?_
    refine AllReadyH.cons (o:=zqm) rfl (λK hK=>?_) AllReadyH.nil
    go_simp
    refine (HKn.out _ (zad _)).mono ?_;rintro e w2 ⟨rfl,hb2⟩;have hB2:Below w1.heap.size w1 w2:=zaa (zad _) hb2
    try go_wp2_with fail
    refine hK.out _ _ (HK0.out _ hB2) (λyb=>?_)
    clear hK K
    try simp only[Act.put,sA,s0,sS]
    refine wpAnyH_ready (rs:=[6]) (by kernel_rfl) (by simp) ?_
    refine AllReadyH.cons (o:=zqd) rfl (λK hK=>?_) AllReadyH.nil
    go_simp
    refine (HF1.out _).mono ?_;rintro e w3 ⟨rfl,hb3⟩;have hB3:Below w1.heap.size w1 w3:=zaa hB2 hb3
    try go_wp2_with fail
    refine hK.out _ _ (HK0.out _ hB3) (λyb=>?_)
    clear hK K
    try simp only[Act.put,sA,s0,sS]
    refine tY 7 zpR (.bool false) yb ?_;refine tY 8 zq8 (.bool false) yb ?_;refine tY 9 zra (.agg #[.string x.nm,.int .i64 x.ow,.int .i64 x.fl,.slice x.pa x.ps.length x.pc,.int .i64 x.rt.1,.int .i64 x.rt.2.1,.int .i64 x.rt.2.2.1,.bool x.rt.2.2.2,.slice x.la x.ls.length x.lc,.int .i64 x.mx,.slice x.ca x.co.length x.cc,.slice x.ka x.cl.length x.kc]) yb ?_;refine wpAnyH_ready (rs:=[10]) (by kernel_rfl) (by simp) ?_
    refine AllReadyH.cons (o:=zmi) rfl (λK hK=>?_) AllReadyH.nil
    go_simp
    refine (HF2.out _).mono ?_;rintro e w4 ⟨rfl,hb4⟩;have hB4:Below w1.heap.size w1 w4:=zaa hB3 hb4
    try go_wp2_with fail
    refine hK.out _ _ (HK0.out _ hB4) (λyb=>?_)
    clear hK K
    try simp only[Act.put,sA,s0,sS]
    refine tY 11 zlZ (.bool false) yb ?_;refine tY 12 zmf (.bool false) yb ?_;refine tY 13 zlp (.bool false) yb ?_;refine tY 14 zlB (.pointer (some ⟨w.heap.size,0,none⟩)) yb ?_;refine tY 15 zmd (.agg #[.slice g.ta g.ts.length g.tc,.slice g.fa g.fs.length g.fc,.slice (some ⟨tb,off,none⟩) g.ms.length g.mc,.int .i64 g.en]) yb ?_;refine tY 16 zly (.agg #[.string x.nm,.int .i64 x.ow,.int .i64 x.fl,.slice x.pa x.ps.length x.pc,.int .i64 x.rt.1,.int .i64 x.rt.2.1,.int .i64 x.rt.2.2.1,.bool x.rt.2.2.2,.slice x.la x.ls.length x.lc,.int .i64 x.mx,.slice x.ca x.co.length x.cc,.slice x.ka x.cl.length x.kc]) yb ?_;refine wpAnyH_ready (rs:=[17]) (by kernel_rfl) (by simp) ?_
    refine AllReadyH.cons (o:=zln) rfl (λK hK=>?_) AllReadyH.nil
    go_simp
    refine (HF3.out _ hB4).mono ?_;rintro e w5 ⟨rfl,hb5⟩;have hB5:Below w1.heap.size w1 w5:=zaa hB4 hb5
    try go_wp2_with fail
    refine hK.out _ _ (HK0.out _ hB5) (λyb=>?_)
    clear hK K
    try simp only[Act.put,sA,s0,sS]
    refine tY 18 zms (.bool true) yb ?_;refine tY 19 zmc (.bool true) yb ?_;refine wpAnyH_done (by kernel_rfl) ?_ _
    have HF:Hid (R=8):=HE8.out (by rw[<- HFl.out];rfl)
    go_wp2_with fail
    go_ret;exact⟨zak HF.out.symm,Bm.of (zaa HB01.out hB5),(HU1.out.later hB5).mono (by omega)⟩
   | true =>
    have hfm:fm=true:=by rw[<- HFl.out];rfl
    subst hfm;refine wp_region_held_drew (S:=(λW=>(W.cell? ⟨w.heap.size,0,none⟩=some (.slice g.ta g.ts.length g.tc)/\W.cell? ⟨w.heap.size,1,none⟩=some (.slice g.fa g.fs.length g.fc)/\W.cell? ⟨w.heap.size,2,none⟩=some (.slice (some ⟨tb,off,none⟩) g.ms.length g.mc)/\W.cell? ⟨w.heap.size,3,none⟩=some (.int .i64 g.en)/\W.cell? ⟨w.heap.size,4,none⟩=some (.map (some mm)))/\Mt W w0.heap.size x)) (by kernel_rfl) (HK0.out _ (zad _)) (λyb=>?_)
    refine tY 0 zqw (.agg #[.string x.nm,.int .i64 x.ow,.int .i64 x.fl,.slice x.pa x.ps.length x.pc,.int .i64 x.rt.1,.int .i64 x.rt.2.1,.int .i64 x.rt.2.2.1,.bool x.rt.2.2.2,.slice x.la x.ls.length x.lc,.int .i64 x.mx,.slice x.ca x.co.length x.cc,.slice x.ka x.cl.length x.kc]) yb ?_;refine tY 1 zpV (.pointer (some ⟨w.heap.size,0,none⟩)) yb ?_;refine tY 2 zqI (.agg #[.slice g.ta g.ts.length g.tc,.slice g.fa g.fs.length g.fc,.slice (some ⟨tb,off,none⟩) g.ms.length g.mc,.int .i64 g.en]) yb ?_;refine tY 3 zpN (.pointer (some ⟨w0.heap.size,1,none⟩)) yb ?_;refine tY 4 zrc (.int .i64 x.ow) yb ?_;refine wpAnyH_ready (rs:=[5]) (by kernel_rfl) (by simp) ?_
    refine AllReadyH.cons (o:=zqm) rfl (λK hK=>?_) AllReadyH.nil
    go_simp
    refine (HKn.out _ (zad _)).mono ?_;rintro e w2 ⟨rfl,hb2⟩;have hB2:Below w1.heap.size w1 w2:=zaa (zad _) hb2
    try go_wp2_with fail
    refine hK.out _ _ (HK0.out _ hB2) (λyb=>?_)
    clear hK K
    try simp only[Act.put,sA,s0,sS]
    refine wpAnyH_ready (rs:=[6]) (by kernel_rfl) (by simp) ?_
    refine AllReadyH.cons (o:=zqd) rfl (λK hK=>?_) AllReadyH.nil
    go_simp
    refine (HF1.out _).mono ?_;rintro e w3 ⟨rfl,hb3⟩;have hB3:Below w1.heap.size w1 w3:=zaa hB2 hb3
    try go_wp2_with fail
    refine hK.out _ _ (HK0.out _ hB3) (λyb=>?_)
    clear hK K
    try simp only[Act.put,sA,s0,sS]
    refine tY 7 zpR (.bool false) yb ?_;refine tY 8 zq8 (.bool false) yb ?_;refine tY 9 zra (.agg #[.string x.nm,.int .i64 x.ow,.int .i64 x.fl,.slice x.pa x.ps.length x.pc,.int .i64 x.rt.1,.int .i64 x.rt.2.1,.int .i64 x.rt.2.2.1,.bool x.rt.2.2.2,.slice x.la x.ls.length x.lc,.int .i64 x.mx,.slice x.ca x.co.length x.cc,.slice x.ka x.cl.length x.kc]) yb ?_;refine wpAnyH_ready (rs:=[10]) (by kernel_rfl) (by simp) ?_
    refine AllReadyH.cons (o:=zmi) rfl (λK hK=>?_) AllReadyH.nil
    go_simp
    refine (HF2.out _).mono ?_;rintro e w4 ⟨rfl,hb4⟩;have hB4:Below w1.heap.size w1 w4:=zaa hB3 hb4
    try go_wp2_with fail
    refine hK.out _ _ (HK0.out _ hB4) (λyb=>?_)
    clear hK K
    try simp only[Act.put,sA,s0,sS]
    refine tY 11 zlZ (.bool false) yb ?_;refine tY 12 zmf (.bool false) yb ?_;refine tY 13 zlp (.bool false) yb ?_;refine tY 14 zlB (.pointer (some ⟨w.heap.size,0,none⟩)) yb ?_;refine tY 15 zmd (.agg #[.slice g.ta g.ts.length g.tc,.slice g.fa g.fs.length g.fc,.slice (some ⟨tb,off,none⟩) g.ms.length g.mc,.int .i64 g.en]) yb ?_;refine tY 16 zly (.agg #[.string x.nm,.int .i64 x.ow,.int .i64 x.fl,.slice x.pa x.ps.length x.pc,.int .i64 x.rt.1,.int .i64 x.rt.2.1,.int .i64 x.rt.2.2.1,.bool x.rt.2.2.2,.slice x.la x.ls.length x.lc,.int .i64 x.mx,.slice x.ca x.co.length x.cc,.slice x.ka x.cl.length x.kc]) yb ?_;refine wpAnyH_ready (rs:=[17]) (by kernel_rfl) (by simp) ?_
    refine AllReadyH.cons (o:=zln) rfl (λK hK=>?_) AllReadyH.nil
    go_simp
    refine (HF3.out _ hB4).mono ?_;rintro e w5 ⟨rfl,hb5⟩;have hB5:Below w1.heap.size w1 w5:=zaa hB4 hb5
    try go_wp2_with fail
    refine hK.out _ _ (HK0.out _ hB5) (λyb=>?_)
    clear hK K
    try simp only[Act.put,sA,s0,sS]
    refine tY 18 zms (.bool false) yb ?_;refine tY 19 zmc (.bool false) yb ?_;refine wpAnyH_done (by kernel_rfl) ?_ _
    have HB5:Hid (Below w1.heap.size w1 w5):=hB5;clear hb2 hB2 hb3 hB3 hb4 hB4 hb5 hB5 HF1 HF2 HF3 HKn HE8;obtain⟨⟨c0,c1,c2,c3,c4⟩,k0,k1,k2,k3,k4,k5,k6,k7,k8,k9,k10,k11⟩:=HK0.out w5 HB5.out;go_wp2_with fail
    refine Calls.mono (HTy.out w5 HB5.out) ?_;rintro e w6 ⟨tv,rfl,ht6,hb6⟩;have hB6:Below w1.heap.size w1 w6:=zaa HB5.out hb6;have HB6:Hid (Bm mm w w6):=Bm.of (zaa HB01.out hB6);have HA6:Hid (At w6 w.heap.size (usA g mm) 54):=HA1.out.later hB6;have HU6:Hid (UM w6 mm g c):=HU1.out.later hB6;obtain⟨ta,tc,htv,_,htc⟩:=ht6.shape;have HO6:Hid (OwnE tyE w6 w5.heap.size 47 (.slice ta T.length tc) T):=by rw[<- htv];exact ht6
    have HM5:Hid (mm<w5.heap.size):=Nat.lt_of_lt_of_le HMM.out (Nat.le_trans HB01.out.size HB5.out.size);subst htv;unfold maxLen at htc;clear ht6 hb6 hB6 c0 c1 c2 c3 c4 k0 k1 k2 k3 k4 k5 k6 k7 k8 k9 k10 k11 HTy HK0 HA1 HU1;go_wp2_with fail
    go_loopw [7,37] (λ_ z wr=>∃ i:Nat,i<=T.length/\z=.int .i64 i/\Hid (Bm mm w6 wr)/\Hid (UM wr mm g (c+i))/\Hid (∀ t∈T.take i,zaw g t=true)) (λ_ z _=>T.length - (intOf z).toNat)
    case atStart=>exact⟨0,Nat.zero_le _,rfl,Bm.refl _ _,HU6.out,(show ∀ t∈_,_ from by simp)⟩
    case round =>
     obtain⟨i,hil0,rfl,HB,HU,HG⟩:=hrel;by_cases hil:i<T.length
     ·have hii:(i:Int)<(T.length:Int):=by omega
      have hOr:OwnE tyE wr w5.heap.size 47 (.slice ta T.length tc) T:=HO6.out.of_block λj hj hlt=>HB.out.block j hlt (by have:=(HO6.out.block j hj).1;have:=HM5.out;omega)
      obtain⟨lb,loff,lcap,hla,_,hcm,hlb,hcc⟩:=hOr.es.parts (by intro e;rw[e]at hil;simp at hil)
      simp only[Value.slice.injEq]at hla;obtain⟨hla, -,hlc⟩:=hla;obtain⟨y0,y1,y2,y3⟩:=(show El tyE wr lb (loff+i * 4) T[i] from hcc i hil).cells_Y
      have hAr:=HA6.out.bm HB.out (Nat.ne_of_gt HMM.out);obtain⟨wA,hwA⟩:∃ W,W=wr.alloc (.cells #[.int .i64 T[i].1,.int .i64 T[i].2.1,.int .i64 T[i].2.2.1,.bool T[i].2.2.2] 47):=⟨_,rfl⟩;have HWA:Hid (wA=_):=hwA;have hbA:Below wr.heap.size wr wA:=by rw[hwA];exact zac _ _ _
      have hAA:At wA wr.heap.size #[.int .i64 T[i].1,.int .i64 T[i].2.1,.int .i64 T[i].2.2.1,.bool T[i].2.2.2] 47:=by rw[hwA];exact At.made _ _ _
      obtain⟨c0,c1,c2,c3,c4⟩:=Us5.of (hAr.later hbA);rw[HME.out]at c2;have a0:=hAA.cell 0;have a1:=hAA.cell 1;have a2:=hAA.cell 2;have a3:=hAA.cell 3;simp at a0 a1 a2 a3;have HBA:Hid (Bm mm w6 wA):=HB.out.trans (Bm.of hbA);have HUq:Hid _:=HUs.out wA (c+i) T[i] (HB6.out.trans HBA.out) (HU.out.later hbA) (by omega) (HPl.out _ (List.getElem_mem hil))
      have HBd:Hid (zaw g T[i]=false->R=10):=λh=>HE10.out (by trivial) i hil h
      have HGd:Hid (zaw g T[i]=true->∀ t∈T.take (i+1),zaw g t=true):=λh t ht=>by
       rw[List.take_succ_eq_append_getElem hil]at ht
       rcases List.mem_append.1 ht with ht | ht
       ·exact HG.out t ht
       ·simp at ht;subst ht;exact h
      subst hla;clear hOr hlc hcc hAr hwA hbA hAA HB HU HG;generalize zaw g T[i]=ub at *;generalize T[i]=y at *;unfold maxLen at hcm;go_wp2_with (rw[<- HWA.out])
      refine Calls.mono HUq.out ?_;rintro e w7 ⟨rfl,hb7,hu7⟩;have HB7:Hid (Bm mm w6 w7):=HBA.out.trans hb7;have HU7:Hid (UM w7 mm g (c+i+1)):=hu7;clear hb7 hu7 c0 c1 c2 c3 c4 a0 a1 a2 a3 y0 y1 y2 y3 HUq HWA HBA
      cases ub with
      | false =>
       have HF:Hid (R=10):=HBd.out (by trivial)
       go_wp2_with fail
       go_ret;exact⟨zak HF.out.symm,HB6.out.trans HB7.out,HU7.out.mono (by omega)⟩
      | true =>
       have HG2:Hid _:=HGd.out (by trivial)
       go_wp2_with fail
       go_roundw
       case rel=>exact⟨i+1,by omega,by go_num,HB7.out,HU7.out,HG2.out⟩
       case measure=>simp[intOf];omega
     ·have hii:¬ (i:Int)<(T.length:Int):=by omega
      have HF:Hid (R=0):=HE0.out (by trivial) (λt ht=>HG.out t (by rw[List.take_of_length_le (by omega)];exact ht))
      go_wp2_with fail
      go_ret;exact⟨zak HF.out.symm,HB6.out.trans HB.out,HU.out.mono (by omega)⟩
end Go.Proofs.YtkedhjdipnhgdaaGreat
