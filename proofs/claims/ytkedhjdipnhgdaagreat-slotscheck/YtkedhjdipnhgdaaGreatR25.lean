import Derived.Test.YtkedhjdipnhgdaaGreatR16
namespace Go.Proofs.YtkedhjdipnhgdaaGreat
set_option maxHeartbeats 16000000
set_option linter.all false
open RowKit
attribute [local go_sem ↓] wp_at_zero wp_at_succ
theorem zpn (l:List Ins):ecL zcv l=xcL l:=by
 induction l with
 | nil=>rfl
 | cons x r ih =>
  have h:ecL zcv (x :: r)=zvQ x ++ ecL zcv r:=by simp[ecL,zcv]
  rw[h,ih];simp[xcL,zvQ]
theorem Es.toXs {w:World} {v:Value} {l:List Ins} (h:Es zcv w v l):Xs w v l:=by
 obtain⟨a,cap,rfl,h1,h2,h3⟩:=h;rw[zpn]at h3;exact⟨a,cap,rfl,h1,h2,h3⟩
theorem Xs.toEs {w:World} {v:Value} {l:List Ins} (h:Xs w v l):Es zcv w v l:=by
 obtain⟨a,cap,rfl,h1,h2,h3⟩:=h;rw[<- zpn]at h3;exact⟨a,cap,rfl,h1,h2,h3⟩
theorem zcJ {w w':World} (h:∃ n,w'=w.drewN n):Below w.heap.size w w':=by
 obtain⟨n,rfl⟩:=h;exact Below.drewN (Below.refl _ _) n
theorem zvn (W:World) (x:Cl):(binOp .neq 85 (clV x) (clV x)).run Tryz.prog W=.ok (.bool false) W:=by
 unfold clV;simp[go_sem]
theorem zur (W:World) (x:FD):(binOp .neq 62 (fdV x) (fdV x)).run Tryz.prog W=.ok (.bool false) W:=by
 unfold fdV;simp[go_sem]
theorem zuq (W:World) (t:Ty):(binOp .neq 47 (tv t) (tv t)).run Tryz.prog W=.ok (.bool false) W:=by
 unfold tv;simp[go_sem]
set_option maxRecDepth 100000 in
theorem zfM {x y:MD} {w:World} (hx:x.ok w) (hy:y.ok w) (hl:x.like y) :
 Calls Tryz.prog 28 #[mdV x,mdV y] w λe w'=>e=.returned (.bool true)/\Below w.heap.size w w':=by
 obtain⟨e1,e2,e3,e4,e5,e6,e7,e8,e9⟩:=hl;obtain⟨hy1,hy2,hy3,hy4⟩:=hy;rw[<- e4]at hy1;rw[<- e6]at hy2;rw[<- e8]at hy3;rw[<- e9]at hy4;have hyV:mdV y=.agg #[.string x.nm,.int .i64 x.ow,.int .i64 x.fl,.slice y.pa x.ps.length y.pc,.int .i64 x.rt.1,.int .i64 x.rt.2.1,.int .i64 x.rt.2.2.1,.bool x.rt.2.2.2,.slice y.la x.ls.length y.lc,.int .i64 x.mx,.slice y.ca x.co.length y.cc,.slice y.ka x.cl.length y.kc]:=by unfold mdV;rw[<- e1,<- e2,<- e3,<- e4,<- e5,<- e6,<- e7,<- e8,<- e9]
 rw[hyV];clear e1 e2 e3 e4 e5 e6 e7 e8 e9 hyV;obtain⟨w0,hw0⟩:∃ W,W=(w.alloc (.cells #[.string x.nm,.int .i64 x.ow,.int .i64 x.fl,.slice x.pa x.ps.length x.pc,.int .i64 x.rt.1,.int .i64 x.rt.2.1,.int .i64 x.rt.2.2.1,.bool x.rt.2.2.2,.slice x.la x.ls.length x.lc,.int .i64 x.mx,.slice x.ca x.co.length x.cc,.slice x.ka x.cl.length x.kc] 51)).alloc (.cells #[.string x.nm,.int .i64 x.ow,.int .i64 x.fl,.slice y.pa x.ps.length y.pc,.int .i64 x.rt.1,.int .i64 x.rt.2.1,.int .i64 x.rt.2.2.1,.bool x.rt.2.2.2,.slice y.la x.ls.length y.lc,.int .i64 x.mx,.slice y.ca x.co.length y.cc,.slice y.ka x.cl.length y.kc] 51):=⟨_,rfl⟩;have HW0:Hid (w0=_):=hw0;obtain⟨hb0,hat⟩:=zan hw0;have HB0:Hid (Below w.heap.size w w0):=hb0;have HAT:Hid (∀ W,Below w0.heap.size w0 W->At W w.heap.size #[.string x.nm,.int .i64 x.ow,.int .i64 x.fl,.slice x.pa x.ps.length x.pc,.int .i64 x.rt.1,.int .i64 x.rt.2.1,.int .i64 x.rt.2.2.1,.bool x.rt.2.2.2,.slice x.la x.ls.length x.lc,.int .i64 x.mx,.slice x.ca x.co.length x.cc,.slice x.ka x.cl.length x.kc] 51/\At W (w.heap.size+1) #[.string x.nm,.int .i64 x.ow,.int .i64 x.fl,.slice y.pa x.ps.length y.pc,.int .i64 x.rt.1,.int .i64 x.rt.2.1,.int .i64 x.rt.2.2.1,.bool x.rt.2.2.2,.slice y.la x.ls.length y.lc,.int .i64 x.mx,.slice y.ca x.co.length y.cc,.slice y.ka x.cl.length y.kc] 51):=hat;have HK1:Hid (∀ W,Below w0.heap.size w0 W->Es zci W (.slice x.ka x.cl.length x.kc) x.cl):=λW hW=>hx.cl.later (zaa hb0 hW)
 have HK2:Hid (∀ W,Below w0.heap.size w0 W->Es zci W (.slice y.ka x.cl.length y.kc) x.cl):=λW hW=>hy4.later (zaa hb0 hW)
 have HP:Hid (∀ W,Below w0.heap.size w0 W->Calls Tryz.prog 55 #[.slice x.pa x.ps.length x.pc,.slice y.pa x.ps.length y.pc] W λe w'=>e=.returned (.bool true)/\Below W.heap.size W w'):=λW hW=>(zdx (hx.ps.later (zaa hb0 hW)).toTs (hy1.later (zaa hb0 hW)).toTs).mono λe w' ⟨h1,h2⟩=>⟨h1,zcJ h2⟩
 have HL:Hid (∀ W,Below w0.heap.size w0 W->Calls Tryz.prog 55 #[.slice x.la x.ls.length x.lc,.slice y.la x.ls.length y.lc] W λe w'=>e=.returned (.bool true)/\Below W.heap.size W w'):=λW hW=>(zdx (hx.ls.later (zaa hb0 hW)).toTs (hy2.later (zaa hb0 hW)).toTs).mono λe w' ⟨h1,h2⟩=>⟨h1,zcJ h2⟩
 have HC:Hid (∀ W,Below w0.heap.size w0 W->Calls Tryz.prog 56 #[.slice x.ca x.co.length x.cc,.slice y.ca x.co.length y.cc] W λe w'=>e=.returned (.bool true)/\Below W.heap.size W w'):=λW hW=>(ziv (hx.co.later (zaa hb0 hW)).toXs (hy3.later (zaa hb0 hW)).toXs).mono λe w' ⟨h1,h2⟩=>⟨h1,zcJ h2⟩
 have hkl:=hx.cl.len;unfold maxLen at hkl;have hnt:∀ W:World,(binOp .neq 47 (.agg #[.int .i64 x.rt.1,.int .i64 x.rt.2.1,.int .i64 x.rt.2.2.1,.bool x.rt.2.2.2]) (.agg #[.int .i64 x.rt.1,.int .i64 x.rt.2.1,.int .i64 x.rt.2.2.1,.bool x.rt.2.2.2])).run Tryz.prog W=.ok (.bool false) W:=λW=>zuq W x.rt
 obtain⟨hA1,hA2⟩:=hat w0 (Below.refl _ _);have c1:=hA1.cell;have c2:=hA2.cell;clear hw0 hb0 hat hA1 hA2 hx hy1 hy2 hy3 hy4;unfold mdV;go_enter Tryz.func28,Tryz.ntmps28;go_wp2_with (rw[<- HW0.out])
 clear c1 c2 hnt;go_loopw [5] (λz wr=>∃ q:Nat,q<=x.cl.length/\z=.int .i64 q/\Below w0.heap.size w0 wr) (λz _=>x.cl.length - (intOf z).toNat)
 case atStart=>exact⟨0,Nat.zero_le _,rfl,Below.refl _ _⟩
 case round =>
  obtain⟨q,hq,rfl,hB⟩:=hrel;have HBr:Hid (Below w0.heap.size w0 wr):=hB;obtain⟨hA1,hA2⟩:=HAT.out wr hB;have c1:=hA1.cell;have c2:=hA2.cell;clear hA1 hA2;by_cases hql:q<x.cl.length
  ·obtain⟨b,off,hfa,hb,h6,h7,hc⟩:=(HK1.out wr hB).at hql;obtain⟨b',off',hfa',hb',h6',h7',hc'⟩:=(HK2.out wr hB).at hql;have k1:=(show El zci wr b (off+q * 10) x.cl[q] from hc q hql).ten
   have k2:=(show El zci wr b' (off'+q * 10) x.cl[q] from hc' q hql).ten
   generalize x.cl[q]=c at *;obtain⟨k10,k11,k12,k13,k14,k15,k16,k17,k18,k19⟩:=k1;obtain⟨k20,k21,k22,k23,k24,k25,k26,k27,k28,k29⟩:=k2;have hnc:∀ W:World,(binOp .neq 85 (.agg #[.int .i64 c.k,.int .i64 c.tf,.int .i64 c.tt,.int .i64 c.hf,.int .i64 c.ht,.int .i64 c.fi,.int .i64 c.t0,.int .i64 c.t1,.int .i64 c.t2,.bool c.t3]) (.agg #[.int .i64 c.k,.int .i64 c.tf,.int .i64 c.tt,.int .i64 c.hf,.int .i64 c.ht,.int .i64 c.fi,.int .i64 c.t0,.int .i64 c.t1,.int .i64 c.t2,.bool c.t3])).run Tryz.prog W=.ok (.bool false) W:=λW=>zvn W c
   unfold maxLen at h7 h7';rw[hfa]at c1;rw[hfa']at c2;clear hfa hfa' hc hc' hB;go_wp2_with fail
   go_quiet (fail)
   go_wp2;go_roundw
   case rel=>exact⟨q+1,by omega,by go_num,Below.drewN HBr.out _⟩
   case measure=>simp[intOf];omega
  ·have HP1:=HP.out wr hB;clear hB;go_wp2_with fail
   refine Calls.mono HP1 ?_;rintro e w1 ⟨rfl,hb1⟩;have HB1:Hid (Below w0.heap.size w0 w1):=zaa HBr.out hb1;clear HP1 c1 c2 hb1;obtain⟨hA1,hA2⟩:=HAT.out w1 HB1.out;have c1:=hA1.cell;have c2:=hA2.cell;have HL1:=HL.out w1 HB1.out;clear hA1 hA2;go_wp2_with fail
   refine Calls.mono HL1 ?_;rintro e w2 ⟨rfl,hb2⟩;have HB2:Hid (Below w0.heap.size w0 w2):=zaa HB1.out hb2;clear HL1 c1 c2 hb2;obtain⟨hA1,hA2⟩:=HAT.out w2 HB2.out;have c1:=hA1.cell;have c2:=hA2.cell;have HC1:=HC.out w2 HB2.out;clear hA1 hA2;go_wp2_with fail
   refine Calls.mono HC1 ?_;rintro e w3 ⟨rfl,hb3⟩;have HB3:Hid (Below w0.heap.size w0 w3):=zaa HB2.out hb3;clear HC1 c1 c2 hb3;go_wp2;go_ret;exact⟨rfl,zaa HB0.out HB3.out⟩
set_option maxRecDepth 100000 in
theorem znn {g h:Img} {w:World} (hg:Im w g) (hh:Im w h) (hl:g.like h) :
 Calls Tryz.prog 9 #[imV g,imV h] w λe w'=>e=.returned (.bool true)/\Below w.heap.size w w':=by
 obtain⟨e1,e2,e3,e4,e5,e6⟩:=hl;have hhV:imV h=.agg #[.slice h.ta g.ts.length h.tc,.slice h.fa g.fs.length h.fc,.slice h.ma g.ms.length h.mc,.int .i64 g.en]:=by unfold imV;rw[<- e1,<- e3,<- e4,<- e6]
 rw[hhV];obtain⟨w0,hw0⟩:∃ W,W=(w.alloc (.cells #[.slice g.ta g.ts.length g.tc,.slice g.fa g.fs.length g.fc,.slice g.ma g.ms.length g.mc,.int .i64 g.en] 26)).alloc (.cells #[.slice h.ta g.ts.length h.tc,.slice h.fa g.fs.length h.fc,.slice h.ma g.ms.length h.mc,.int .i64 g.en] 26):=⟨_,rfl⟩;have HW0:Hid (w0=_):=hw0;obtain⟨hb0,hat⟩:=zan hw0;have HB0:Hid (Below w.heap.size w w0):=hb0;have HAT:Hid (∀ W,Below w0.heap.size w0 W->At W w.heap.size #[.slice g.ta g.ts.length g.tc,.slice g.fa g.fs.length g.fc,.slice g.ma g.ms.length g.mc,.int .i64 g.en] 26/\At W (w.heap.size+1) #[.slice h.ta g.ts.length h.tc,.slice h.fa g.fs.length h.fc,.slice h.ma g.ms.length h.mc,.int .i64 g.en] 26):=hat;have HT1:Hid (∀ W,Below w0.heap.size w0 W->Es tdE W (.slice g.ta g.ts.length g.tc) g.ts):=λW hW=>hg.ts.later (zaa hb0 hW)
 have HT2:Hid (∀ W,Below w0.heap.size w0 W->Es tdE W (.slice h.ta h.ts.length h.tc) h.ts):=λW hW=>hh.ts.later (zaa hb0 hW)
 have HF1:Hid (∀ W,Below w0.heap.size w0 W->Es fdE W (.slice g.fa g.fs.length g.fc) g.fs):=λW hW=>hg.fs.later (zaa hb0 hW)
 have HF2:Hid (∀ W,Below w0.heap.size w0 W->Es fdE W (.slice h.fa g.fs.length h.fc) g.fs):=λW hW=>by
  have:=hh.fs.later (zaa hb0 hW)
  rwa [<- e3]at this
 have HM1:Hid (∀ W,Below w0.heap.size w0 W->Es mdE W (.slice g.ma g.ms.length g.mc) g.ms):=λW hW=>hg.ms.later (zaa hb0 hW)
 have HM2:Hid (∀ W,Below w0.heap.size w0 W->Es mdE W (.slice h.ma h.ms.length h.mc) h.ms):=λW hW=>hh.ms.later (zaa hb0 hW)
 have HtO:Hid (∀ i (h1:i<g.ts.length) (h2:i<h.ts.length),∀ W,Below w0.heap.size w0 W->(g.ts[i]).ok W/\(h.ts[i]).ok W/\(g.ts[i]).like (h.ts[i])):=λi h1 h2 W hW=>⟨(hg.tok _ (List.getElem_mem h1)).later (zaa hb0 hW),(hh.tok _ (List.getElem_mem h2)).later (zaa hb0 hW),e2 i h1 h2⟩
 have HmO:Hid (∀ i (h1:i<g.ms.length) (h2:i<h.ms.length),∀ W,Below w0.heap.size w0 W->Calls Tryz.prog 28 #[mdV g.ms[i],mdV h.ms[i]] W λe w'=>e=.returned (.bool true)/\Below W.heap.size W w'):=λi h1 h2 W hW=>zfM ((hg.mok _ (List.getElem_mem h1)).later (zaa hb0 hW)) ((hh.mok _ (List.getElem_mem h2)).later (zaa hb0 hW)) (e5 i h1 h2)
 have HE1:Hid (g.ts.length=h.ts.length):=e1;have HE4:Hid (g.ms.length=h.ms.length):=e4;have htl:=hg.ts.len;have hfl:=hg.fs.len;have hml:=hg.ms.len;unfold maxLen at htl hfl hml;obtain⟨hA1,hA2⟩:=hat w0 (Below.refl _ _);have c1:=hA1.cell;have c2:=hA2.cell;clear hw0 hb0 hat hA1 hA2 hg hh e1 e2 e3 e4 e5 e6 hhV;unfold imV;go_enter Tryz.func9,Tryz.ntmps9;go_wp2_with (rw[<- HW0.out])
 clear c1 c2;go_loopw [5] (λz wr=>∃ q:Nat,q<=g.ts.length/\z=.int .i64 q/\Below w0.heap.size w0 wr) (λz _=>g.ts.length - (intOf z).toNat)
 case atStart=>exact⟨0,Nat.zero_le _,rfl,Below.refl _ _⟩
 case round =>
  obtain⟨q,hq,rfl,hB⟩:=hrel;have HBr:Hid (Below w0.heap.size w0 wr):=hB;obtain⟨hA1,hA2⟩:=HAT.out wr hB;have c1:=hA1.cell;have c2:=hA2.cell;clear hA1 hA2;by_cases hql:q<g.ts.length
  ·have hql2:q<h.ts.length:=by have:=HE1.out;omega
   obtain⟨b,off,hfa,hb,h6,h7,hc⟩:=(HT1.out wr hB).at hql;obtain⟨b',off',hfa',hb',h6',h7',hc'⟩:=(HT2.out wr hB).at hql2;have k1:=(show El tdE wr b (off+q * 4) g.ts[q] from hc q hql).cells_T
   have k2:=(show El tdE wr b' (off'+q * 4) h.ts[q] from hc' q hql2).cells_T
   have HOk:Hid (∀ W,Below w0.heap.size w0 W->(g.ts[q]).ok W/\(h.ts[q]).ok W/\(g.ts[q]).like (h.ts[q])):=HtO.out q hql hql2;rw[<- HE1.out]at h6';generalize g.ts[q]=x at *;generalize h.ts[q]=y at *;have hlk:=(HOk.out wr hB).2.2;obtain⟨l1,l2,l3,l4⟩:=hlk;have HSi:Hid (∀ W,Below w0.heap.size w0 W->Calls Tryz.prog 27 #[.slice x.fa x.fs.length x.fc,.slice y.fa x.fs.length y.fc] W λe w'=>e=.returned (.bool true)/\Below W.heap.size W w'):=λW hW=>by
    obtain⟨o1,o2,_⟩:=HOk.out W hW;unfold TD.ok at o1 o2;rw[<- l4]at o2;refine (zhO o1.toIs o2.toIs).mono ?_;rintro e w' ⟨rfl,hn⟩;exact⟨by rw[decide_eq_true rfl],zcJ hn⟩
   rw[<- l1,<- l2,<- l3,<- l4]at k2;obtain⟨k10,k11,k12,k13⟩:=k1;obtain⟨k20,k21,k22,k23⟩:=k2;unfold maxLen at h7 h7';rw[hfa]at c1;rw[hfa']at c2;obtain⟨wA,hwA⟩:∃ W,W=wr.alloc (.cells #[.string x.nm,.int .i64 x.fl,.int .i64 x.ex,.slice x.fa x.fs.length x.fc] 44):=⟨_,rfl⟩;have HWA:Hid (wA=_):=hwA;have hbA:Below wr.heap.size wr wA:=by rw[hwA];exact zac _ _ _
   have hAA:At wA wr.heap.size #[.string x.nm,.int .i64 x.fl,.int .i64 x.ex,.slice x.fa x.fs.length x.fc] 44:=by rw[hwA];exact At.made _ _ _
   have hBA:Below w0.heap.size w0 wA:=zaa hB hbA;obtain⟨hI1,hI2⟩:=HAT.out wA hBA;have d1:=hI1.cell;have d2:=hI2.cell;rw[hfa]at d1;rw[hfa']at d2;have eB:∀ o u,wr.cell? ⟨b',o,none⟩=some u->wA.cell? ⟨b',o,none⟩=some u:=λo u he=>by rw[<- he];exact hbA.cell (p:=⟨b',o,none⟩) hb'
   have n20:=eB _ _ k20;have n21:=eB _ _ k21;have n22:=eB _ _ k22;have n23:=eB _ _ k23;obtain⟨wB,hwB⟩:∃ W,W=wA.alloc (.cells #[.string x.nm,.int .i64 x.fl,.int .i64 x.ex,.slice y.fa x.fs.length y.fc] 44):=⟨_,rfl⟩;have HWB:Hid (wB=_):=hwB;have hbB:Below wA.heap.size wA wB:=by rw[hwB];exact zac _ _ _
   have hAB:At wB wA.heap.size #[.string x.nm,.int .i64 x.fl,.int .i64 x.ex,.slice y.fa x.fs.length y.fc] 44:=by rw[hwB];exact At.made _ _ _
   have HBB:Hid (Below w0.heap.size w0 wB):=zaa hBA hbB;have a1:=(hAA.later hbB).cell;have a2:=hAB.cell;have HS1:=HSi.out wB HBB.out;have HsA:Hid (wA.heap.size=wr.heap.size+1):=by show _=_;rw[hwA];simp
   clear hfa hfa' hc hc' hB hwA hbA hAA hI1 hI2 hwB hbB hAB hBA l1 l2 l3 l4 k20 k21 k22 k23 eB h6 h6';go_wp2_with (first | rw[<- HWA.out] | rw[<- HWB.out])
   refine Calls.mono HS1 ?_;rintro e w1 ⟨rfl,hb1⟩;have HB1:Hid (Below w0.heap.size w0 w1):=zaa HBB.out hb1;clear HS1 c1 c2 d1 d2 k10 k11 k12 k13 n20 n21 n22 n23 a1 a2 hb1;go_wp2_with fail
   go_roundw
   case rel=>exact⟨q+1,by omega,by go_num,HB1.out⟩
   case measure=>simp[intOf];omega
  ·clear hB;go_wp2_with fail
   clear c1 c2;go_loopw [8] (λz wr2=>∃ q:Nat,q<=g.fs.length/\z=.int .i64 q/\Below w0.heap.size w0 wr2) (λz _=>g.fs.length - (intOf z).toNat)
   case atStart=>exact⟨0,Nat.zero_le _,rfl,HBr.out⟩
   case round =>
    obtain⟨q,hq,rfl,hB⟩:=hrel;have HBs:Hid (Below w0.heap.size w0 wr):=hB;obtain⟨hA1,hA2⟩:=HAT.out wr hB;have c1:=hA1.cell;have c2:=hA2.cell;clear hA1 hA2;by_cases hql2:q<g.fs.length
    ·obtain⟨b,off,hfa,hb,h6,h7,hc⟩:=(HF1.out wr hB).at hql2;obtain⟨b',off',hfa',hb',h6',h7',hc'⟩:=(HF2.out wr hB).at hql2;have k1:=(show El fdE wr b (off+q * 7) g.fs[q] from hc q hql2).cells_F
     have k2:=(show El fdE wr b' (off'+q * 7) g.fs[q] from hc' q hql2).cells_F
     generalize g.fs[q]=c at *;obtain⟨k10,k11,k12,k13,k14,k15,k16⟩:=k1;obtain⟨k20,k21,k22,k23,k24,k25,k26⟩:=k2;have hnc:∀ W:World,(binOp .neq 62 (.agg #[.string c.nm,.int .i64 c.ow,.int .i64 c.t.1,.int .i64 c.t.2.1,.int .i64 c.t.2.2.1,.bool c.t.2.2.2,.bool c.st]) (.agg #[.string c.nm,.int .i64 c.ow,.int .i64 c.t.1,.int .i64 c.t.2.1,.int .i64 c.t.2.2.1,.bool c.t.2.2.2,.bool c.st])).run Tryz.prog W=.ok (.bool false) W:=λW=>zur W c
     unfold maxLen at h7 h7';rw[hfa]at c1;rw[hfa']at c2;clear hfa hfa' hc hc' hB;go_wp2_with fail
     go_quiet (fail)
     go_wp2;go_roundw
     case rel=>exact⟨q+1,by omega,by go_num,Below.drewN HBs.out _⟩
     case measure=>simp[intOf];omega
    ·clear hB;go_wp2_with fail
     clear c1 c2;go_loopw [9] (λz wr2=>∃ q:Nat,q<=g.ms.length/\z=.int .i64 q/\Below w0.heap.size w0 wr2) (λz _=>g.ms.length - (intOf z).toNat)
     case atStart=>exact⟨0,Nat.zero_le _,rfl,HBs.out⟩
     case round =>
      obtain⟨q,hq,rfl,hB⟩:=hrel;have HBt:Hid (Below w0.heap.size w0 wr):=hB;by_cases hql3:q<g.ms.length
      ·have hql4:q<h.ms.length:=by have:=HE4.out;omega
       obtain⟨b,off,hfa,hb,h6,h7,hc⟩:=(HM1.out wr hB).at hql3;obtain⟨b',off',hfa',hb',h6',h7',hc'⟩:=(HM2.out wr hB).at hql4;have HC1:Hid (∀ W,Below wr.heap.size wr W->El mdE W b (off+q * 12) g.ms[q]):=λW hW=>(show El mdE wr b (off+q * 12) g.ms[q] from hc q hql3).below hW hb
       have HC2:Hid (∀ W,Below wr.heap.size wr W->El mdE W b' (off'+q * 12) h.ms[q]):=λW hW=>(show El mdE wr b' (off'+q * 12) h.ms[q] from hc' q hql4).below hW hb'
       have HMe:Hid (∀ W,Below w0.heap.size w0 W->Calls Tryz.prog 28 #[mdV g.ms[q],mdV h.ms[q]] W λe w'=>e=.returned (.bool true)/\Below W.heap.size W w'):=HmO.out q hql3 hql4
       rw[<- HE4.out]at h6';have HIs:Hid (∀ W,Below w0.heap.size w0 W->W.cell? ⟨w.heap.size,2,none⟩=some (.slice (some ⟨b,off,none⟩) g.ms.length g.mc)/\W.cell? ⟨w.heap.size+1,2,none⟩=some (.slice (some ⟨b',off',none⟩) g.ms.length h.mc)):=λW hW=>by
        obtain⟨q1,q2⟩:=HAT.out W hW;rw[hfa]at q1;rw[hfa']at q2;exact⟨q1.cell 2,q2.cell 2⟩
       generalize g.ms[q]=x at *;generalize h.ms[q]=y at *;have HK:Hid (∀ W,Below wr.heap.size wr W->W.cell? ⟨w.heap.size,2,none⟩=some (.slice (some ⟨b,off,none⟩) g.ms.length g.mc)/\W.cell? ⟨w.heap.size+1,2,none⟩=some (.slice (some ⟨b',off',none⟩) g.ms.length h.mc)/\(W.cell? ⟨b,off+q * 12,none⟩=some (.string x.nm)/\W.cell? ⟨b,off+q * 12+1,none⟩=some (.int .i64 x.ow)/\W.cell? ⟨b,off+q * 12+2,none⟩=some (.int .i64 x.fl)/\W.cell? ⟨b,off+q * 12+3,none⟩=some (.slice x.pa x.ps.length x.pc)/\W.cell? ⟨b,off+q * 12+4,none⟩=some (.int .i64 x.rt.1)/\W.cell? ⟨b,off+q * 12+5,none⟩=some (.int .i64 x.rt.2.1)/\W.cell? ⟨b,off+q * 12+6,none⟩=some (.int .i64 x.rt.2.2.1)/\W.cell? ⟨b,off+q * 12+7,none⟩=some (.bool x.rt.2.2.2)/\W.cell? ⟨b,off+q * 12+8,none⟩=some (.slice x.la x.ls.length x.lc)/\W.cell? ⟨b,off+q * 12+9,none⟩=some (.int .i64 x.mx)/\W.cell? ⟨b,off+q * 12+10,none⟩=some (.slice x.ca x.co.length x.cc)/\W.cell? ⟨b,off+q * 12+11,none⟩=some (.slice x.ka x.cl.length x.kc))/\(W.cell? ⟨b',off'+q * 12,none⟩=some (.string y.nm)/\W.cell? ⟨b',off'+q * 12+1,none⟩=some (.int .i64 y.ow)/\W.cell? ⟨b',off'+q * 12+2,none⟩=some (.int .i64 y.fl)/\W.cell? ⟨b',off'+q * 12+3,none⟩=some (.slice y.pa y.ps.length y.pc)/\W.cell? ⟨b',off'+q * 12+4,none⟩=some (.int .i64 y.rt.1)/\W.cell? ⟨b',off'+q * 12+5,none⟩=some (.int .i64 y.rt.2.1)/\W.cell? ⟨b',off'+q * 12+6,none⟩=some (.int .i64 y.rt.2.2.1)/\W.cell? ⟨b',off'+q * 12+7,none⟩=some (.bool y.rt.2.2.2)/\W.cell? ⟨b',off'+q * 12+8,none⟩=some (.slice y.la y.ls.length y.lc)/\W.cell? ⟨b',off'+q * 12+9,none⟩=some (.int .i64 y.mx)/\W.cell? ⟨b',off'+q * 12+10,none⟩=some (.slice y.ca y.co.length y.cc)/\W.cell? ⟨b',off'+q * 12+11,none⟩=some (.slice y.ka y.cl.length y.kc))):=λW hW=>⟨(HIs.out W (zaa HBt.out hW)).1,(HIs.out W (zaa HBt.out hW)).2,(HC1.out W hW).cells_M,(HC2.out W hW).cells_M⟩
       unfold mdV at HMe;unfold maxLen at h7 h7';obtain⟨hA1,hA2⟩:=HAT.out wr hB;rw[hfa]at hA1;rw[hfa']at hA2;have c1:=hA1.cell;have c2:=hA2.cell;clear hfa hfa' hc hc' hB hA1 hA2;go_wp2_with fail
       go_region_held3 (λW=>W.cell? ⟨w.heap.size,2,none⟩=some (.slice (some ⟨b,off,none⟩) g.ms.length g.mc)/\W.cell? ⟨w.heap.size+1,2,none⟩=some (.slice (some ⟨b',off',none⟩) g.ms.length h.mc)/\(W.cell? ⟨b,off+q * 12,none⟩=some (.string x.nm)/\W.cell? ⟨b,off+q * 12+1,none⟩=some (.int .i64 x.ow)/\W.cell? ⟨b,off+q * 12+2,none⟩=some (.int .i64 x.fl)/\W.cell? ⟨b,off+q * 12+3,none⟩=some (.slice x.pa x.ps.length x.pc)/\W.cell? ⟨b,off+q * 12+4,none⟩=some (.int .i64 x.rt.1)/\W.cell? ⟨b,off+q * 12+5,none⟩=some (.int .i64 x.rt.2.1)/\W.cell? ⟨b,off+q * 12+6,none⟩=some (.int .i64 x.rt.2.2.1)/\W.cell? ⟨b,off+q * 12+7,none⟩=some (.bool x.rt.2.2.2)/\W.cell? ⟨b,off+q * 12+8,none⟩=some (.slice x.la x.ls.length x.lc)/\W.cell? ⟨b,off+q * 12+9,none⟩=some (.int .i64 x.mx)/\W.cell? ⟨b,off+q * 12+10,none⟩=some (.slice x.ca x.co.length x.cc)/\W.cell? ⟨b,off+q * 12+11,none⟩=some (.slice x.ka x.cl.length x.kc))/\(W.cell? ⟨b',off'+q * 12,none⟩=some (.string y.nm)/\W.cell? ⟨b',off'+q * 12+1,none⟩=some (.int .i64 y.ow)/\W.cell? ⟨b',off'+q * 12+2,none⟩=some (.int .i64 y.fl)/\W.cell? ⟨b',off'+q * 12+3,none⟩=some (.slice y.pa y.ps.length y.pc)/\W.cell? ⟨b',off'+q * 12+4,none⟩=some (.int .i64 y.rt.1)/\W.cell? ⟨b',off'+q * 12+5,none⟩=some (.int .i64 y.rt.2.1)/\W.cell? ⟨b',off'+q * 12+6,none⟩=some (.int .i64 y.rt.2.2.1)/\W.cell? ⟨b',off'+q * 12+7,none⟩=some (.bool y.rt.2.2.2)/\W.cell? ⟨b',off'+q * 12+8,none⟩=some (.slice y.la y.ls.length y.lc)/\W.cell? ⟨b',off'+q * 12+9,none⟩=some (.int .i64 y.mx)/\W.cell? ⟨b',off'+q * 12+10,none⟩=some (.slice y.ca y.co.length y.cc)/\W.cell? ⟨b',off'+q * 12+11,none⟩=some (.slice y.ka y.cl.length y.kc)))
        (first | (exact HK.out _ (zad _)) | (exact HK.out _ (zaa (zad _) hb1)))
        (first | (go_at_call 28;refine (HMe.out _ (zaa HBt.out (zad _))).mono ?_;rintro e w1 ⟨rfl,hb1⟩))
       rename_i hheld
       clear hheld c1 c2;have HB1:Hid (Below w0.heap.size w0 w1):=zaa HBt.out (zaa (zad _) hb1);clear hb1;go_wp2_with fail
       go_roundw
       case rel=>exact⟨q+1,by omega,by go_num,HB1.out⟩
       case measure=>simp[intOf];omega
      ·obtain⟨hA1,hA2⟩:=HAT.out wr hB;have c1:=hA1.cell;have c2:=hA2.cell;clear hA1 hA2 hB;go_wp2_with fail
       go_ret;exact⟨rfl,zaa HB0.out HBt.out⟩
end Go.Proofs.YtkedhjdipnhgdaaGreat
