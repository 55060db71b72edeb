import Derived.Test.YtkedhjdipnhgdaaGreatR07
namespace Go.Proofs.YtkedhjdipnhgdaaGreat
set_option maxHeartbeats 16000000
set_option linter.all false
open RowKit
attribute [local go_sem ↓] wp_at_zero wp_at_succ
theorem Tryz.sizeClause:(Tryz.prog.info? 85).map (·.size)=some 10:=by kernel_rfl
theorem FirstR.hit {f:Nat->Int} {m q:Nat} (hq:q<m) (h:∀ k,k<q->f k=0) (e:Int) (he:f q=e) (hne:e≠0):FirstR f m (q:Int) e:=.inr ⟨q,hq,rfl,he.symm,by rw[he];exact hne,h⟩
theorem FirstR.done {f:Nat->Int} {m:Nat} (h:∀ k,k<m->f k=0):FirstR f m 0 0:=.inl ⟨rfl,rfl,h⟩
theorem zhX {f:Nat->Int} {q:Nat} (h:∀ k,k<q->f k=0) (hq:f q=0):∀ k,k<q+1->f k=0:=λk hk=>by
 rcases Nat.lt_or_ge k q with g | g
 ·exact h k g
 ·obtain rfl:k=q:=by omega
  exact hq
theorem zmU (n:Int) (a:Option Addr) (cap:Nat) (w:World) :
 Calls Tryz.prog 197 #[.int .i64 n,.slice a 0 cap] w λe w'=>e=.returned (.tuple #[.int .i64 0,.int .i64 0])/\w'=w:=by
 go_enter Tryz.func197,Tryz.ntmps197;go_wp2;refine wp_loop_rounds 1 ?_;rw[rounds_succ];go_wp2;go_ret2
 exact⟨rfl,rfl⟩
theorem zmN (n:Int) (a:Option Addr) (m cap:Nat) (hm:6<m) (w:World) :
 Calls Tryz.prog 197 #[.int .i64 n,.slice a m cap] w λe w'=>e=.returned (.tuple #[.int .i64 0,.int .i64 4])/\w'=w:=by
 have h:(6:Int)<(m:Int):=by omega
 go_enter Tryz.func197,Tryz.ntmps197;go_wp2;go_ret2
 exact⟨rfl,rfl⟩
theorem znc {b off cap:Nat} {n:Int} {l:List Cl} {w:World} (hE:Es zci w (.slice (some ⟨b,off,none⟩) l.length cap) l) (hb:b<w.heap.size) (hc:∀ i (hi:i<l.length),El zci w b (off+i * 10) l[i]) (hl:l.length<=6) (hcap:l.length<=cap) (hm:cap<=maxLen) :
 Calls Tryz.prog 197 #[.int .i64 n,.slice (some ⟨b,off,none⟩) l.length cap] w λe w'=>∃ i x,e=.returned (.tuple #[.int .i64 i,.int .i64 x])/\FirstR (zjV n l) l.length i x/\Below w.heap.size w w':=by
 unfold maxLen at hm;have HC:Hid (∀ i (hi:i<l.length),El zci w b (off+i * 10) l[i]):=hc;have HE:Hid (Es zci w (.slice (some ⟨b,off,none⟩) l.length cap) l):=hE;clear hc hE;go_enter Tryz.func197,Tryz.ntmps197;go_wp2_with fail
 go_loopw [15] (λz wr=>∃ q:Nat,q<=l.length/\z=.int .i64 q/\Below w.heap.size w wr/\Hid (∀ k,k<q->zjV n l k=0)) (λz _=>l.length - (intOf z).toNat)
 case atStart=>exact⟨0,Nat.zero_le _,rfl,Below.refl _ _,λk hk=>absurd hk (Nat.not_lt_zero _)⟩
 case round =>
  obtain⟨q,hq,rfl,hB,HZ⟩:=hrel;have HBL:Hid (Below w.heap.size w wr):=hB;by_cases hql:q<l.length
  ·obtain⟨c0,c1,c2,c3,c4,c5,c6,c7,c8,c9⟩:=((HC.out q hql).below hB hb).ten;have HQ:Hid (zjV n l q=clE n (l.take q) l[q]):=zkv n l q hql;obtain⟨hsl,hEs⟩:=zb0 (P:=Tryz.prog) (HE.out.later hB) q (by omega) 49 85 Tryz.underlying49 Tryz.sizeClause
   have HEs:Hid (Es zci wr (.slice (some ⟨b,off,none⟩) q cap) (l.take q)):=hEs;generalize l[q]=c at *;obtain⟨wA,hwA⟩:∃ W,W=wr.alloc (.cells #[.int .i64 c.k,.int .i64 c.tf,.int .i64 c.tt,.int .i64 c.hf,.int .i64 c.ht,.int .i64 c.fi,.int .i64 c.t0,.int .i64 c.t1,.int .i64 c.t2,.bool c.t3] 85):=⟨_,rfl⟩;have HWA:Hid (wA=_):=hwA;have hbA:Below wr.heap.size wr wA:=by rw[hwA];exact zac _ _ _
   have HBA:Hid (Below wr.heap.size wr wA):=hbA;have hAA:At wA wr.heap.size (clC c).toArray 85:=by rw[hwA];exact At.made wr (clC c).toArray _
   have HAA:Hid (At wA wr.heap.size (clC c).toArray 85):=hAA;obtain⟨a0,a1,a2,a3,a4,a5,a6,a7,a8,a9⟩:=hAA.ten;have HSp:Hid (Calls Tryz.prog 219 #[.agg #[.int .i64 c.k,.int .i64 c.tf,.int .i64 c.tt,.int .i64 c.hf,.int .i64 c.ht,.int .i64 c.fi,.int .i64 c.t0,.int .i64 c.t1,.int .i64 c.t2,.bool c.t3]] wA λe w'=>∃ v,e=.returned v/\OwnE spE w' wA.heap.size 199 v (zaj c)/\Below wA.heap.size wA w'):=zfd c wA
   clear hB hEs hwA hbA hAA;go_wp2_with (rw[<- HWA.out])
   refine Calls.mono HSp.out ?_;rintro e w1 ⟨v1,rfl,ho1,hb1⟩;obtain⟨a',cv,hv1,_,_⟩:=ho1.shape;subst hv1;obtain⟨w2,hw2⟩:∃ W,W=w1.alloc (.cells #[.slice a' (zaj c).length cv] 184):=⟨_,rfl⟩;have HW2:Hid (w2=_):=hw2;have hb2:Below w1.heap.size w1 w2:=by rw[hw2];exact zac _ _ _
   have hA2:At w2 w1.heap.size #[.slice a' (zaj c).length cv] 184:=by rw[hw2];exact At.made w1 _ _
   have HB2:Hid (Below wr.heap.size wr w2):=zaa (zaa HBA.out hb1) hb2;have HT2:Hid (∀ W,Below w2.heap.size w2 W->Ten W wr.heap.size 0 c/\W.cell? ⟨w1.heap.size,0,none⟩=some (.slice a' (zaj c).length cv)):=λW hW=>⟨(HAA.out.later (zaa (zaa hb1 hb2) hW)).ten,(hA2.later hW).cell0⟩
   have HV2:Hid (Es spE w2 (.slice a' (zaj c).length cv) (zaj c)):=(ho1.es).later hb2;have HA2:Hid (At w2 w1.heap.size #[.slice a' (zaj c).length cv] 184):=hA2;have HRg:Hid (Calls Tryz.prog 222 #[.int .i64 n,.agg #[.int .i64 c.k,.int .i64 c.tf,.int .i64 c.tt,.int .i64 c.hf,.int .i64 c.ht,.int .i64 c.fi,.int .i64 c.t0,.int .i64 c.t1,.int .i64 c.t2,.bool c.t3]] w2 λe w'=>e=.returned (.bool (zgf n c))/\Below w2.heap.size w2 w'):=zhc n c w2
   obtain⟨⟨t0,t1,t2,t3,t4,t5,t6,t7,t8,t9⟩,t10⟩:=HT2.out w2 (Below.refl _ _);clear hw2 hb2 hA2 ho1 hb1 a0 a1 a2 a3 a4 a5 a6 a7 a8 a9 HSp;go_wp2_with (rw[<- HW2.out])
   refine Calls.mono HRg.out ?_;rintro e w3 ⟨rfl,hb3⟩;have HB3:Hid (Below w2.heap.size w2 w3):=hb3;obtain⟨_,u10⟩:=HT2.out w3 hb3;clear hb3 t0 t1 t2 t3 t4 t5 t6 t7 t8 t9 t10 HRg
   cases hr:zgf n c with
   | false =>
    have HX:Hid (zjV n l q=3):=by show _=_;rw[HQ.out];unfold clE;rw[if_neg (by rw[hr];decide)]
    go_wp2_with fail
    go_ret2
    exact⟨_,_,rfl,FirstR.hit hql HZ.out 3 HX.out (by decide),zaa (zaa HBL.out HB2.out) HB3.out⟩
   | true =>
    have HOv:Hid (Calls Tryz.prog 223 #[.slice a' (zaj c).length cv] w3 λe w'=>e=.returned (.bool (zfu (zaj c)))/\Below w3.heap.size w3 w'):=ziP (HV2.out.later HB3.out)
    go_wp2_with fail
    refine Calls.mono HOv.out ?_;rintro e w4 ⟨rfl,hb4⟩;have HB4:Hid (Below w2.heap.size w2 w4):=zaa HB3.out hb4;clear hb4 u10 HOv
    cases ho:zfu (zaj c) with
    | true =>
     have HX:Hid (zjV n l q=12):=by show _=_;rw[HQ.out];unfold clE;rw[if_pos hr,if_pos ho]
     go_wp2_with fail
     go_ret2
     exact⟨_,_,rfl,FirstR.hit hql HZ.out 12 HX.out (by decide),zaa (zaa HBL.out HB2.out) HB4.out⟩
    | false =>
     have HCo:Hid (Calls Tryz.prog 224 #[.slice (some ⟨b,off,none⟩) q cap,.func (.func 220) #[] #[.pointer (some ⟨w1.heap.size,0,none⟩)]] w4 λe w'=>e=.returned (.bool ((l.take q).any λx=>!zcS (zaj x) (zaj c)))/\Below w4.heap.size w4 w'):=by
      refine zdp (HEs.out.later (zaa HB2.out HB4.out)) ⟨zah Tryz.func220 (by kernel_rfl) rfl,λW hW x hx=>?_⟩
      have hA1:=HA2.out.later (zaa HB4.out hW);have:=zmH (c:=x) (w:=W) hA1.cell0 hA1.lt (HV2.out.later (zaa HB4.out hW)) (zlx c);simpa using this
     go_wp2_with fail
     refine Calls.mono HCo.out ?_;rintro e w5 ⟨rfl,hb5⟩;have HB5:Hid (Below w.heap.size w w5):=zaa (zaa (zaa HBL.out HB2.out) HB4.out) hb5;clear hb5 HCo
     cases hy:((l.take q).any λx=>!zcS (zaj x) (zaj c)) with
     | true =>
      have HX:Hid (zjV n l q=12):=by show _=_;rw[HQ.out];unfold clE;rw[if_pos hr,if_neg (by rw[ho];decide),if_pos hy]
      go_wp2_with fail
      go_ret2
      exact⟨_,_,rfl,FirstR.hit hql HZ.out 12 HX.out (by decide),HB5.out⟩
     | false =>
      have HX:Hid (zjV n l q=0):=by show _=_;rw[HQ.out];unfold clE;rw[if_pos hr,if_neg (by rw[ho];decide),if_neg (by rw[hy];decide)]
      go_wp2_with fail
      go_roundw
      case rel=>exact⟨q+1,by omega,by go_num,HB5.out,zhX HZ.out HX.out⟩
      case measure=>simp[intOf];omega
  ·have HF':Hid (∀ k,k<l.length->zjV n l k=0):=λk hk=>HZ.out k (by omega)
   go_wp2;go_ret2
   exact⟨_,_,rfl,FirstR.done HF'.out,HBL.out⟩
theorem znO {v:Value} {l:List Cl} {w:World} (n:Int) (h:Es zci w v l) :
 Calls Tryz.prog 197 #[.int .i64 n,v] w λe w'=>∃ i x,e=.returned (.tuple #[.int .i64 i,.int .i64 x])/\zfV n l i x/\Below w.heap.size w w':=by
 by_cases hne:l=[]
 ·subst hne;obtain⟨a,c,rfl,_,_⟩:=h.shape;refine (zmU n a c w).mono ?_;rintro e w' ⟨rfl,rfl⟩;exact⟨_,_,rfl,by unfold zfV;rw[if_neg (by simp)];exact FirstR.done (λk hk=>absurd hk (Nat.not_lt_zero _)),Below.refl _ _⟩
 ·by_cases h6:6<l.length
  ·obtain⟨a,c,rfl,_,_⟩:=h.shape;refine (zmN n a l.length c h6 w).mono ?_;rintro e w' ⟨rfl,rfl⟩;exact⟨_,_,rfl,by unfold zfV;rw[if_pos h6];exact⟨rfl,rfl⟩,Below.refl _ _⟩
  ·obtain⟨b,off,cap,rfl,h1,h2,hb,hc⟩:=h.parts hne;refine (znc (n:=n) h hb hc (by omega) h1 h2).mono ?_
   rintro e w' ⟨i,x,rfl,hf,hB⟩;exact⟨i,x,rfl,by unfold zfV;rw[if_neg h6];exact hf,hB⟩
theorem At.made2 (w:World) (o:Obj) (C:Array Value) (t:TypeId):At ((w.alloc o).alloc (.cells C t)) (w.heap.size+1) C t:=by
 have:=At.made (w.alloc o) C t;simpa using this
theorem zbH (c:Cl) (p:Int) (w:World) :
 Calls Tryz.prog 257 #[clV c,.int .i64 p] w λe w'=>e=.returned (.tuple #[.int .i64 (bnd c p).1,.int .i64 (bnd c p).2])/\Below w.heap.size w w':=by
 obtain⟨w0,hw0⟩:∃ W,W=w.alloc (.cells #[.int .i64 c.k,.int .i64 c.tf,.int .i64 c.tt,.int .i64 c.hf,.int .i64 c.ht,.int .i64 c.fi,.int .i64 c.t0,.int .i64 c.t1,.int .i64 c.t2,.bool c.t3] 85):=⟨_,rfl⟩;have HW0:Hid (w0=_):=hw0;have HB0:Hid (Below w.heap.size w w0):=by rw[hw0];exact zac _ _ _
 have hA:At w0 w.heap.size (clC c).toArray 85:=by rw[hw0];exact At.made w (clC c).toArray _
 obtain⟨c0,c1,c2,c3,c4,c5,c6,c7,c8,c9⟩:=hA.ten;clear hw0 hA;unfold clV;go_enter Tryz.func257,Tryz.ntmps257;by_cases h1:p=1
 ·subst h1;go_wp2_with (rw[<- HW0.out])
  go_quiet (fail)
  go_wp2_with fail
  go_ret2
  exact⟨rfl,zaa HB0.out (Below.drewN (Below.refl _ _) _)⟩
 ·have h1':(p==1)=false:=by rw[beq_eq_false_iff_ne];exact h1
  by_cases h2:p=2
  ·subst h2;go_wp2_with (rw[<- HW0.out])
   go_quiet (fail)
   go_wp2_with fail
   go_ret2
   exact⟨rfl,zaa HB0.out (Below.drewN (Below.refl _ _) _)⟩
  ·have h2':(p==2)=false:=by rw[beq_eq_false_iff_ne];exact h2
   have HR:Hid (bnd c p=if c.k=2 then (c.fi,c.hf) else (0,0)):=by show _=_;unfold bnd;rw[if_neg h1,if_neg h2]
   clear h1 h2;by_cases hk:c.k=2
   ·have hk':(c.k==2)=true:=by rw[hk];rfl
    have HR2:Hid (bnd c p=(c.fi,c.hf)):=by show _=_;rw[HR.out,if_pos hk]
    clear hk;go_wp2_with (rw[<- HW0.out])
    go_quiet (fail)
    go_wp2_with fail
    go_ret2
    exact⟨by rw[HR2.out];rfl,zaa HB0.out (Below.drewN (Below.refl _ _) _)⟩
   ·have hk':(c.k==2)=false:=by rw[beq_eq_false_iff_ne];exact hk
    have HR2:Hid (bnd c p=(0,0)):=by show _=_;rw[HR.out,if_neg hk]
    clear hk;go_wp2_with (rw[<- HW0.out])
    go_ret2
    exact⟨by rw[HR2.out];rfl,HB0.out⟩
theorem zh7 (a:Cl) (p:Int) (b:Cl) (q:Int) (w:World) :
 Calls Tryz.prog 256 #[clV a,.int .i64 p,clV b,.int .i64 q] w λe w'=>e=.returned (.bool (zap a p b q))/\Below w.heap.size w w':=by
 obtain⟨w0,hw0⟩:∃ W,W=(w.alloc (.cells #[.int .i64 a.k,.int .i64 a.tf,.int .i64 a.tt,.int .i64 a.hf,.int .i64 a.ht,.int .i64 a.fi,.int .i64 a.t0,.int .i64 a.t1,.int .i64 a.t2,.bool a.t3] 85)).alloc (.cells #[.int .i64 b.k,.int .i64 b.tf,.int .i64 b.tt,.int .i64 b.hf,.int .i64 b.ht,.int .i64 b.fi,.int .i64 b.t0,.int .i64 b.t1,.int .i64 b.t2,.bool b.t3] 85):=⟨_,rfl⟩;have HW0:Hid (w0=_):=hw0;have HB0:Hid (Below w.heap.size w w0):=by rw[hw0];exact zbN (zac _ _ _) _
 have hA:At w0 w.heap.size (clC a).toArray 85:=by rw[hw0];exact (At.made w (clC a).toArray _).next _
 have hA2:At w0 (w.heap.size+1) (clC b).toArray 85:=by
  rw[hw0];exact At.made2 w _ (clC b).toArray 85
 have HK:Hid (∀ W,Below w0.heap.size w0 W->Ten W w.heap.size 0 a/\Ten W (w.heap.size+1) 0 b):=λW hW=>⟨(hA.later hW).ten,(hA2.later hW).ten⟩
 obtain⟨⟨c0,c1,c2,c3,c4,c5,c6,c7,c8,c9⟩,_⟩:=HK.out w0 (Below.refl _ _);have HBo:Hid (∀ W,Calls Tryz.prog 257 #[.agg #[.int .i64 a.k,.int .i64 a.tf,.int .i64 a.tt,.int .i64 a.hf,.int .i64 a.ht,.int .i64 a.fi,.int .i64 a.t0,.int .i64 a.t1,.int .i64 a.t2,.bool a.t3],.int .i64 p] W λe w'=>e=.returned (.tuple #[.int .i64 (bnd a p).1,.int .i64 (bnd a p).2])/\Below W.heap.size W w'):=λW=>zbH a p W
 have HBo2:Hid (∀ W,Calls Tryz.prog 257 #[.agg #[.int .i64 b.k,.int .i64 b.tf,.int .i64 b.tt,.int .i64 b.hf,.int .i64 b.ht,.int .i64 b.fi,.int .i64 b.t0,.int .i64 b.t1,.int .i64 b.t2,.bool b.t3],.int .i64 q] W λe w'=>e=.returned (.tuple #[.int .i64 (bnd b q).1,.int .i64 (bnd b q).2])/\Below W.heap.size W w'):=λW=>zbH b q W
 have HR:Hid (zap a p b q=(decide ((bnd a p).1<(bnd b q).2)&&decide ((bnd b q).1<(bnd a p).2)&&decide ((bnd a p).1<(bnd a p).2)&&decide ((bnd b q).1<(bnd b q).2))):=rfl;clear hw0 hA hA2;unfold clV;go_enter Tryz.func256,Tryz.ntmps256;go_wp2_with (rw[<- HW0.out])
 refine (HBo.out _).mono ?_;rintro e w1 ⟨rfl,hb1⟩;clear c0 c1 c2 c3 c4 c5 c6 c7 c8 c9;obtain⟨_,⟨d0,d1,d2,d3,d4,d5,d6,d7,d8,d9⟩⟩:=HK.out w1 hb1;have HB1:Hid (Below w.heap.size w w1):=zaa HB0.out hb1;clear hb1;go_wp2_with fail
 refine (HBo2.out _).mono ?_;rintro e w2 ⟨rfl,hb2⟩;have HB2:Hid (Below w.heap.size w w2):=zaa HB1.out hb2;clear hb2 d0 d1 d2 d3 d4 d5 d6 d7 d8 d9 HBo HBo2;generalize (bnd a p).1=x at *;generalize (bnd a p).2=y at *;generalize (bnd b q).1=x' at *;generalize (bnd b q).2=y' at *;go_wp2_with fail
 all_goals go_ret
 all_goals refine⟨zab ?_,HB2.out⟩
 all_goals (rw[HR.out];simp_all;try omega)
theorem zkW (a:Cl) (p:Int) (b:Cl) (q:Int) (w:World) :
 Calls Tryz.prog 258 #[clV a,.int .i64 p,clV b,.int .i64 q] w λe w'=>e=.returned (.bool (zay a p b q))/\Below w.heap.size w w':=by
 obtain⟨w0,hw0⟩:∃ W,W=(w.alloc (.cells #[.int .i64 a.k,.int .i64 a.tf,.int .i64 a.tt,.int .i64 a.hf,.int .i64 a.ht,.int .i64 a.fi,.int .i64 a.t0,.int .i64 a.t1,.int .i64 a.t2,.bool a.t3] 85)).alloc (.cells #[.int .i64 b.k,.int .i64 b.tf,.int .i64 b.tt,.int .i64 b.hf,.int .i64 b.ht,.int .i64 b.fi,.int .i64 b.t0,.int .i64 b.t1,.int .i64 b.t2,.bool b.t3] 85):=⟨_,rfl⟩;have HW0:Hid (w0=_):=hw0;have HB0:Hid (Below w.heap.size w w0):=by rw[hw0];exact zbN (zac _ _ _) _
 have hA:At w0 w.heap.size (clC a).toArray 85:=by rw[hw0];exact (At.made w (clC a).toArray _).next _
 have hA2:At w0 (w.heap.size+1) (clC b).toArray 85:=by
  rw[hw0];exact At.made2 w _ (clC b).toArray 85
 have HK:Hid (∀ W,Below w0.heap.size w0 W->Ten W w.heap.size 0 a/\Ten W (w.heap.size+1) 0 b):=λW hW=>⟨(hA.later hW).ten,(hA2.later hW).ten⟩
 obtain⟨⟨c0,c1,c2,c3,c4,c5,c6,c7,c8,c9⟩,_⟩:=HK.out w0 (Below.refl _ _);have HBo:Hid (∀ W,Calls Tryz.prog 257 #[.agg #[.int .i64 a.k,.int .i64 a.tf,.int .i64 a.tt,.int .i64 a.hf,.int .i64 a.ht,.int .i64 a.fi,.int .i64 a.t0,.int .i64 a.t1,.int .i64 a.t2,.bool a.t3],.int .i64 p] W λe w'=>e=.returned (.tuple #[.int .i64 (bnd a p).1,.int .i64 (bnd a p).2])/\Below W.heap.size W w'):=λW=>zbH a p W
 have HBo2:Hid (∀ W,Calls Tryz.prog 257 #[.agg #[.int .i64 b.k,.int .i64 b.tf,.int .i64 b.tt,.int .i64 b.hf,.int .i64 b.ht,.int .i64 b.fi,.int .i64 b.t0,.int .i64 b.t1,.int .i64 b.t2,.bool b.t3],.int .i64 q] W λe w'=>e=.returned (.tuple #[.int .i64 (bnd b q).1,.int .i64 (bnd b q).2])/\Below W.heap.size W w'):=λW=>zbH b q W
 have HR:Hid (zay a p b q=if (bnd a p).1=0/\(bnd a p).2=0 then true else decide ((bnd b q).1<=(bnd a p).1)&&decide ((bnd a p).2<=(bnd b q).2)&&(decide ((bnd b q).1<(bnd a p).1)||decide ((bnd a p).2<(bnd b q).2))):=rfl
 clear hw0 hA hA2;unfold clV;go_enter Tryz.func258,Tryz.ntmps258;go_wp2_with (rw[<- HW0.out])
 refine (HBo.out _).mono ?_;rintro e w1 ⟨rfl,hb1⟩;clear c0 c1 c2 c3 c4 c5 c6 c7 c8 c9;obtain⟨_,⟨d0,d1,d2,d3,d4,d5,d6,d7,d8,d9⟩⟩:=HK.out w1 hb1;have HB1:Hid (Below w.heap.size w w1):=zaa HB0.out hb1;clear hb1;go_wp2_with fail
 refine (HBo2.out _).mono ?_;rintro e w2 ⟨rfl,hb2⟩;have HB2:Hid (Below w.heap.size w w2):=zaa HB1.out hb2;clear hb2 d0 d1 d2 d3 d4 d5 d6 d7 d8 d9 HBo HBo2;generalize (bnd a p).1=x at *;generalize (bnd a p).2=y at *;generalize (bnd b q).1=x' at *;generalize (bnd b q).2=y' at *;go_wp2_with fail
 all_goals go_ret
 all_goals refine⟨zab ?_,HB2.out⟩
 all_goals (rw[HR.out];simp_all;try omega)
theorem zo2 (n:Int) (c:Cl) (w:World) :
 Calls Tryz.prog 254 #[.int .i64 n,clV c] w λe w'=>e=.returned (.int .i64 (zaV n c))/\Below w.heap.size w w':=by
 obtain⟨w0,hw0⟩:∃ W,W=w.alloc (.cells #[.int .i64 c.k,.int .i64 c.tf,.int .i64 c.tt,.int .i64 c.hf,.int .i64 c.ht,.int .i64 c.fi,.int .i64 c.t0,.int .i64 c.t1,.int .i64 c.t2,.bool c.t3] 85):=⟨_,rfl⟩;have HW0:Hid (w0=_):=hw0;have HB0:Hid (Below w.heap.size w w0):=by rw[hw0];exact zac _ _ _
 have hA:At w0 w.heap.size (clC c).toArray 85:=by rw[hw0];exact At.made w (clC c).toArray _
 have HK:Hid (∀ W,Below w0.heap.size w0 W->Ten W w.heap.size 0 c):=λW hW=>(hA.later hW).ten
 have HM:Hid (∀ W p q,Calls Tryz.prog 256 #[.agg #[.int .i64 c.k,.int .i64 c.tf,.int .i64 c.tt,.int .i64 c.hf,.int .i64 c.ht,.int .i64 c.fi,.int .i64 c.t0,.int .i64 c.t1,.int .i64 c.t2,.bool c.t3],.int .i64 p,.agg #[.int .i64 c.k,.int .i64 c.tf,.int .i64 c.tt,.int .i64 c.hf,.int .i64 c.ht,.int .i64 c.fi,.int .i64 c.t0,.int .i64 c.t1,.int .i64 c.t2,.bool c.t3],.int .i64 q] W λe w'=>e=.returned (.bool (zap c p c q))/\Below W.heap.size W w'):=λW p q=>zh7 c p c q W
 obtain⟨c0,c1,c2,c3,c4,c5,c6,c7,c8,c9⟩:=hA.ten;clear hw0 hA;unfold clV;go_enter Tryz.func254,Tryz.ntmps254;by_cases hA:c.k<1∨4<c.k∨¬ (0<=c.tf/\c.tf<c.tt/\c.tt<=n)∨¬ (0<=c.hf/\c.hf<c.ht/\c.ht<=n)
 ·have HX:Hid (zaV n c=3):=by show _=_;unfold zaV;rw[if_pos hA]
  have HA:Hid (c.k<1∨4<c.k∨¬ (0<=c.tf/\c.tf<c.tt/\c.tt<=n)∨¬ (0<=c.hf/\c.hf<c.ht/\c.ht<=n)):=hA;clear hA;go_wp2_with (rw[<- HW0.out])
  all_goals first
   | (go_ret;exact⟨zak HX.out.symm,HB0.out⟩)
   | (exfalso;have:=HA.out;simp only[Bool.not_eq_true',Bool.not_eq_false',decide_eq_true_eq,decide_eq_false_iff_not]at *;omega)
 ·have HX:Hid (zaV n c=if (c.k=2/\(c.fi<0∨c.hf<=c.fi))∨(c.k≠2/\c.fi≠-1) then 3 else if (zap c 1 c 2||zap c 1 c 3||zap c 2 c 3)=true then 12 else 0):=by show _=_;unfold zaV;rw[if_neg hA]
  obtain⟨g1,g2,g3,g4,g5,g6,g7,g8⟩:1<=c.k/\c.k<=4/\0<=c.tf/\c.tf<c.tt/\c.tt<=n/\0<=c.hf/\c.hf<c.ht/\c.ht<=n:=by omega
  clear hA;by_cases hF:(c.k=2/\(c.fi<0∨c.hf<=c.fi))∨(c.k≠2/\c.fi≠-1)
  ·have HX2:Hid (zaV n c=3):=by show _=_;rw[HX.out,if_pos hF]
   have HF:Hid ((c.k=2/\(c.fi<0∨c.hf<=c.fi))∨(c.k≠2/\c.fi≠-1)):=hF;clear hF;go_wp2_with (rw[<- HW0.out])
   all_goals first
    | (go_ret;exact⟨zak HX2.out.symm,HB0.out⟩)
    | (exfalso;have:=HF.out;simp only[beq_iff_eq,beq_eq_false_iff_ne,bne_iff_ne,bne_eq_false_iff_eq,ne_eq]at *;omega)
  ·have HX2:Hid (zaV n c=if (zap c 1 c 2||zap c 1 c 3||zap c 2 c 3)=true then 12 else 0):=by show _=_;rw[HX.out,if_neg hF]
   have HP:Hid (c.k=2/\0<=c.fi/\c.fi<c.hf∨(c.k==2)=false/\c.fi = -1):=by
    show _∨_;rw[beq_eq_false_iff_ne];omega
   clear hF;have fin:Hid (∀ W a b d,Below w0.heap.size w0 W->a=zap c 1 c 2->b=zap c 1 c 3->d=zap c 2 c 3->Ending.returned (.int .i64 (if (a||b||d)=true then 12 else 0))=Ending.returned (.int .i64 (zaV n c))/\Below w.heap.size w W):=λW a b d hW ha hb hd=>⟨by rw[HX2.out,ha,hb,hd],zaa HB0.out hW⟩
   obtain⟨hk,h5,h6⟩ | ⟨hk,h5⟩:=HP.out
   ·obtain⟨k,tf,tt,hf,ht,fi,t0,t1,t2,t3⟩:=c;simp only at *;subst hk;go_wp2_with (rw[<- HW0.out])
    refine (HM.out _ _ _).mono ?_;rintro e w1 ⟨rfl,hb1⟩;have HB1:Hid (Below w0.heap.size w0 w1):=zaa (Below.refl _ _) hb1;clear hb1 c0 c1 c2 c3 c4 c5 c6 c7 c8 c9;obtain⟨c0,c1,c2,c3,c4,c5,c6,c7,c8,c9⟩:=HK.out w1 HB1.out
    cases m1:zap ⟨2,tf,tt,hf,ht,fi,t0,t1,t2,t3⟩ 1 ⟨2,tf,tt,hf,ht,fi,t0,t1,t2,t3⟩ 2 with
    | true =>
     go_wp2_with fail
     go_ret;have:=fin.out w1 true _ _ HB1.out m1.symm rfl rfl;simpa using this
    | false =>
     go_wp2_with fail
     refine (HM.out _ _ _).mono ?_;rintro e w2 ⟨rfl,hb2⟩;have HB2:Hid (Below w0.heap.size w0 w2):=zaa HB1.out hb2;clear hb2 c0 c1 c2 c3 c4 c5 c6 c7 c8 c9;obtain⟨c0,c1,c2,c3,c4,c5,c6,c7,c8,c9⟩:=HK.out w2 HB2.out
     cases m2:zap ⟨2,tf,tt,hf,ht,fi,t0,t1,t2,t3⟩ 1 ⟨2,tf,tt,hf,ht,fi,t0,t1,t2,t3⟩ 3 with
     | true =>
      go_wp2_with fail
      go_ret;have:=fin.out w2 false true _ HB2.out m1.symm m2.symm rfl;simpa using this
     | false =>
      go_wp2_with fail
      refine (HM.out _ _ _).mono ?_;rintro e w3 ⟨rfl,hb3⟩;have HB3:Hid (Below w0.heap.size w0 w3):=zaa HB2.out hb3;clear hb3 c0 c1 c2 c3 c4 c5 c6 c7 c8 c9;obtain⟨c0,c1,c2,c3,c4,c5,c6,c7,c8,c9⟩:=HK.out w3 HB3.out
      cases m3:zap ⟨2,tf,tt,hf,ht,fi,t0,t1,t2,t3⟩ 2 ⟨2,tf,tt,hf,ht,fi,t0,t1,t2,t3⟩ 3 with
      | true =>
       go_wp2_with fail
       go_ret;have:=fin.out w3 false false true HB3.out m1.symm m2.symm m3.symm;simpa using this
      | false =>
       go_wp2_with fail
       go_ret;have:=fin.out w3 false false false HB3.out m1.symm m2.symm m3.symm;simpa using this
   ·have n1:¬ c.k<1:=by omega
    have n2:¬ 4<c.k:=by omega
    obtain⟨k,tf,tt,hf,ht,fi,t0,t1,t2,t3⟩:=c;simp only at *;have n3:¬ k=2:=by rw[beq_eq_false_iff_ne]at hk;exact hk
    subst h5;go_wp2_with (rw[<- HW0.out])
    refine (HM.out _ _ _).mono ?_;rintro e w1 ⟨rfl,hb1⟩;have HB1:Hid (Below w0.heap.size w0 w1):=zaa (Below.refl _ _) hb1;clear hb1 c0 c1 c2 c3 c4 c5 c6 c7 c8 c9;obtain⟨c0,c1,c2,c3,c4,c5,c6,c7,c8,c9⟩:=HK.out w1 HB1.out
    cases m1:zap ⟨k,tf,tt,hf,ht, -1,t0,t1,t2,t3⟩ 1 ⟨k,tf,tt,hf,ht, -1,t0,t1,t2,t3⟩ 2 with
    | true =>
     go_wp2_with fail
     go_ret;have:=fin.out w1 true _ _ HB1.out m1.symm rfl rfl;simpa using this
    | false =>
     go_wp2_with fail
     refine (HM.out _ _ _).mono ?_;rintro e w2 ⟨rfl,hb2⟩;have HB2:Hid (Below w0.heap.size w0 w2):=zaa HB1.out hb2;clear hb2 c0 c1 c2 c3 c4 c5 c6 c7 c8 c9;obtain⟨c0,c1,c2,c3,c4,c5,c6,c7,c8,c9⟩:=HK.out w2 HB2.out
     cases m2:zap ⟨k,tf,tt,hf,ht, -1,t0,t1,t2,t3⟩ 1 ⟨k,tf,tt,hf,ht, -1,t0,t1,t2,t3⟩ 3 with
     | true =>
      go_wp2_with fail
      go_ret;have:=fin.out w2 false true _ HB2.out m1.symm m2.symm rfl;simpa using this
     | false =>
      go_wp2_with fail
      refine (HM.out _ _ _).mono ?_;rintro e w3 ⟨rfl,hb3⟩;have HB3:Hid (Below w0.heap.size w0 w3):=zaa HB2.out hb3;clear hb3 c0 c1 c2 c3 c4 c5 c6 c7 c8 c9;obtain⟨c0,c1,c2,c3,c4,c5,c6,c7,c8,c9⟩:=HK.out w3 HB3.out
      cases m3:zap ⟨k,tf,tt,hf,ht, -1,t0,t1,t2,t3⟩ 2 ⟨k,tf,tt,hf,ht, -1,t0,t1,t2,t3⟩ 3 with
      | true =>
       go_wp2_with fail
       go_ret;have:=fin.out w3 false false true HB3.out m1.symm m2.symm m3.symm;simpa using this
      | false =>
       go_wp2_with fail
       go_ret;have:=fin.out w3 false false false HB3.out m1.symm m2.symm m3.symm;simpa using this
end Go.Proofs.YtkedhjdipnhgdaaGreat
