import Derived.Test.YtkedhjdipnhgdaaGreatR35
namespace Go.Proofs.YtkedhjdipnhgdaaGreat
set_option maxHeartbeats 16000000
set_option linter.all false
open RowKit
attribute [local go_sem ↓] wp_at_zero wp_at_succ
abbrev Mt (W:World) (b:Nat) (x:MD):Prop:=W.cell? ⟨b,0,none⟩=some (.string x.nm)/\W.cell? ⟨b,1,none⟩=some (.int .i64 x.ow)/\W.cell? ⟨b,2,none⟩=some (.int .i64 x.fl)/\W.cell? ⟨b,3,none⟩=some (.slice x.pa x.ps.length x.pc) /\
 W.cell? ⟨b,4,none⟩=some (.int .i64 x.rt.1)/\W.cell? ⟨b,5,none⟩=some (.int .i64 x.rt.2.1)/\W.cell? ⟨b,6,none⟩=some (.int .i64 x.rt.2.2.1)/\W.cell? ⟨b,7,none⟩=some (.bool x.rt.2.2.2)/\W.cell? ⟨b,8,none⟩=some (.slice x.la x.ls.length x.lc)/\W.cell? ⟨b,9,none⟩=some (.int .i64 x.mx) /\
 W.cell? ⟨b,10,none⟩=some (.slice x.ca x.co.length x.cc)/\W.cell? ⟨b,11,none⟩=some (.slice x.ka x.cl.length x.kc)
def zcN (x:MD):Array Value:=#[.string x.nm,.int .i64 x.ow,.int .i64 x.fl,.slice x.pa x.ps.length x.pc,.int .i64 x.rt.1,.int .i64 x.rt.2.1,.int .i64 x.rt.2.2.1,.bool x.rt.2.2.2,.slice x.la x.ls.length x.lc,.int .i64 x.mx,.slice x.ca x.co.length x.cc,.slice x.ka x.cl.length x.kc]
theorem Mt.of {W:World} {b:Nat} {x:MD} (h:At W b (zcN x) 51):Mt W b x:=
 ⟨h.cell 0,h.cell 1,h.cell 2,h.cell 3,h.cell 4,h.cell 5,h.cell 6,h.cell 7,h.cell 8,h.cell 9,h.cell 10,h.cell 11⟩
theorem zcF (w:World) (x:MD):∃ w0,Hid (w0=w.alloc (.cells #[.string x.nm,.int .i64 x.ow,.int .i64 x.fl,.slice x.pa x.ps.length x.pc,.int .i64 x.rt.1,.int .i64 x.rt.2.1,.int .i64 x.rt.2.2.1,.bool x.rt.2.2.2,.slice x.la x.ls.length x.lc,.int .i64 x.mx,.slice x.ca x.co.length x.cc,.slice x.ka x.cl.length x.kc] 51)) /\
 Hid (Below w.heap.size w w0)/\Hid (∀ W,Below w0.heap.size w0 W->Mt W w.heap.size x)/\Mt w0 w.heap.size x:=by
 obtain⟨w0,hw0⟩:∃ W,W=w.alloc (.cells (zcN x) 51):=⟨_,rfl⟩;have hat:At w0 w.heap.size (zcN x) 51:=by rw[hw0];exact At.made _ _ _
 exact⟨w0,hw0,by rw[hw0];exact zac _ _ _,λW hW=>Mt.of (hat.later hW),Mt.of hat⟩
theorem zvj:∀ f:Fin 32,((bits .and .i64 (f.val:Int) 1 != 0)=zaf (f.val:Int) 1)/\((bits .and .i64 (f.val:Int) 2 != 0)=zaf (f.val:Int) 2)/\((bits .and .i64 (f.val:Int) 4 != 0)=zaf (f.val:Int) 4)/\((bits .and .i64 (f.val:Int) 8 != 0)=zaf (f.val:Int) 8)/\((bits .and .i64 (f.val:Int) 16 != 0)=zaf (f.val:Int) 16)/\((bits .and .i64 (f.val:Int) 12 != 0)=(zaf (f.val:Int) 4||zaf (f.val:Int) 8)):=by decide +kernel
theorem zig {f:Int} (h:0<=f/\f<=31):((bits .and .i64 f 1 != 0)=zaf f 1)/\((bits .and .i64 f 2 != 0)=zaf f 2)/\((bits .and .i64 f 4 != 0)=zaf f 4)/\((bits .and .i64 f 8 != 0)=zaf f 8)/\((bits .and .i64 f 16 != 0)=zaf f 16)/\((bits .and .i64 f 12 != 0)=(zaf f 4||zaf f 8)):=by
 have:=zvj ⟨f.toNat,by omega⟩
 rwa [show ((f.toNat:Nat):Int)=f by omega]at this
theorem zbb (x:MD) (n:Int) (w:World):Ans 42 #[mdV x,.int .i64 n] w (.bool (bits .and .i64 x.fl n != 0)):=by
 obtain⟨w0,HW0,HB0,HC,c0,c1,c2,c3,c4,c5,c6,c7,c8,c9,c10,c11⟩:=zcF w x;unfold mdV;go_enter Tryz.func42,Tryz.ntmps42;go_wp2_with (rw[<- HW0.out])
 go_ret;exact⟨rfl,HB0.out⟩
theorem zaZ (x:MD) (hx:0<=x.fl/\x.fl<=31) (w:World):Ans 42 #[mdV x,.int .i64 1] w (.bool (zaf x.fl 1))/\Ans 42 #[mdV x,.int .i64 2] w (.bool (zaf x.fl 2))/\Ans 42 #[mdV x,.int .i64 4] w (.bool (zaf x.fl 4)) /\
 Ans 42 #[mdV x,.int .i64 8] w (.bool (zaf x.fl 8))/\Ans 42 #[mdV x,.int .i64 16] w (.bool (zaf x.fl 16))/\Ans 42 #[mdV x,.int .i64 12] w (.bool (zaf x.fl 4||zaf x.fl 8)):=by
 obtain⟨h1,h2,h3,h4,h5,h6⟩:=zig hx;refine⟨?_, ?_, ?_, ?_, ?_, ?_⟩
 ·rw[<- h1];exact zbb x 1 w
 ·rw[<- h2];exact zbb x 2 w
 ·rw[<- h3];exact zbb x 4 w
 ·rw[<- h4];exact zbb x 8 w
 ·rw[<- h5];exact zbb x 16 w
 ·rw[<- h6];exact zbb x 12 w
theorem zsW (a b:Int):((bits .and .i64 a 1 != 0)==(bits .and .i64 b 1 != 0))=(a % 2==b % 2):=by
 rw[ze6,ze6];have h1:=Int.emod_two_eq a;have h2:=Int.emod_two_eq b
 rcases h1 with h1 | h1 <;> rcases h2 with h2 | h2 <;> rw[h1,h2] <;> rfl
abbrev zqK:Oper:=⟨some 5,.fieldAddr 51 (.tmp 2) 0,0,"slots.go:49",#[],none⟩
abbrev zqT:Oper:=⟨some 6,.load 9 (.tmp 5),9,"slots.go:49",#[⟨0,.data⟩],none⟩
abbrev zqz:Oper:=⟨some 7,.fieldAddr 51 (.tmp 3) 0,0,"slots.go:49",#[],none⟩
abbrev zqQ:Oper:=⟨some 8,.load 9 (.tmp 7),9,"slots.go:49",#[⟨2,.data⟩],none⟩
abbrev zq0:Oper:=⟨some 9,.binOp .eql 9 (.tmp 6) (.tmp 8) 9,4,"slots.go:49",#[⟨1,.data⟩,⟨3,.data⟩],none⟩
abbrev zqs:Oper:=⟨some 10,.move (.tmp 9),4,"slots.go:49",#[⟨4,.data⟩],none⟩
abbrev zp8:Oper:=⟨some 11,.fieldAddr 51 (.tmp 2) 3,0,"slots.go:49",#[⟨5,.guard⟩],some (5,true)⟩
abbrev zqn:Oper:=⟨some 12,.load 45 (.tmp 11),45,"slots.go:49",#[⟨6,.data⟩,⟨5,.guard⟩],some (5,true)⟩
abbrev zqc:Oper:=⟨some 13,.fieldAddr 51 (.tmp 3) 3,0,"slots.go:49",#[⟨5,.guard⟩],some (5,true)⟩
abbrev zq5:Oper:=⟨some 14,.load 45 (.tmp 13),45,"slots.go:49",#[⟨8,.data⟩,⟨5,.guard⟩],some (5,true)⟩
abbrev zlA:Oper:=⟨some 15,.call ⟨.value (.func 85),#[.tmp 12,.tmp 14],#[45,45]⟩,4,"slots.go:49",#[⟨7,.data⟩,⟨9,.data⟩,⟨5,.chain⟩,⟨5,.guard⟩],some (5,true)⟩
abbrev zlt:Oper:=⟨some 16,.pick (.tmp 10) (.tmp 15) (.const (.bool false)),4,"slots.go:49",#[⟨5,.data⟩,⟨10,.data⟩],none⟩
abbrev zlj:Oper:=⟨some 17,.move (.tmp 16),4,"slots.go:49",#[⟨11,.data⟩,⟨10,.chain⟩],none⟩
abbrev zlO:Oper:=⟨some 18,.fieldAddr 51 (.tmp 2) 4,0,"slots.go:49",#[⟨12,.guard⟩],some (12,true)⟩
abbrev zmr:Oper:=⟨some 19,.load 47 (.tmp 18),47,"slots.go:49",#[⟨13,.data⟩,⟨12,.guard⟩],some (12,true)⟩
abbrev zme:Oper:=⟨some 20,.fieldAddr 51 (.tmp 3) 4,0,"slots.go:49",#[⟨12,.guard⟩],some (12,true)⟩
abbrev zlV:Oper:=⟨some 21,.load 47 (.tmp 20),47,"slots.go:49",#[⟨15,.data⟩,⟨12,.guard⟩],some (12,true)⟩
abbrev zlX:Oper:=⟨some 22,.binOp .eql 47 (.tmp 19) (.tmp 21) 47,4,"slots.go:49",#[⟨14,.data⟩,⟨16,.data⟩,⟨12,.guard⟩],some (12,true)⟩
abbrev zl7:Oper:=⟨some 23,.pick (.tmp 17) (.tmp 22) (.const (.bool false)),4,"slots.go:49",#[⟨12,.data⟩,⟨17,.data⟩],none⟩
abbrev zmh:Oper:=⟨some 24,.move (.tmp 23),4,"slots.go:49",#[⟨18,.data⟩,⟨12,.chain⟩],none⟩
abbrev zli:Oper:=⟨some 25,.load 51 (.tmp 2),51,"slots.go:49",#[⟨19,.guard⟩],some (19,true)⟩
abbrev zlN:Oper:=⟨some 26,.call ⟨.value (.func 42),#[.tmp 25,.const (.int .i64 1)],#[51,3]⟩,4,"slots.go:49",#[⟨20,.data⟩,⟨19,.chain⟩,⟨19,.guard⟩],some (19,true)⟩
abbrev zlQ:Oper:=⟨some 27,.load 51 (.tmp 3),51,"slots.go:49",#[⟨19,.guard⟩],some (19,true)⟩
abbrev zl9:Oper:=⟨some 28,.call ⟨.value (.func 42),#[.tmp 27,.const (.int .i64 1)],#[51,3]⟩,4,"slots.go:49",#[⟨22,.data⟩,⟨21,.chain⟩,⟨19,.guard⟩],some (19,true)⟩
abbrev zl3:Oper:=⟨some 29,.binOp .eql 4 (.tmp 26) (.tmp 28) 4,4,"slots.go:49",#[⟨21,.data⟩,⟨23,.data⟩,⟨19,.guard⟩],some (19,true)⟩
abbrev zmu:Oper:=⟨some 30,.pick (.tmp 24) (.tmp 29) (.const (.bool false)),4,"slots.go:49",#[⟨19,.data⟩,⟨24,.data⟩],none⟩
abbrev zma:Oper:=⟨some 4,.assign (.tmp 30),4,"slots.go:49",#[⟨25,.data⟩,⟨23,.chain⟩,⟨0,.phase⟩,⟨1,.phase⟩,⟨2,.phase⟩,⟨3,.phase⟩,⟨4,.phase⟩,⟨5,.phase⟩,⟨6,.phase⟩,⟨7,.phase⟩,⟨8,.phase⟩,⟨9,.phase⟩,⟨10,.phase⟩,⟨11,.phase⟩,⟨12,.phase⟩,⟨13,.phase⟩,⟨14,.phase⟩,⟨15,.phase⟩,⟨16,.phase⟩,⟨17,.phase⟩,⟨18,.phase⟩,⟨19,.phase⟩,⟨20,.phase⟩,⟨21,.phase⟩,⟨22,.phase⟩,⟨23,.phase⟩,⟨24,.phase⟩,⟨25,.phase⟩],none⟩
set_option maxRecDepth 20000 in
theorem zeZ {x y:MD} {w:World} (hx:x.ok w) (hy:y.ok w):Ans 62 #[mdV x,mdV y] w (.bool (smM x y)):=by
 obtain⟨w0,hw0⟩:∃ W,W=(w.alloc (.cells (zcN x) 51)).alloc (.cells (zcN y) 51):=⟨_,rfl⟩;have HW0:Hid (w0=_):=hw0;obtain⟨hb0,hat⟩:=zan hw0;have HB0:Hid (Below w.heap.size w w0):=hb0;have HAT:Hid (∀ W,Below w0.heap.size w0 W->Mt W w.heap.size x/\Mt W (w.heap.size+1) y):=λW hW=>⟨Mt.of (hat W hW).1,Mt.of (hat W hW).2⟩
 have HST:Hid (∀ W,Below w0.heap.size w0 W->Ans 85 #[.slice x.pa x.ps.length x.pc,.slice y.pa y.ps.length y.pc] W (.bool (decide (x.ps=y.ps)))):=λW hW=>by
  refine (zd6 ((hx.ps.later hb0).later hW) ((hy.ps.later hb0).later hW)).mono ?_;rintro e w' ⟨rfl,n,rfl⟩;exact⟨rfl,Below.drewN (Below.refl _ _) n⟩
 have HH1:Hid (∀ W,Ans 42 #[mdV x,.int .i64 1] W (.bool (bits .and .i64 x.fl 1 != 0))):=λW=>zbb x 1 W
 have HH2:Hid (∀ W,Ans 42 #[mdV y,.int .i64 1] W (.bool (bits .and .i64 y.fl 1 != 0))):=λW=>zbb y 1 W
 have hq:∀ W:World,(binOp .eql 47 (.agg #[.int .i64 x.rt.1,.int .i64 x.rt.2.1,.int .i64 x.rt.2.2.1,.bool x.rt.2.2.2]) (.agg #[.int .i64 y.rt.1,.int .i64 y.rt.2.1,.int .i64 y.rt.2.2.1,.bool y.rt.2.2.2])).run Tryz.prog W=.ok (.bool (decide (x.rt=y.rt))) W:=λW=>zf1 W _ _
 have hs:=zcu x.nm y.nm;have HR:Hid (smM x y=(decide (x.nm=y.nm)&&(decide (x.ps=y.ps)&&(decide (x.rt=y.rt)&&((bits .and .i64 x.fl 1 != 0)==(bits .and .i64 y.fl 1 != 0)))))):=by
  show _=_;rw[zsW];unfold smM;rw[Bool.eq_iff_iff];simp
 unfold zcN at HW0;unfold mdV at HH1 HH2;clear hw0 hb0 hat hx hy;generalize smM x y=F at *;generalize decide (x.nm=y.nm)=r0 at *;generalize decide (x.rt=y.rt)=r1 at *;generalize decide (x.ps=y.ps)=r3 at *;generalize (bits .and .i64 x.fl 1 != 0)=s1 at *;generalize (bits .and .i64 y.fl 1 != 0)=s2 at *;unfold mdV;go_enter Tryz.func62,Tryz.ntmps62;go_wp2_with (rw[<- HW0.out])
 cases r0 with
 | false =>
  have HR2:Hid (F=false):=by show _=_;rw[HR.out];rfl
  refine wp_region_held_drew (S:=(λW=>Mt W w.heap.size x/\Mt W (w.heap.size+1) y)) (by kernel_rfl) (HAT.out _ (zad _)) (λyb=>?_)
  refine tY 0 zqK (.pointer (some ⟨w.heap.size,0,none⟩)) yb ?_;refine tY 1 zqT (.string x.nm) yb ?_;refine tY 2 zqz (.pointer (some ⟨w.heap.size+1,0,none⟩)) yb ?_;refine tY 3 zqQ (.string y.nm) yb ?_;refine tY 4 zq0 (.bool false) yb ?_;refine tY 5 zqs (.bool false) yb ?_;refine tN 6 zp8 yb ?_;refine tN 7 zqn yb ?_;refine tN 8 zqc yb ?_;refine tN 9 zq5 yb ?_;refine tN 10 zlA yb ?_;refine tY 11 zlt (.bool false) yb ?_;refine tY 12 zlj (.bool false) yb ?_;refine tN 13 zlO yb ?_;refine tN 14 zmr yb ?_;refine tN 15 zme yb ?_;refine tN 16 zlV yb ?_;refine tN 17 zlX yb ?_;refine tY 18 zl7 (.bool false) yb ?_;refine tY 19 zmh (.bool false) yb ?_;refine tN 20 zli yb ?_;refine tN 21 zlN yb ?_;refine tN 22 zlQ yb ?_;refine tN 23 zl9 yb ?_;refine tN 24 zl3 yb ?_;refine tY 25 zmu (.bool false) yb ?_;refine tY 26 zma (.bool false) yb ?_;refine wpAnyH_done (by kernel_rfl) ?_ _
  go_wp2_with fail
  go_ret;exact⟨zab HR2.out.symm,Below.drew HB0.out⟩
 | true =>
  cases r3 with
  | false =>
   have HR2:Hid (F=false):=by show _=_;rw[HR.out];rfl
   refine wp_region_held_drew (S:=(λW=>Mt W w.heap.size x/\Mt W (w.heap.size+1) y)) (by kernel_rfl) (HAT.out _ (zad _)) (λyb=>?_)
   refine tY 0 zqK (.pointer (some ⟨w.heap.size,0,none⟩)) yb ?_;refine tY 1 zqT (.string x.nm) yb ?_;refine tY 2 zqz (.pointer (some ⟨w.heap.size+1,0,none⟩)) yb ?_;refine tY 3 zqQ (.string y.nm) yb ?_;refine tY 4 zq0 (.bool true) yb ?_;refine tY 5 zqs (.bool true) yb ?_;refine tY 6 zp8 (.pointer (some ⟨w.heap.size,3,none⟩)) yb ?_;refine tY 7 zqn (.slice x.pa x.ps.length x.pc) yb ?_;refine tY 8 zqc (.pointer (some ⟨w.heap.size+1,3,none⟩)) yb ?_;refine tY 9 zq5 (.slice y.pa y.ps.length y.pc) yb ?_;refine wpAnyH_ready (rs:=[10]) (by kernel_rfl) (by simp) ?_
   refine AllReadyH.cons (o:=zlA) rfl (λK hK=>?_) AllReadyH.nil
   go_simp
   refine (HST.out _ (zad _)).mono ?_;rintro e w1 ⟨rfl,hb1⟩;have hB1:Below w0.heap.size w0 w1:=zaa (zad _) hb1
   try go_wp2_with fail
   refine hK.out _ _ (HAT.out _ hB1) (λyb=>?_)
   clear hK K
   try simp only[Act.put,sA,s0,sS]
   refine tY 11 zlt (.bool false) yb ?_;refine tY 12 zlj (.bool false) yb ?_;refine tN 13 zlO yb ?_;refine tN 14 zmr yb ?_;refine tN 15 zme yb ?_;refine tN 16 zlV yb ?_;refine tN 17 zlX yb ?_;refine tY 18 zl7 (.bool false) yb ?_;refine tY 19 zmh (.bool false) yb ?_;refine tN 20 zli yb ?_;refine tN 21 zlN yb ?_;refine tN 22 zlQ yb ?_;refine tN 23 zl9 yb ?_;refine tN 24 zl3 yb ?_;refine tY 25 zmu (.bool false) yb ?_;refine tY 26 zma (.bool false) yb ?_;refine wpAnyH_done (by kernel_rfl) ?_ _
   have HB1:Hid (Below w0.heap.size w0 w1):=hB1;clear hb1 hB1;go_wp2_with fail
   go_ret;exact⟨zab HR2.out.symm,zaa HB0.out HB1.out⟩
  | true =>
   cases r1 with
   | false =>
    have HR2:Hid (F=false):=by show _=_;rw[HR.out];rfl
    refine wp_region_held_drew (S:=(λW=>Mt W w.heap.size x/\Mt W (w.heap.size+1) y)) (by kernel_rfl) (HAT.out _ (zad _)) (λyb=>?_)
    refine tY 0 zqK (.pointer (some ⟨w.heap.size,0,none⟩)) yb ?_;refine tY 1 zqT (.string x.nm) yb ?_;refine tY 2 zqz (.pointer (some ⟨w.heap.size+1,0,none⟩)) yb ?_;refine tY 3 zqQ (.string y.nm) yb ?_;refine tY 4 zq0 (.bool true) yb ?_;refine tY 5 zqs (.bool true) yb ?_;refine tY 6 zp8 (.pointer (some ⟨w.heap.size,3,none⟩)) yb ?_;refine tY 7 zqn (.slice x.pa x.ps.length x.pc) yb ?_;refine tY 8 zqc (.pointer (some ⟨w.heap.size+1,3,none⟩)) yb ?_;refine tY 9 zq5 (.slice y.pa y.ps.length y.pc) yb ?_;refine wpAnyH_ready (rs:=[10]) (by kernel_rfl) (by simp) ?_
    refine AllReadyH.cons (o:=zlA) rfl (λK hK=>?_) AllReadyH.nil
    go_simp
    refine (HST.out _ (zad _)).mono ?_;rintro e w1 ⟨rfl,hb1⟩;have hB1:Below w0.heap.size w0 w1:=zaa (zad _) hb1
    try go_wp2_with fail
    refine hK.out _ _ (HAT.out _ hB1) (λyb=>?_)
    clear hK K
    try simp only[Act.put,sA,s0,sS]
    refine tY 11 zlt (.bool true) yb ?_;refine tY 12 zlj (.bool true) yb ?_;refine tY 13 zlO (.pointer (some ⟨w.heap.size,4,none⟩)) yb ?_;refine tY 14 zmr (.agg #[.int .i64 x.rt.1,.int .i64 x.rt.2.1,.int .i64 x.rt.2.2.1,.bool x.rt.2.2.2]) yb ?_;refine tY 15 zme (.pointer (some ⟨w.heap.size+1,4,none⟩)) yb ?_;refine tY 16 zlV (.agg #[.int .i64 y.rt.1,.int .i64 y.rt.2.1,.int .i64 y.rt.2.2.1,.bool y.rt.2.2.2]) yb ?_;refine tY 17 zlX (.bool false) yb ?_;refine tY 18 zl7 (.bool false) yb ?_;refine tY 19 zmh (.bool false) yb ?_;refine tN 20 zli yb ?_;refine tN 21 zlN yb ?_;refine tN 22 zlQ yb ?_;refine tN 23 zl9 yb ?_;refine tN 24 zl3 yb ?_;refine tY 25 zmu (.bool false) yb ?_;refine tY 26 zma (.bool false) yb ?_;refine wpAnyH_done (by kernel_rfl) ?_ _
    have HB1:Hid (Below w0.heap.size w0 w1):=hB1;clear hb1 hB1;go_wp2_with fail
    go_ret;exact⟨zab HR2.out.symm,zaa HB0.out HB1.out⟩
   | true =>
    have HR2:Hid (F=(s1==s2)):=by show _=_;rw[HR.out];rfl
    refine wp_region_held_drew (S:=(λW=>Mt W w.heap.size x/\Mt W (w.heap.size+1) y)) (by kernel_rfl) (HAT.out _ (zad _)) (λyb=>?_)
    refine tY 0 zqK (.pointer (some ⟨w.heap.size,0,none⟩)) yb ?_;refine tY 1 zqT (.string x.nm) yb ?_;refine tY 2 zqz (.pointer (some ⟨w.heap.size+1,0,none⟩)) yb ?_;refine tY 3 zqQ (.string y.nm) yb ?_;refine tY 4 zq0 (.bool true) yb ?_;refine tY 5 zqs (.bool true) yb ?_;refine tY 6 zp8 (.pointer (some ⟨w.heap.size,3,none⟩)) yb ?_;refine tY 7 zqn (.slice x.pa x.ps.length x.pc) yb ?_;refine tY 8 zqc (.pointer (some ⟨w.heap.size+1,3,none⟩)) yb ?_;refine tY 9 zq5 (.slice y.pa y.ps.length y.pc) yb ?_;refine wpAnyH_ready (rs:=[10]) (by kernel_rfl) (by simp) ?_
    refine AllReadyH.cons (o:=zlA) rfl (λK hK=>?_) AllReadyH.nil
    go_simp
    refine (HST.out _ (zad _)).mono ?_;rintro e w1 ⟨rfl,hb1⟩;have hB1:Below w0.heap.size w0 w1:=zaa (zad _) hb1
    try go_wp2_with fail
    refine hK.out _ _ (HAT.out _ hB1) (λyb=>?_)
    clear hK K
    try simp only[Act.put,sA,s0,sS]
    refine tY 11 zlt (.bool true) yb ?_;refine tY 12 zlj (.bool true) yb ?_;refine tY 13 zlO (.pointer (some ⟨w.heap.size,4,none⟩)) yb ?_;refine tY 14 zmr (.agg #[.int .i64 x.rt.1,.int .i64 x.rt.2.1,.int .i64 x.rt.2.2.1,.bool x.rt.2.2.2]) yb ?_;refine tY 15 zme (.pointer (some ⟨w.heap.size+1,4,none⟩)) yb ?_;refine tY 16 zlV (.agg #[.int .i64 y.rt.1,.int .i64 y.rt.2.1,.int .i64 y.rt.2.2.1,.bool y.rt.2.2.2]) yb ?_;refine tY 17 zlX (.bool true) yb ?_;refine tY 18 zl7 (.bool true) yb ?_;refine tY 19 zmh (.bool true) yb ?_;refine tY 20 zli (.agg #[.string x.nm,.int .i64 x.ow,.int .i64 x.fl,.slice x.pa x.ps.length x.pc,.int .i64 x.rt.1,.int .i64 x.rt.2.1,.int .i64 x.rt.2.2.1,.bool x.rt.2.2.2,.slice x.la x.ls.length x.lc,.int .i64 x.mx,.slice x.ca x.co.length x.cc,.slice x.ka x.cl.length x.kc]) yb ?_;refine tY 22 zlQ (.agg #[.string y.nm,.int .i64 y.ow,.int .i64 y.fl,.slice y.pa y.ps.length y.pc,.int .i64 y.rt.1,.int .i64 y.rt.2.1,.int .i64 y.rt.2.2.1,.bool y.rt.2.2.2,.slice y.la y.ls.length y.lc,.int .i64 y.mx,.slice y.ca y.co.length y.cc,.slice y.ka y.cl.length y.kc]) yb ?_;refine wpAnyH_ready (rs:=[21]) (by kernel_rfl) (by simp) ?_
    refine AllReadyH.cons (o:=zlN) rfl (λK hK=>?_) AllReadyH.nil
    go_simp
    refine (HH1.out _).mono ?_;rintro e w2 ⟨rfl,hb2⟩;have hB2:Below w0.heap.size w0 w2:=zaa hB1 hb2
    try go_wp2_with fail
    refine hK.out _ _ (HAT.out _ hB2) (λyb=>?_)
    clear hK K
    try simp only[Act.put,sA,s0,sS]
    refine wpAnyH_ready (rs:=[23]) (by kernel_rfl) (by simp) ?_
    refine AllReadyH.cons (o:=zl9) rfl (λK hK=>?_) AllReadyH.nil
    go_simp
    refine (HH2.out _).mono ?_;rintro e w3 ⟨rfl,hb3⟩;have hB3:Below w0.heap.size w0 w3:=zaa hB2 hb3
    try go_wp2_with fail
    refine hK.out _ _ (HAT.out _ hB3) (λyb=>?_)
    clear hK K
    try simp only[Act.put,sA,s0,sS]
    refine tY 24 zl3 (.bool (s1==s2)) yb ?_;refine tY 25 zmu (.bool (s1==s2)) yb ?_;refine tY 26 zma (.bool (s1==s2)) yb ?_;refine wpAnyH_done (by kernel_rfl) ?_ _
    have HB3:Hid (Below w0.heap.size w0 w3):=hB3;clear hb1 hB1 hb2 hB2 hb3 hB3;go_wp2_with fail
    go_ret;exact⟨zab HR2.out.symm,zaa HB0.out HB3.out⟩
structure WU (g:Img):Prop where
 wel:zaY g=true
 used:AllU g
theorem WU.im {g:Img} (h:WU g):imB g=true:=(Wel.of h.wel).im
set_option maxRecDepth 20000 in
theorem zhR {g:Img} {t:Int} {w:World} (hg:Im w g) (U:WU g) (hwf:Wf t) :
 Calls Tryz.prog 90 #[zao g,.int .i64 t] w λe w'=>∃ v,e=.returned v/\∃ l,OwnE tyE w' w.heap.size 47 v l/\Cut l (znm g t)/\l.length<=10000000/\Below w.heap.size w w':=by
 obtain⟨w0,HW0,HB0,HG,HC,HI,c0,c1,c2,c3⟩:=zaG hg;have hln:=zax U.im;have HUp:Hid (Calls Tryz.prog 60 #[zao g,.int .i64 t] w0 λe w'=>∃ v,e=.returned v/\OwnI w' w0.heap.size v (upL g t)/\Below w0.heap.size w0 w'):=ziE (HI.out w0 (Below.refl _ _)) U.im hwf
 have HUN:Hid (Nd g.ts.length 0 (upL g t)):=zcw g t;have HHe:Hid (∀ W u,Below w0.heap.size w0 W->zam u g.ts.length=true->Calls Tryz.prog 119 #[zao g,.int .i64 u] W λe w'=>∃ v,e=.returned v/\OwnE tyE w' W.heap.size 47 v (zbP g u)/\Below W.heap.size W w'):=λW u hW hu=>zfR (HI.out W hW) U.im hu
 have HCe:Hid (∀ W y,Below w0.heap.size w0 W->zaw g y=true->Calls Tryz.prog 89 #[zao g,.agg #[.int .i64 y.1,.int .i64 y.2.1,.int .i64 y.2.2.1,.bool y.2.2.2]] W λe w'=>∃ v,e=.returned v/\∃ l,OwnE tyE w' W.heap.size 47 v l/\Cut l (zbl g y)/\l.length<=2000/\Below W.heap.size W w'):=λW y hW hy=>zeU U.used U.wel (HI.out W hW) hy
 have HUs:Hid (∀ u,∀ y∈zbP g u,zaw g y=true):=λu y hy=>U.used.hld hy
 have HLe:Hid (∀ u,(zbP g u).length<=g.fs.length):=zoT g;obtain⟨up,hup⟩:∃ X,X=upL g t:=⟨_,rfl⟩;have HOb:Hid (znm g t=up.reverse.flatMap (zde g)):=by show _=_;rw[hup];rfl
 rw[<- hup]at HUp HUN;unfold zao at HUp HHe HCe ⊢;clear hg U hwf hup;go_enter Tryz.func90,Tryz.ntmps90;go_wp2_with (rw[<- HW0.out])
 refine Calls.mono HUp.out ?_;rintro e w1 ⟨uv,rfl,hu,hb1⟩;have HU:Hid (OwnI w1 w0.heap.size uv up):=hu;have HB1:Hid (Below w0.heap.size w0 w1):=hb1;obtain⟨ua,uc,huv,_,huc⟩:=(show Is w1 uv up from hu.is).shape
 subst huv;have hupl:=HUN.out.len;unfold maxLen at huc;clear hu hb1 c0 c1 c2 c3 HUp;go_wp2_with fail
 go_loopw [5,7,9,15] (λlv _ _ z wr=>∃ (q:Nat) (l:List Ty),q<=up.length/\z=.int .i64 q/\Hid (OwnE tyE wr w1.heap.size 47 lv l)/\Hid (Cut l ((up.reverse.take q).flatMap (zde g)))/\l.length<=q * 200000/\Hid (Below w1.heap.size w1 wr)) (λ_ _ _ z _=>up.length - (intOf z).toNat)
 case atStart=>exact⟨0,[],Nat.zero_le _,rfl,OwnE.nil _ _ _ _,Or.inl rfl,by simp,Below.refl _ _⟩
 case round =>
  obtain⟨q,l,hq,rfl,HO,HCu,hll,HB⟩:=hrel;by_cases hql:q<up.length
  ·obtain⟨m,hm⟩:∃ m:Nat,m+1=up.length:=⟨up.length - 1,by omega⟩
   obtain⟨p,hp⟩:∃ p:Nat,p+q=m:=⟨m - q,by omega⟩
   have hpl:p<up.length:=by omega
   have hpi:(p:Int)<(up.length:Int):=by omega
   have hqi:(q:Int)<(up.length:Int):=by omega
   have hw1:IntKind.i64.wrap ((up.length:Int) - 1)=(m:Int):=by rw[show (up.length:Int) - 1=(m:Int) by omega];simp[IntKind.wrap,IntKind.bits,IntKind.signed];omega
   have hw2:IntKind.i64.wrap ((m:Int) - (q:Int))=(p:Int):=by rw[show (m:Int) - (q:Int)=(p:Int) by omega];simp[IntKind.wrap,IntKind.bits,IntKind.signed];omega
   obtain⟨ub,uoff,hua,hub,_,_,_,hcu⟩:=(show Is wr (.slice ua up.length uc) up from Sl.later HU.out.is HB.out).at hpl
   subst hua;have hcp:=hcu p hpl;obtain⟨u,huu⟩:∃ u,u=up[p]:=⟨_,rfl⟩;have hun:zam u g.ts.length=true:=by rw[huu];exact HUN.out.1 _ (List.getElem_mem hpl)
   have HT:Hid ((up.reverse.take (q+1)).flatMap (zde g)=(up.reverse.take q).flatMap (zde g) ++ zde g u):=by
    show _=_;rw[zjd (by simpa using hql),huu]
    congr 2
    rw[List.getElem_reverse]
    congr 1
    omega
   rw[<- huu]at hcp;have hB01:Below w0.heap.size w0 wr:=zaa HB1.out HB.out;have HK:Hid (∀ W,Below wr.heap.size wr W->Im4 W w.heap.size g/\W.cell? ⟨ub,uoff+p,none⟩=some (.int .i64 u)):=λW hW=>⟨HC.out W (zaa hB01 hW),by rw[<- hcp];exact hW.cell (p:=⟨ub,uoff+p,none⟩) hub⟩
   have HHq:Hid (∀ W,Below wr.heap.size wr W->Calls Tryz.prog 119 #[.agg #[.slice g.ta g.ts.length g.tc,.slice g.fa g.fs.length g.fc,.slice g.ma g.ms.length g.mc,.int .i64 g.en],.int .i64 u] W λe w'=>∃ v,e=.returned v/\OwnE tyE w' W.heap.size 47 v (zbP g u)/\Below W.heap.size W w'):=λW hW=>HHe.out W u (zaa hB01 hW) hun
   have hF64:=HLe.out u;have HUsu:Hid (∀ y∈zbP g u,zaw g y=true):=HUs.out u;have HOC:Hid (zde g u=(zbP g u).flatMap (zbl g)):=rfl;obtain⟨⟨c0,c1,c2,c3⟩,cu⟩:=HK.out wr (Below.refl _ _);clear hcu hcp huu hB01 hun;generalize zde g u=OC at *;generalize zbP g u=F at *;unfold Im4 at HK;go_wp2_with fail
   go_region_held3 (λW:World=>(W.cell? ⟨w.heap.size,0,none⟩=some (.slice g.ta g.ts.length g.tc)/\W.cell? ⟨w.heap.size,1,none⟩=some (.slice g.fa g.fs.length g.fc)/\W.cell? ⟨w.heap.size,2,none⟩=some (.slice g.ma g.ms.length g.mc)/\W.cell? ⟨w.heap.size,3,none⟩=some (.int .i64 g.en))/\W.cell? ⟨ub,uoff+p,none⟩=some (.int .i64 u))
    (first | (exact HK.out _ hBc) | (exact HK.out _ (zad _)))
    ((go_at_call 119;refine (HHq.out _ (zad _)).mono ?_;rintro e w2 ⟨hv,rfl,hv2,hb2⟩;obtain⟨ha,hc2,hvv,_,hhc⟩:=hv2.shape;subst hvv;have hBc:Below wr.heap.size wr w2:=zaa (zad _) hb2))
   rename_i hheld
   clear hheld;have HB2:Hid (Below w1.heap.size w1 w2):=zaa HB.out hBc;have HF2:Hid (Es tyE w2 (.slice ha F.length hc2) F/\Apw w2 u5 (.slice ha F.length hc2)):=⟨hv2.es,Apw.of HO.out hv2 (Nat.le_refl _)⟩;have HO2:Hid (OwnE tyE w2 w1.heap.size 47 u5 l):=HO.out.later hBc;unfold maxLen at hhc;clear hv2 hb2 hBc c0 c1 c2 c3 cu HK HHq;go_wp2_with fail
   go_loopw [5,9,29] (λlv _ z wx=>∃ (k:Nat) (l2:List Ty),k<=F.length/\z=.int .i64 k/\Hid (OwnE tyE wx w1.heap.size 47 lv l2)/\Hid (Cut l2 ((up.reverse.take q).flatMap (zde g) ++ (F.take k).flatMap (zbl g)))/\l2.length<=q * 200000+k * 2000/\Hid (Below w1.heap.size w1 wx)/\Hid (Es tyE wx (.slice ha F.length hc2) F/\Apw wx lv (.slice ha F.length hc2))) (λ_ _ z _=>F.length - (intOf z).toNat)
   case atStart=>exact⟨0,l,Nat.zero_le _,rfl,HO2.out,by show Cut _ _;rw[List.take_zero,List.flatMap_nil,List.append_nil];exact HCu.out,Nat.le_trans hll (Nat.le_add_right _ _),HB2.out,HF2.out⟩
   case round =>
    clear HO2;obtain⟨k,l2,hk,rfl,HO2,HCu2,hl2,HBx,HFx⟩:=hrel;obtain⟨oa,oc,hov,hoq,hoc⟩:=HO2.out.shape;subst hov;unfold maxLen at hoc;by_cases hkl:k<F.length
    ·have hki:(k:Int)<(F.length:Int):=by omega
     have HT2:Hid ((F.take (k+1)).flatMap (zbl g)=(F.take k).flatMap (zbl g) ++ zbl g F[k]):=zjd hkl;obtain⟨lb,loff,lcap,hla,_,_,hlb,hc⟩:=HFx.out.1.parts (by intro e;rw[e]at hkl;simp at hkl)
     simp only[Value.slice.injEq]at hla;obtain⟨hla, -,hlc2⟩:=hla;subst hla hlc2;obtain⟨k0,k1,k2,k3⟩:=(show El tyE wr lb (loff+k * 4) F[k] from hc k hkl).cells_Y
     have hus:=HUsu.out _ (List.getElem_mem hkl);have hB0r:Below w0.heap.size w0 wr:=zaa HB1.out HBx.out;have HRq:Hid (∀ W,Below w0.heap.size w0 W->Calls Tryz.prog 89 #[.agg #[.slice g.ta g.ts.length g.tc,.slice g.fa g.fs.length g.fc,.slice g.ma g.ms.length g.mc,.int .i64 g.en],.agg #[.int .i64 F[k].1,.int .i64 F[k].2.1,.int .i64 F[k].2.2.1,.bool F[k].2.2.2]] W λe w'=>∃ v,e=.returned v/\∃ l,OwnE tyE w' W.heap.size 47 v l/\Cut l (zbl g F[k])/\l.length<=2000/\Below W.heap.size W w'):=λW hW=>HCe.out W F[k] hW hus
     clear hc hus;generalize F[k]=x at *;obtain⟨wA,hwA⟩:∃ W,W=wr.alloc (.cells #[.int .i64 x.1,.int .i64 x.2.1,.int .i64 x.2.2.1,.bool x.2.2.2] 47):=⟨_,rfl⟩;have HWA:Hid (wA=_):=hwA;have hbA:Below wr.heap.size wr wA:=by rw[hwA];exact zac _ _ _
     have hAA:At wA wr.heap.size #[.int .i64 x.1,.int .i64 x.2.1,.int .i64 x.2.2.1,.bool x.2.2.2] 47:=by rw[hwA];exact At.made _ _ _
     have HBA:Hid (Below w1.heap.size w1 wA):=zaa HBx.out hbA;have HFA:Hid (Es tyE wA (.slice (some ⟨lb,loff,none⟩) F.length hc2) F/\Apw wA (.slice oa l2.length oc) (.slice (some ⟨lb,loff,none⟩) F.length hc2)):=⟨HFx.out.1.later hbA,HFx.out.2.later hbA⟩;have HOA:Hid (OwnE tyE wA w1.heap.size 47 (.slice oa l2.length oc) l2):=HO2.out.later hbA;have HBA0:Hid (Below w0.heap.size w0 wA):=zaa hB0r hbA;obtain⟨c0,c1,c2,c3⟩:=HC.out wA HBA0.out;have a0:=hAA.cell 0;have a1:=hAA.cell 1;have a2:=hAA.cell 2;have a3:=hAA.cell 3;simp at a0 a1 a2 a3;clear hwA hbA hAA HO2 hB0r;go_wp2_with (rw[<- HWA.out])
     refine Calls.mono (HRq.out wA HBA0.out) ?_;rintro e w3 ⟨yv,rfl,n,hy,hcm,hml,hb3⟩;have HY:Hid (Es tyE w3 yv n):=hy.es;have HCm:Hid (Cut n (zbl g x)):=hcm;have HO3:Hid (OwnE tyE w3 w1.heap.size 47 (.slice oa l2.length oc) l2):=HOA.out.later hb3;have HB3:Hid (Below w1.heap.size w1 w3):=zaa HBA.out hb3;have HF3:Hid (Es tyE w3 (.slice (some ⟨lb,loff,none⟩) F.length hc2) F/\Apw w3 (.slice oa l2.length oc) (.slice (some ⟨lb,loff,none⟩) F.length hc2)):=⟨HFA.out.1.later hb3,HFA.out.2.later hb3⟩;clear hy hcm hb3 c0 c1 c2 c3 a0 a1 a2 a3 k0 k1 k2 k3 HOA HWA HRq;go_wp2_with (at_builtin;go_must (refine zet tyE rfl (.tmp 33) (.tmp 36) 45 rfl w1.heap.size 47 _ 32 Tryz.underlying45 Tryz.info12Y rfl rfl rfl HO3.out HY.out (by unfold maxLen;omega) (by omega) HB3.out.size ?_;intro v5 w5 ho5 hg5 hp5;have hB5:=HB3.out.trans (zaE HO3.out hg5 (Nat.le_refl _) HB3.out.size);have hF5:=Apw.grow HF3.out.2 HF3.out.1 hg5 hp5))
     go_roundw
     case rel=>exact⟨k+1,l2 ++ n,by omega,by go_num,ho5,by show Cut _ _;rw[HT2.out,<- List.append_assoc];exact HCu2.out.app HCm.out,by rw[List.length_append];omega,hB5,hF5⟩
     case measure=>simp[intOf];omega
    ·have hki:¬ (k:Int)<(F.length:Int):=by omega
     have HE2:Hid (Cut l2 ((up.reverse.take (q+1)).flatMap (zde g))):=by
      have:=HCu2.out;rw[List.take_of_length_le (l:=F) (by omega),<- HOC.out,<- HT.out]at this
      exact this
     go_wp2_with fail
     go_roundw
     case rel=>exact⟨q+1,l2,by omega,by go_num,HO2.out,HE2.out,by omega,HBx.out⟩
     case measure=>simp[intOf];omega
  ·have hqi:¬ (q:Int)<(up.length:Int):=by omega
   have HE:Hid (Cut l (znm g t)):=by have:=HCu.out;rw[List.take_of_length_le (by simp;omega),<- HOb.out]at this;exact this
   go_wp2_with fail
   go_ret;exact⟨_,rfl,l,HO.out.mono (Nat.le_trans HB0.out.size HB1.out.size),HE.out,by omega,zaa HB0.out (zaa HB1.out HB.out)⟩
theorem zmT {g:Img} {gb i j:Nat} {w:World} (hG:GB w gb g) (hi:i<g.fs.length) (hj:j<g.fs.length) :
 Calls Tryz.prog 165 #[.int .i64 i,.int .i64 j,.pointer (some ⟨gb,0,none⟩)] w λe w'=>e=.returned (.bool (decide (g.fs[i].nm≠g.fs[j].nm)))/\Below w.heap.size w w':=by
 obtain⟨tb,off,hta,h1,h2,hty⟩:=hG.fd (by intro e;rw[e]at hi;simp at hi)
 obtain⟨d1,hd⟩:=hty w (Below.refl _ _);obtain⟨k0,_⟩:=(hd i hi).cells_F;obtain⟨l0,_⟩:=(hd j hj).cells_F;unfold maxLen at h2;have hii:(i:Int)<(g.fs.length:Int):=by omega
 have hji:(j:Int)<(g.fs.length:Int):=by omega
 have hs:=zcu g.fs[i].nm g.fs[j].nm;have HR:Hid (decide (g.fs[i].nm≠g.fs[j].nm)=!decide (g.fs[i].nm=g.fs[j].nm)):=by show _=_;simp
 clear hta hG hty hd;generalize decide (g.fs[i].nm≠g.fs[j].nm)=F at *;generalize decide (g.fs[i].nm=g.fs[j].nm)=r at *;generalize g.fs[i].nm=n1 at *;generalize g.fs[j].nm=n2 at *;go_enter Tryz.func165,Tryz.ntmps165;go_wp2_with fail
 go_quiet (fail)
 go_wp2_with fail
 go_ret;exact⟨zab HR.out.symm,Below.drewN (Below.refl _ _) _⟩
set_option maxRecDepth 20000 in
theorem zm2 {g:Img} {gb i j:Nat} {w:World} (hG:GB w gb g) (hi:i<g.ms.length) (hj:j<g.ms.length) :
 Calls Tryz.prog 166 #[.int .i64 i,.int .i64 j,.pointer (some ⟨gb,0,none⟩)] w λe w'=>e=.returned (.bool (!smM g.ms[i] g.ms[j]))/\Below w.heap.size w w':=by
 have HSm:Hid (∀ W,Below w.heap.size w W->Calls Tryz.prog 167 #[mdV g.ms[i],mdV g.ms[j]] W λe w'=>e=.returned (.bool (smM g.ms[i] g.ms[j]))/\Below W.heap.size W w'):=λW hW=>zmW ((hG.im.later hW).mok _ (List.getElem_mem hi)) ((hG.im.later hW).mok _ (List.getElem_mem hj))
 obtain⟨tb,off,hta,h1,h2,hty⟩:=hG.md (by intro e;rw[e]at hi;simp at hi)
 have HK:Hid (∀ W,Below w.heap.size w W->W.cell? ⟨gb,2,none⟩=some (.slice (some ⟨tb,off,none⟩) g.ms.length g.mc)/\El mdE W tb (off+i * 12) g.ms[i]/\El mdE W tb (off+j * 12) g.ms[j]):=λW hW=>⟨(hty W hW).1,(hty W hW).2 i hi,(hty W hW).2 j hj⟩
 unfold maxLen at h2;have hii:(i:Int)<(g.ms.length:Int):=by omega
 have hji:(j:Int)<(g.ms.length:Int):=by omega
 clear hta hG hty;generalize smM g.ms[i] g.ms[j]=r at *;generalize g.ms[i]=x at *;generalize g.ms[j]=y at *;have HQ:Hid (∀ W,Below w.heap.size w W->W.cell? ⟨gb,2,none⟩=some (.slice (some ⟨tb,off,none⟩) g.ms.length g.mc)/\W.cell? ⟨tb,off+i * 12,none⟩=some (.string x.nm)/\W.cell? ⟨tb,off+i * 12+1,none⟩=some (.int .i64 x.ow)/\W.cell? ⟨tb,off+i * 12+2,none⟩=some (.int .i64 x.fl)/\W.cell? ⟨tb,off+i * 12+3,none⟩=some (.slice x.pa x.ps.length x.pc)/\W.cell? ⟨tb,off+i * 12+4,none⟩=some (.int .i64 x.rt.1)/\W.cell? ⟨tb,off+i * 12+5,none⟩=some (.int .i64 x.rt.2.1)/\W.cell? ⟨tb,off+i * 12+6,none⟩=some (.int .i64 x.rt.2.2.1)/\W.cell? ⟨tb,off+i * 12+7,none⟩=some (.bool x.rt.2.2.2)/\W.cell? ⟨tb,off+i * 12+8,none⟩=some (.slice x.la x.ls.length x.lc)/\W.cell? ⟨tb,off+i * 12+9,none⟩=some (.int .i64 x.mx)/\W.cell? ⟨tb,off+i * 12+10,none⟩=some (.slice x.ca x.co.length x.cc)/\W.cell? ⟨tb,off+i * 12+11,none⟩=some (.slice x.ka x.cl.length x.kc)/\W.cell? ⟨tb,off+j * 12,none⟩=some (.string y.nm)/\W.cell? ⟨tb,off+j * 12+1,none⟩=some (.int .i64 y.ow)/\W.cell? ⟨tb,off+j * 12+2,none⟩=some (.int .i64 y.fl)/\W.cell? ⟨tb,off+j * 12+3,none⟩=some (.slice y.pa y.ps.length y.pc)/\W.cell? ⟨tb,off+j * 12+4,none⟩=some (.int .i64 y.rt.1)/\W.cell? ⟨tb,off+j * 12+5,none⟩=some (.int .i64 y.rt.2.1)/\W.cell? ⟨tb,off+j * 12+6,none⟩=some (.int .i64 y.rt.2.2.1)/\W.cell? ⟨tb,off+j * 12+7,none⟩=some (.bool y.rt.2.2.2)/\W.cell? ⟨tb,off+j * 12+8,none⟩=some (.slice y.la y.ls.length y.lc)/\W.cell? ⟨tb,off+j * 12+9,none⟩=some (.int .i64 y.mx)/\W.cell? ⟨tb,off+j * 12+10,none⟩=some (.slice y.ca y.co.length y.cc)/\W.cell? ⟨tb,off+j * 12+11,none⟩=some (.slice y.ka y.cl.length y.kc)):=λW hW=>by
  obtain⟨h0,hx,hy⟩:=HK.out W hW;obtain⟨a0,a1,a2,a3,a4,a5,a6,a7,a8,a9,a10,a11⟩:=hx.cells_M;obtain⟨b0,b1,b2,b3,b4,b5,b6,b7,b8,b9,b10,b11⟩:=hy.cells_M;exact⟨h0,a0,a1,a2,a3,a4,a5,a6,a7,a8,a9,a10,a11,b0,b1,b2,b3,b4,b5,b6,b7,b8,b9,b10,b11⟩
 clear HK;unfold mdV at HSm;obtain⟨h0,a0,a1,a2,a3,a4,a5,a6,a7,a8,a9,a10,a11,b0,b1,b2,b3,b4,b5,b6,b7,b8,b9,b10,b11⟩:=HQ.out w (Below.refl _ _);go_enter Tryz.func166,Tryz.ntmps166;go_wp2_with fail
 go_region_held3 (λW:World=>W.cell? ⟨gb,2,none⟩=some (.slice (some ⟨tb,off,none⟩) g.ms.length g.mc)/\W.cell? ⟨tb,off+i * 12,none⟩=some (.string x.nm)/\W.cell? ⟨tb,off+i * 12+1,none⟩=some (.int .i64 x.ow)/\W.cell? ⟨tb,off+i * 12+2,none⟩=some (.int .i64 x.fl)/\W.cell? ⟨tb,off+i * 12+3,none⟩=some (.slice x.pa x.ps.length x.pc)/\W.cell? ⟨tb,off+i * 12+4,none⟩=some (.int .i64 x.rt.1)/\W.cell? ⟨tb,off+i * 12+5,none⟩=some (.int .i64 x.rt.2.1)/\W.cell? ⟨tb,off+i * 12+6,none⟩=some (.int .i64 x.rt.2.2.1)/\W.cell? ⟨tb,off+i * 12+7,none⟩=some (.bool x.rt.2.2.2)/\W.cell? ⟨tb,off+i * 12+8,none⟩=some (.slice x.la x.ls.length x.lc)/\W.cell? ⟨tb,off+i * 12+9,none⟩=some (.int .i64 x.mx)/\W.cell? ⟨tb,off+i * 12+10,none⟩=some (.slice x.ca x.co.length x.cc)/\W.cell? ⟨tb,off+i * 12+11,none⟩=some (.slice x.ka x.cl.length x.kc)/\W.cell? ⟨tb,off+j * 12,none⟩=some (.string y.nm)/\W.cell? ⟨tb,off+j * 12+1,none⟩=some (.int .i64 y.ow)/\W.cell? ⟨tb,off+j * 12+2,none⟩=some (.int .i64 y.fl)/\W.cell? ⟨tb,off+j * 12+3,none⟩=some (.slice y.pa y.ps.length y.pc)/\W.cell? ⟨tb,off+j * 12+4,none⟩=some (.int .i64 y.rt.1)/\W.cell? ⟨tb,off+j * 12+5,none⟩=some (.int .i64 y.rt.2.1)/\W.cell? ⟨tb,off+j * 12+6,none⟩=some (.int .i64 y.rt.2.2.1)/\W.cell? ⟨tb,off+j * 12+7,none⟩=some (.bool y.rt.2.2.2)/\W.cell? ⟨tb,off+j * 12+8,none⟩=some (.slice y.la y.ls.length y.lc)/\W.cell? ⟨tb,off+j * 12+9,none⟩=some (.int .i64 y.mx)/\W.cell? ⟨tb,off+j * 12+10,none⟩=some (.slice y.ca y.co.length y.cc)/\W.cell? ⟨tb,off+j * 12+11,none⟩=some (.slice y.ka y.cl.length y.kc))
  (first | (exact HQ.out _ hB1) | (exact HQ.out _ (zad _)))
  (first | (go_at_call 167;refine (HSm.out _ (zad _)).mono ?_;rintro e w1 ⟨rfl,hz1⟩;have hB1:Below w.heap.size w w1:=zaa (zad _) hz1))
 rename_i hheld
 clear hheld;have HB1:Hid (Below w.heap.size w w1):=hB1;clear hz1 hB1 h0 a0 a1 a2 a3 a4 a5 a6 a7 a8 a9 a10 a11 b0 b1 b2 b3 b4 b5 b6 b7 b8 b9 b10 b11;go_wp2_with fail
 go_ret;exact⟨rfl,HB1.out⟩
end Go.Proofs.YtkedhjdipnhgdaaGreat
