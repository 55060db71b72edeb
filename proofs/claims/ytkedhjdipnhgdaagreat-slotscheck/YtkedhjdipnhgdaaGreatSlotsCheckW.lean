
/- The walk of SlotsCheck. -/
import Derived.Test.YtkedhjdipnhgdaaGreatR52
import Derived.Test.YtkedhjdipnhgdaaGreatR53
import Derived.Test.YtkedhjdipnhgdaaGreatR22
import Derived.Test.YtkedhjdipnhgdaaGreatR25
namespace Go.Proofs.YtkedhjdipnhgdaaGreat
set_option linter.unusedVariables false
set_option linter.unusedSimpArgs false
open Go.RowKit
attribute [local go_sem ↓] Go.wp_at_zero Go.wp_at_succ
set_option maxHeartbeats 8000000 in
set_option maxRecDepth 20000 in
theorem slotsCheck_walk (v:Value) (g:Img) (w:World) (h:ImV w v g) :
 Calls Tryz.prog 3 #[v] w λe w'=>e=.returned (.bool true)/\Below w.heap.size w w':=by
 obtain⟨rfl,hg,hnm⟩:=h;obtain⟨w0,HW0,HB0,HG,HC,HI,c0,c1,c2,c3⟩:=zaG hg;have HLo:Hid (∀ W,Below w0.heap.size w0 W->Ans 5 #[zao g] W (.bool (zcb g))):=λW hW=>zol (HI.out W hW)
 have HCo:Hid (∀ W,Below w0.heap.size w0 W->zcb g=false->Calls Tryz.prog 6 #[zao g] W λe w'=>∃ h,e=.returned (imV h)/\Im w' h/\g.like h/\Below W.heap.size W w'):=λW hW hl=>zh3 (HI.out W hW) hl
 have HCk:Hid (∀ W h,Im W h->g.like h->Ans 7 #[zao h] W (.tuple #[.agg #[.int .i64 (zb3 g).1,.int .i64 (zb3 g).2.1],.int .i64 (zb3 g).2.2])):=λW h hh hl=>by rw[zqW hl];exact zfj hh
 have HRk:Hid (∀ W,Below w0.heap.size w0 W->Ans 8 #[zao g] W (.tuple #[.agg #[.int .i64 (zb3 g).1,.int .i64 (zb3 g).2.1],.int .i64 (zb3 g).2.2])):=λW hW=>zfL (HI.out W hW) hnm
 have HSa:Hid (∀ W h,Below w0.heap.size w0 W->Im W h->g.like h->Ans 9 #[zao h,zao g] W (.bool true)):=λW h hW hh hl=>znn hh (HI.out W hW) (zoV hl)
 have HC4:Hid (∀ W,Below w0.heap.size w0 W->Im4 W w.heap.size g):=HC.out;unfold zao at HLo HCo HCk HRk HSa;unfold Im4 at HC4;unfold imV;clear hg hnm HC HI HG;generalize (zb3 g).1=k1 at *;generalize (zb3 g).2.1=k2 at *;generalize (zb3 g).2.2=k3 at *;go_enter Tryz.func3,Tryz.ntmps3;go_wp2_with (rw[<- HW0.out])
 refine Calls.mono (zks w0) ?_;rintro e w1 ⟨rfl,hb1⟩;have HB1:Hid (Below w0.heap.size w0 w1):=hb1;clear hb1 c0 c1 c2 c3;obtain⟨c0,c1,c2,c3⟩:=HC4.out w1 HB1.out;go_wp2_with fail
 refine Calls.mono (HLo.out w1 HB1.out) ?_;rintro e w2 ⟨rfl,hb2⟩;have HB2:Hid (Below w0.heap.size w0 w2):=zaa HB1.out hb2;clear hb2 c0 c1 c2 c3;obtain⟨c0,c1,c2,c3⟩:=HC4.out w2 HB2.out
 cases hlo:zcb g with
 | true =>
  clear hlo;go_wp2_with fail
  go_ret;exact⟨rfl,zaa HB0.out HB2.out⟩
 | false =>
  have HCp:Hid _:=HCo.out w2 HB2.out hlo;clear hlo HCo;go_wp2_with fail
  refine Calls.mono HCp.out ?_;rintro e w3 ⟨h,rfl,hh,hlk,hb3⟩;have HB3:Hid (Below w0.heap.size w0 w3):=zaa HB2.out hb3;obtain⟨w4,hw4⟩:∃ W,W=w3.alloc (.cells (imC h) 26):=⟨_,rfl⟩;obtain⟨hb4,hgb⟩:=GB.made hh hw4;have HW4:Hid (w4=_):=hw4;have HB4:Hid (Below w0.heap.size w0 w4):=zaa HB3.out hb4;have HH:Hid (∀ W,Below w4.heap.size w4 W->Im W h):=λW hW=>hgb.im.later hW
  have HX:Hid (∀ W,Below w4.heap.size w4 W->Im4 W w3.heap.size h):=λW hW=>(hgb.later hW).cells
  have HLk:Hid (g.like h):=hlk;have HCq:Hid _:=HCk.out w4 h hgb.im hlk;unfold imC at HW4;unfold Im4 at HX;unfold imV;clear hw4 hb4 hgb hb3 hh hlk c0 c1 c2 c3 HCp;obtain⟨x0,x1,x2,x3⟩:=HX.out w4 (Below.refl _ _);go_wp2_with (rw[<- HW4.out])
  refine Calls.mono HCq.out ?_;rintro e w5 ⟨rfl,hb5⟩;have HB5:Hid (Below w4.heap.size w4 (w5.alloc (.cells #[.int .i64 k1,.int .i64 k2] 31))):=zaa hb5 (zac _ _ _);have HS5:Hid (∀ W,Below (w5.alloc (.cells #[.int .i64 k1,.int .i64 k2] 31)).heap.size (w5.alloc (.cells #[.int .i64 k1,.int .i64 k2] 31)) W->W.cell? ⟨w5.heap.size,0,none⟩=some (.int .i64 k1)/\W.cell? ⟨w5.heap.size,1,none⟩=some (.int .i64 k2)):=λW hW=>by
   have h:=(At.made w5 #[.int .i64 k1,.int .i64 k2] 31).later hW;exact⟨h.cell 0,h.cell 1⟩
  clear hb5 x0 x1 x2 x3 HCq;obtain⟨c0,c1,c2,c3⟩:=HC4.out _ (zaa HB4.out HB5.out);go_wp2_with fail
  refine Calls.mono (HRk.out _ (zaa HB4.out HB5.out)) ?_;rintro e w6 ⟨rfl,hb6⟩;have HB6:Hid (Below w4.heap.size w4 (w6.alloc (.cells #[.int .i64 k1,.int .i64 k2] 31))):=zaa (zaa HB5.out hb6) (zac _ _ _);have HS6:Hid (∀ W,Below (w6.alloc (.cells #[.int .i64 k1,.int .i64 k2] 31)).heap.size (w6.alloc (.cells #[.int .i64 k1,.int .i64 k2] 31)) W->(W.cell? ⟨w5.heap.size,0,none⟩=some (.int .i64 k1)/\W.cell? ⟨w5.heap.size,1,none⟩=some (.int .i64 k2))/\(W.cell? ⟨w6.heap.size,0,none⟩=some (.int .i64 k1)/\W.cell? ⟨w6.heap.size,1,none⟩=some (.int .i64 k2))):=λW hW=>by
   have h:=(At.made w6 #[.int .i64 k1,.int .i64 k2] 31).later hW;exact⟨HS5.out W (zaa (zaa hb6 (zac _ _ _)) hW),h.cell 0,h.cell 1⟩
  clear hb6 c0 c1 c2 c3;obtain⟨c0,c1,c2,c3⟩:=HC4.out _ (zaa HB4.out HB6.out);obtain⟨x0,x1,x2,x3⟩:=HX.out _ HB6.out;obtain⟨⟨s0,s1⟩,⟨t0,t1⟩⟩:=HS6.out _ (Below.refl _ _);have HSq:Hid _:=HSa.out _ h (zaa HB4.out HB6.out) (HH.out _ HB6.out) HLk.out;go_wp2_with fail
  refine Calls.mono HSq.out ?_;rintro e w7 ⟨rfl,hb7⟩;have HB7:Hid (Below w4.heap.size w4 w7):=zaa HB6.out hb7;clear hb7 c0 c1 c2 c3 x0 x1 x2 x3 s0 s1 t0 t1 HSq;go_wp2_with fail
  go_ret;exact⟨rfl,zaa HB0.out (zaa HB4.out HB7.out)⟩
end Go.Proofs.YtkedhjdipnhgdaaGreat