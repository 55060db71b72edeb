import Derived.Test.YtkedhjdipnhgdaaGreatR48
namespace Go.Proofs.YtkedhjdipnhgdaaGreat
set_option maxHeartbeats 16000000
set_option linter.all false
open RowKit
attribute [local go_sem ↓] wp_at_zero wp_at_succ
theorem zmK {va vb:Value} {xs ys:List Int} {w:World} (ha:Is w va xs) (hb:Is w vb ys):Ans 11 #[va,vb] w (.bool (decide (xs=ys))):=by
 have HS:Hid (Calls Tryz.prog 27 #[va,vb] w λe w'=>e=.returned (.bool (decide (xs=ys)))/\∃ n,w'=w.drewN n):=zhO ha hb
 clear ha hb;go_enter Tryz.func11,Tryz.ntmps11;go_wp2_with fail
 refine Calls.mono HS.out ?_;rintro e w1 ⟨rfl,n,rfl⟩;go_wp2;go_ret;exact⟨rfl,Below.drewN (Below.refl _ _) n⟩
set_option maxRecDepth 20000 in
theorem zks (w:World):Ans 4 #[] w (.bool true):=by
 have HSo:Hid (∀ W,Calls Tryz.prog 10 #[] W λe w'=>∃ t m cb,e=.returned (.agg #[.slice t 2 2,.slice none 0 0,.slice m 3 3,.int .i64 (-1)])/\Im w' (gSo t m cb)/\Below W.heap.size W w'):=λW=>zno W
 have HCk:Hid (∀ W t m cb,Im W (gSo t m cb)->Ans 7 #[.agg #[.slice t 2 2,.slice none 0 0,.slice m 3 3,.int .i64 (-1)]] W (.tuple #[.agg #[.int .i64 0,.int .i64 0],.int .i64 0])):=λW t m cb h=>by
  have:=zfj h;rw[zhi,ztk]at this;exact this
 have HTb:Hid (∀ W t m cb,Im W (gSo t m cb)->Calls Tryz.prog 12 #[.agg #[.slice t 2 2,.slice none 0 0,.slice m 3 3,.int .i64 (-1)],.int .i64 1] W λe w'=>(∃ a c,e=.returned (.slice a 2 c)/\Is w' (.slice a 2 c) [0,2])/\Below W.heap.size W w'):=λW t m cb h=>by
  have:=zkj (t:=1) h;rw[zhi]at this;refine this.mono ?_;rintro e w' ⟨v,rfl,ho,hb⟩;rw[zsS]at ho;obtain⟨a,c,hv,_,_⟩:=ho.is.shape;have hi:=ho.is;subst hv;exact⟨⟨a,c,rfl,hi⟩,hb⟩
 have HF1:Hid (∀ W t m cb,Im W (gSo t m cb)->Ans 13 #[.agg #[.slice t 2 2,.slice none 0 0,.slice m 3 3,.int .i64 (-1)],.int .i64 1,.int .i64 1] W (.int .i64 2)):=λW t m cb h=>by
  have:=zf2 (t:=1) (k:=1) h (zpi t m cb) (show 1<3 by omega) (zva t m cb) (zq1 (by omega)) (ztP t m cb)
  rw[zhi]at this;rw[show zaL (gSo t m cb) 1 ((1:Nat):Int)=2 from ztC t m cb]at this
  exact this
 have HF0:Hid (∀ W t m cb,Im W (gSo t m cb)->Ans 13 #[.agg #[.slice t 2 2,.slice none 0 0,.slice m 3 3,.int .i64 (-1)],.int .i64 0,.int .i64 1] W (.int .i64 1)):=λW t m cb h=>by
  have:=zf2 (t:=0) (k:=1) h (zpi t m cb) (show 1<3 by omega) (zuU t m cb) (zq1 (by omega)) (zvm t m cb)
  rw[zhi]at this;rw[show zaL (gSo t m cb) 0 ((1:Nat):Int)=1 from ztO t m cb]at this
  exact this
 have HSm:Hid (∀ W a c,Is W (.slice a 2 c) [0,2]->Ans 11 #[.slice a 2 c,.slice (some ⟨W.heap.size,0,none⟩) 2 2] (W.alloc (.cells #[.int .i64 0,.int .i64 2] 3)) (.bool true)):=λW a c h=>by
  have h2:Is (W.alloc (.cells #[.int .i64 0,.int .i64 2] 3)) (.slice (some ⟨W.heap.size,0,none⟩) 2 2) [0,2]:=(OwnE.lit zch W 0 3 [0,2] _ 2 (Nat.zero_le _) rfl rfl (by simp[maxLen])).es.toIs
  have:=zmK (h.later (zac W #[.int .i64 0,.int .i64 2] 3)) h2;simpa using this
 go_enter Tryz.func4,Tryz.ntmps4;go_wp2_with fail
 refine Calls.mono (HSo.out w) ?_;rintro e w1 ⟨t1,m1,c1,rfl,hi1,hb1⟩;have HC1:Hid _:=HCk.out w1 t1 m1 c1 hi1;have HB1:Hid (Below w.heap.size w w1):=hb1;clear hi1 hb1;go_wp2_with fail
 refine Calls.mono HC1.out ?_;rintro e w2 ⟨rfl,hb2⟩;have HB2:Hid (Below w.heap.size w w2):=zaa HB1.out hb2;clear hb2 HC1;go_wp2_with fail
 refine Calls.mono (HSo.out _) ?_;rintro e w4 ⟨t4,m4,c4,rfl,hi4,hb4⟩;have HC4:Hid _:=HTb.out w4 t4 m4 c4 hi4;have HB4:Hid (Below w.heap.size w w4):=zaa HB2.out (zaa (zac _ _ _) hb4);clear hi4 hb4;go_wp2_with fail
 refine Calls.mono HC4.out ?_;rintro e w5 ⟨⟨a,c,rfl,his⟩,hb5⟩;have HB5:Hid (Below w.heap.size w w5):=zaa HB4.out hb5;have HS5:Hid _:=HSm.out w5 a c his;clear his hb5 HC4;go_wp2_with fail
 refine Calls.mono HS5.out ?_;rintro e w6 ⟨rfl,hb6⟩;have HB6:Hid (Below w.heap.size w w6):=zaa HB5.out (zaa (zac _ _ _) hb6);clear hb6 HS5;go_wp2_with fail
 refine Calls.mono (HSo.out w6) ?_;rintro e w7 ⟨t7,m7,c7,rfl,hi7,hb7⟩;have HC7:Hid _:=HF1.out w7 t7 m7 c7 hi7;have HB7:Hid (Below w.heap.size w w7):=zaa HB6.out hb7;clear hi7 hb7;go_wp2_with fail
 refine Calls.mono HC7.out ?_;rintro e w8 ⟨rfl,hb8⟩;have HB8:Hid (Below w.heap.size w w8):=zaa HB7.out hb8;clear hb8 HC7;go_wp2_with fail
 refine Calls.mono (HSo.out w8) ?_;rintro e w9 ⟨t9,m9,c9,rfl,hi9,hb9⟩;have HC9:Hid _:=HF0.out w9 t9 m9 c9 hi9;have HB9:Hid (Below w.heap.size w w9):=zaa HB8.out hb9;clear hi9 hb9;go_wp2_with fail
 refine Calls.mono HC9.out ?_;rintro e w10 ⟨rfl,hb10⟩;have HB10:Hid (Below w.heap.size w w10):=zaa HB9.out hb10;clear hb10 HC9;go_wp2_with fail
 go_ret;exact⟨rfl,HB10.out⟩
end Go.Proofs.YtkedhjdipnhgdaaGreat
