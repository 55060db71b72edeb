import Derived.Test.YtkedhjdipnhgdaaGreatR14
import Derived.Test.YtkedhjdipnhgdaaGreatR08
namespace Go.Proofs.YtkedhjdipnhgdaaGreat
set_option maxHeartbeats 16000000
set_option linter.all false
open RowKit
attribute [local go_sem ↓] wp_at_zero wp_at_succ
def szV (a b c:Nat):Value:=.agg #[.int .i64 a,.int .i64 b,.int .i64 c]
def szC (a b c:Nat):Array Value:=#[.int .i64 a,.int .i64 b,.int .i64 c]
def zf3 (x:Ins):Array Value:=#[.int .i64 x.1,.int .i64 x.2.1,.int .i64 x.2.2.1,.int .i64 x.2.2.2.1,.int .i64 x.2.2.2.2.1,.bool x.2.2.2.2.2]
def tyA (x:Ty):Array Value:=#[.int .i64 x.1,.int .i64 x.2.1,.int .i64 x.2.2.1,.bool x.2.2.2]
theorem zan {w w0:World} {A B:Array Value} {s t:TypeId} (h:w0=(w.alloc (.cells A s)).alloc (.cells B t)) :
 Below w.heap.size w w0/\∀ W,Below w0.heap.size w0 W->At W w.heap.size A s/\At W (w.heap.size+1) B t:=by
 subst h;refine⟨zbN (zac _ _ _) _,λW hW=>⟨((At.made w A s).next _).later hW, ?_⟩⟩
 have:=(At.made (w.alloc (.cells A s)) B t).later hW;simpa using this
theorem zaD (i n:Int) (w:World) :
 Calls Tryz.prog 112 #[.int .i64 i,.int .i64 n] w λe w'=>e=.returned (.bool (decide (0<=i)&&decide (i<n)))/\w'=w:=by
 go_enter Tryz.func112,Tryz.ntmps112;go_wp2
 all_goals go_ret
 all_goals refine⟨zab ?_,rfl⟩
 all_goals (rw[Bool.eq_iff_iff];simp;try omega)
theorem zcq (i n:Int) (w:World) :
 Calls Tryz.prog 146 #[.int .i64 i,.int .i64 n] w λe w'=>e=.returned (.bool (zb7 i n))/\w'=w:=by
 go_enter Tryz.func146,Tryz.ntmps146;go_wp2
 all_goals go_ret
 all_goals refine⟨zab ?_,rfl⟩
 all_goals (unfold zb7;rw[Bool.eq_iff_iff];simp;try omega)
theorem zdv (a b c:Nat) (t:Ty) (w:World) :
 Calls Tryz.prog 187 #[szV a b c,tv t] w λe w'=>e=.returned (.bool (zcj a t))/\Below w.heap.size w w':=by
 obtain⟨k,i,d,r⟩:=t;have HB:Hid (Below w.heap.size w ((w.alloc (.cells (szC a b c) 117)).alloc (.cells #[.int .i64 k,.int .i64 i,.int .i64 d,.bool r] 47))):=zbN (zac _ _ _) _;unfold szV tv;by_cases h5:k=5
 ·subst h5;go_enter Tryz.func187,Tryz.ntmps187;go_wp2_with (go_at_call 112;refine (zaD _ _ _).mono ?_;rintro e wz ⟨rfl,hz⟩;subst wz)
  go_ret;exact⟨zab (by simp[zcj,zam]),HB.out⟩
 ·by_cases h6:k=6
  ·subst h6;go_enter Tryz.func187,Tryz.ntmps187;go_wp2_with (go_at_call 112;refine (zaD _ _ _).mono ?_;rintro e wz ⟨rfl,hz⟩;subst wz)
   go_ret;exact⟨zab (by simp[zcj,zam]),HB.out⟩
  ·have HO:Hid (zcj a (k,i,d,r)=true):=by show _=_;unfold zcj;rw[if_neg (by simp;omega)]
   have e5:(k==5)=false:=by simpa using h5
   have e6:(k==6)=false:=by simpa using h6
   go_enter Tryz.func187,Tryz.ntmps187;go_wp2;go_ret;exact⟨zab HO.out.symm,HB.out⟩
theorem zeE (x:Ins) (w:World) :
 Calls Tryz.prog 218 #[iv x] w λe w'=>e=.returned (.int .i64 (opP x.1))/\Below w.heap.size w w':=by
 obtain⟨w0,hw0⟩:∃ W,W=w.alloc (.cells (zf3 x) 65):=⟨_,rfl⟩;have HW0:Hid (w0=_):=hw0;have hb0:Below w.heap.size w w0:=by rw[hw0];exact zac _ _ _
 have HB0:Hid (Below w.heap.size w w0):=hb0;have hA:At w0 w.heap.size (zf3 x) 65:=by rw[hw0];exact At.made w _ _
 have HO:Hid (Calls Tryz.prog 66 #[.int .i64 x.1] w0 λe w'=>∃ s q z,e=.returned (.tuple #[.agg #[.string s,.int .i64 (opP x.1),.int .i64 q],.int .i64 z])/\Below w0.heap.size w0 w'):=by
  by_cases hin:1<=x.1/\x.1<=75
  ·exact (zsM x.1 hin.1 hin.2 w0).mono λe w' ⟨he,hb⟩=>⟨_,_,_,he,hb⟩
  ·refine (zso x.1 hin w0).mono λe w' ⟨he,hb⟩=>⟨⟨#[]⟩,0,3, ?_,hb⟩
   rw[he,zcy hin]
 have hc:=hA.cell;unfold zf3 at hc;unfold zf3 at HW0;clear hw0 hb0 hA;unfold iv;go_enter Tryz.func218,Tryz.ntmps218;go_wp2_with (rw[<- HW0.out])
 refine Calls.mono HO.out ?_;rintro e w1 ⟨s,q,z,rfl,hb1⟩;have HB1:Hid (Below w.heap.size w w1):=zaa HB0.out hb1;clear hb1 hc HO;go_wp2;go_ret;exact⟨rfl,zbN HB1.out _⟩
theorem zpz (a b c n:Nat) (x:Ins) (w:World) :
 Calls Tryz.prog 196 #[szV a b c,iv x,.int .i64 n] w λe w'=>e=.returned (.bool (ztc a b c n x))/\Below w.heap.size w w':=by
 obtain⟨w0,hw0⟩:∃ W,W=(w.alloc (.cells (szC a b c) 117)).alloc (.cells (zf3 x) 65):=⟨_,rfl⟩;have HW0:Hid (w0=_):=hw0;obtain⟨hb0,hat⟩:=zan hw0;have HB0:Hid (Below w.heap.size w w0):=hb0;have HAT:Hid (∀ W,Below w0.heap.size w0 W->At W w.heap.size (szC a b c) 117/\At W (w.heap.size+1) (zf3 x) 65):=hat;have HO:Hid (Calls Tryz.prog 218 #[.agg #[.int .i64 x.1,.int .i64 x.2.1,.int .i64 x.2.2.1,.int .i64 x.2.2.2.1,.int .i64 x.2.2.2.2.1,.bool x.2.2.2.2.2]] w0 λe w'=>e=.returned (.int .i64 (opP x.1))/\Below w0.heap.size w0 w'):=zeE x w0
 have hc:=(hat w0 (Below.refl _ _)).2.cell;unfold zf3 at hc;unfold zf3 szC at HW0;clear hw0 hb0 hat;have HH:Hid (ztc a b c n x=if opP x.1=5 then zam x.2.1 n else if opP x.1=6 then zam x.2.1 c else if opP x.1=7 then zam x.2.1 b else if opP x.1=8 then zcj a x.2.2 else true):=rfl
 unfold szV iv;go_enter Tryz.func196,Tryz.ntmps196;go_wp2_with (rw[<- HW0.out])
 refine Calls.mono HO.out ?_;rintro e w1 ⟨rfl,hb1⟩;obtain⟨hA1,hA2⟩:=HAT.out w1 hb1;have HB1:Hid (Below w.heap.size w w1):=zaa HB0.out hb1;have c1:=hA1.cell;have c2:=hA2.cell;unfold szC at c1;unfold zf3 at c2;clear hb1 hc HO hA1 hA2;generalize opP x.1=p at *;by_cases h5:p=5
 ·subst h5;go_wp2_with (go_at_call 112;refine (zaD _ _ _).mono ?_;rintro e wz ⟨rfl,hz⟩;subst wz)
  go_ret;exact⟨zab (by rw[HH.out];rfl),HB1.out⟩
 ·have e5:(p==5)=false:=by simpa using h5
  by_cases h6:p=6
  ·subst h6;go_wp2_with (go_at_call 112;refine (zaD _ _ _).mono ?_;rintro e wz ⟨rfl,hz⟩;subst wz)
   go_ret;exact⟨zab (by rw[HH.out];rfl),HB1.out⟩
  ·have e6:(p==6)=false:=by simpa using h6
   by_cases h7:p=7
   ·subst h7;go_wp2_with (go_at_call 112;refine (zaD _ _ _).mono ?_;rintro e wz ⟨rfl,hz⟩;subst wz)
    go_ret;exact⟨zab (by rw[HH.out];rfl),HB1.out⟩
   ·have e7:(p==7)=false:=by simpa using h7
    by_cases h8:p=8
    ·subst h8;have HKn:Hid (Calls Tryz.prog 187 #[.agg #[.int .i64 a,.int .i64 b,.int .i64 c],.agg #[.int .i64 x.2.2.1,.int .i64 x.2.2.2.1,.int .i64 x.2.2.2.2.1,.bool x.2.2.2.2.2]] w1 λe w'=>e=.returned (.bool (zcj a x.2.2))/\Below w1.heap.size w1 w'):=zdv a b c x.2.2 w1
     go_wp2_with fail
     refine Calls.mono HKn.out ?_;rintro e w2 ⟨rfl,hb2⟩;have HB2:Hid (Below w.heap.size w w2):=zaa HB1.out hb2;clear hb2 c1 c2;go_wp2;go_ret;exact⟨zab (by rw[HH.out];rfl),HB2.out⟩
    ·have e8:(p==8)=false:=by simpa using h8
     go_wp2;go_ret;exact⟨zab (by rw[HH.out,if_neg h5,if_neg h6,if_neg h7,if_neg h8]),HB1.out⟩
theorem zcl (a b c:Nat) (t:Ty) (w:World) :
 Calls Tryz.prog 150 #[szV a b c,tv t] w λe w'=>e=.returned (.bool (zrh a t))/\Below w.heap.size w w':=by
 obtain⟨w0,hw0⟩:∃ W,W=(w.alloc (.cells (szC a b c) 117)).alloc (.cells (tyA t) 47):=⟨_,rfl⟩;have HW0:Hid (w0=_):=hw0;obtain⟨hb0,hat⟩:=zan hw0;have HB0:Hid (Below w.heap.size w w0):=hb0;have HAT:Hid (∀ W,Below w0.heap.size w0 W->At W w.heap.size (szC a b c) 117/\At W (w.heap.size+1) (tyA t) 47):=hat;have hc:=(hat w0 (Below.refl _ _)).2.cell;have HF:Hid (zrh a t=(zbO 1 t.1 t.2.1 t.2.2.1 t.2.2.2&&zcj a t)):=rfl;unfold tyA at hc;unfold tyA szC at HW0;clear hw0 hb0 hat;unfold szV tv
 cases hm:zbO 1 t.1 t.2.1 t.2.2.1 t.2.2.2 with
 | false =>
  have HP:=zjL t.1 t.2.1 t.2.2.1 t.2.2.2 w0 hm;go_enter Tryz.func150,Tryz.ntmps150;go_wp2_with (rw[<- HW0.out])
  refine Calls.mono HP ?_;rintro e w1 ⟨rfl,hb1⟩;have HB1:Hid (Below w.heap.size w w1):=zaa HB0.out hb1;clear hb1 hc HP;go_wp2;go_ret;exact⟨zab (by rw[HF.out,hm];rfl),HB1.out⟩
 | true =>
  have HP:Hid (Calls Tryz.prog 186 #[.agg #[.int .i64 t.1,.int .i64 t.2.1,.int .i64 t.2.2.1,.bool t.2.2.2]] w0 λe w'=>∃ v,e=.returned (.tuple #[v,.int .i64 0])/\Below w0.heap.size w0 w'):=(zi6 t.1 t.2.1 t.2.2.1 t.2.2.2 w0 hm).mono λe w' ⟨v,he,_,hb⟩=>⟨v,he,hb⟩
  go_enter Tryz.func150,Tryz.ntmps150;go_wp2_with (rw[<- HW0.out])
  refine Calls.mono HP.out ?_;rintro e w1 ⟨v1,rfl,hb1⟩;have HB1:Hid (Below w.heap.size w w1):=zaa HB0.out hb1;obtain⟨hA1,hA2⟩:=HAT.out w1 hb1;have c1:=hA1.cell;have c2:=hA2.cell;unfold szC at c1;unfold tyA at c2;have HKn:Hid (Calls Tryz.prog 187 #[.agg #[.int .i64 a,.int .i64 b,.int .i64 c],.agg #[.int .i64 t.1,.int .i64 t.2.1,.int .i64 t.2.2.1,.bool t.2.2.2]] w1 λe w'=>e=.returned (.bool (zcj a t))/\Below w1.heap.size w1 w'):=zdv a b c t w1
  clear hb1 hc HP hA1 hA2;go_wp2_with fail
  refine Calls.mono HKn.out ?_;rintro e w2 ⟨rfl,hb2⟩;have HB2:Hid (Below w.heap.size w w2):=zaa HB1.out hb2;clear hb2 c1 c2;go_wp2;go_ret;exact⟨zab (by rw[HF.out,hm];rfl),HB2.out⟩
theorem zkn (a b c:Nat) (x:Cl) (w:World) :
 Calls Tryz.prog 199 #[szV a b c,clV x] w λe w'=>e=.returned (.bool (zgb a x))/\Below w.heap.size w w':=by
 obtain⟨k,tf,tt,hf,ht,fi,t0,t1,t2,t3⟩:=x;obtain⟨w0,hw0⟩:∃ W,W=(w.alloc (.cells (szC a b c) 117)).alloc (.cells (clC ⟨k,tf,tt,hf,ht,fi,t0,t1,t2,t3⟩).toArray 85):=⟨_,rfl⟩;have HW0:Hid (w0=_):=hw0;obtain⟨hb0,hat⟩:=zan hw0;have HB0:Hid (Below w.heap.size w w0):=hb0;obtain⟨hA1,hA2⟩:=hat w0 (Below.refl _ _);have c1:=hA1.cell;have c2:=hA2.cell;unfold szC at c1;unfold clC at c2;unfold szC clC at HW0;clear hw0 hb0 hat hA1 hA2;unfold szV clV;by_cases h1:k=1
 ·subst h1;have HFt:Hid (Calls Tryz.prog 150 #[.agg #[.int .i64 a,.int .i64 b,.int .i64 c],.agg #[.int .i64 t0,.int .i64 t1,.int .i64 t2,.bool t3]] w0 λe w'=>e=.returned (.bool (zrh a (t0,t1,t2,t3)))/\Below w0.heap.size w0 w'):=zcl a b c (t0,t1,t2,t3) w0
  go_enter Tryz.func199,Tryz.ntmps199;go_wp2_with (rw[<- HW0.out])
  refine Calls.mono HFt.out ?_;rintro e w1 ⟨rfl,hb1⟩;have HB1:Hid (Below w.heap.size w w1):=zaa HB0.out hb1;clear hb1 c1 c2;go_wp2;go_ret;exact⟨zab rfl,HB1.out⟩
 ·have e1:(k==1)=false:=by simpa using h1
  have hz:∀ W:World,(binOp .eql 47 (.agg #[.int .i64 t0,.int .i64 t1,.int .i64 t2,.bool t3]) (.agg #[.int .i64 0,.int .i64 0,.int .i64 0,.bool false])).run Tryz.prog W=.ok (.bool (t0==0&&t1==0&&t2==0&&t3==false)) W:=λW=>zoi W _ _ _ _ _ _ _ _
  have HR:Hid (zgb a ⟨k,tf,tt,hf,ht,fi,t0,t1,t2,t3⟩=(t0==0&&t1==0&&t2==0&&!t3)):=by show _=_;unfold zgb;rw[if_neg h1]
  go_enter Tryz.func199,Tryz.ntmps199;go_wp2_with (rw[<- HW0.out])
  go_ret;exact⟨zab HR.out.symm,HB0.out⟩
theorem zhu {b off cap:Nat} {l:List TD} {w:World} {f:FuncId} {bs cs:Array Value} {p:TD->Bool} (hb:b<w.heap.size) (hc:∀ i (hi:i<l.length),El tdE w b (off+i * 4) l[i]) (hl:l.length<=maxLen) (hf:Tells Tryz.prog tdV w f bs cs p l) :
 Calls Tryz.prog 183 #[.slice (some ⟨b,off,none⟩) l.length cap,.func (.func f) bs cs] w λe w' =>
  (∃ k:Int,e=.returned (.int .i64 k)/\(0<=k↔l.any p=true))/\Below w.heap.size w w':=by
 unfold maxLen at hl;have HC:Hid (∀ i (hi:i<l.length),El tdE w b (off+i * 4) l[i]):=hc;have HF:Hid (Tells Tryz.prog tdV w f bs cs p l):=hf;have hen:=hf.enter;clear hc hf;go_enter Tryz.func183,Tryz.ntmps183;go_wp2_with fail
 go_loopw [5,8] (λ_ z wr=>∃ q:Nat,q<=l.length/\z=.int .i64 q/\Below w.heap.size w wr/\(l.take q).any p=false) (λ_ z _=>l.length - (intOf z).toNat)
 case atStart=>exact⟨0,Nat.zero_le _,rfl,Below.refl _ _,by simp⟩
 case round =>
  obtain⟨q,hq,rfl,hB,hany⟩:=hrel;have HAn:Hid ((l.take q).any p=false):=hany;have hsz:=hB.size;clear hany;by_cases hql:q<l.length
  ·obtain⟨c0,c1,c2,c3⟩:=((HC.out q hql).below hB hb).cells_T;have HN:Hid (p l[q]=false->(l.take (q+1)).any p=false):=zaS hql HAn.out;have HY:Hid (p l[q]=true->l.any p=true):=λh=>List.any_eq_true.2 ⟨_,List.getElem_mem hql,h⟩
   have HL:Hid (Calls Tryz.prog f (bs.push (tdV l[q]) ++ cs) wr λe w'=>e=.returned (.bool (p l[q]))/\Below wr.heap.size wr w'):=HF.out.tells wr hB _ (List.getElem_mem hql)
   generalize l[q]=x at *;have HBL:Hid (Below w.heap.size w wr):=hB;clear hB
   cases hx:p x with
   | false =>
    have H1:Hid ((l.take (q+1)).any p=false):=HN.out hx;rw[hx]at HL;go_wp2_with fail
    refine Calls.mono HL.out ?_;rintro e w1 ⟨rfl,hb1⟩;have hB1:=zaa HBL.out hb1;clear hb1;go_wp2_with fail
    go_roundw
    case rel=>exact⟨q+1,by omega,by go_num,hB1,H1.out⟩
    case measure=>simp[intOf];omega
   | true =>
    have H1:Hid (l.any p=true):=HY.out hx;rw[hx]at HL;go_wp2_with fail
    refine Calls.mono HL.out ?_;rintro e w1 ⟨rfl,hb1⟩;have hB1:=zaa HBL.out hb1;clear hb1;go_wp2_with fail
    go_ret;exact⟨⟨_,rfl,⟨λ_=>H1.out,λ_=>by omega⟩⟩,hB1⟩
  ·have HF':Hid (l.any p=false):=by
    show _=_;have:=HAn.out
    rwa [List.take_of_length_le (by omega)]at this
   go_wp2;go_ret;exact⟨⟨_,rfl,⟨λh=>absurd h (by decide),λh=>absurd h (by rw[HF'.out];decide)⟩⟩,hB⟩
theorem zgP (a:Option Addr) (cap:Nat) (f:Value) (w:World) :
 Calls Tryz.prog 183 #[.slice a 0 cap,f] w λe w'=>e=.returned (.int .i64 (-1))/\w'=w:=by
 go_enter Tryz.func183,Tryz.ntmps183;go_wp2;refine wp_loop_rounds 1 ?_;rw[rounds_succ];go_wp2;go_ret;exact⟨rfl,rfl⟩
theorem zfa {v:Value} {l:List TD} {w:World} (hX:Es tdE w v l) {f:FuncId} {bs cs:Array Value} {p:TD->Bool} (hf:Tells Tryz.prog tdV w f bs cs p l) :
 Calls Tryz.prog 142 #[v,.func (.func f) bs cs] w λe w'=>e=.returned (.bool (l.any p))/\Below w.heap.size w w':=by
 have HI:Hid (Calls Tryz.prog 183 #[v,.func (.func f) bs cs] w λe w'=>(∃ k:Int,e=.returned (.int .i64 k)/\(0<=k↔l.any p=true))/\Below w.heap.size w w'):=by
  by_cases hne:l=[]
  ·subst hne;obtain⟨a,c,rfl,_,_⟩:=hX.shape;refine (zgP a c _ w).mono ?_;rintro e w' ⟨rfl,rfl⟩;exact⟨⟨_,rfl,⟨λh=>absurd h (by decide),λh=>by simp at h⟩⟩,Below.refl _ _⟩
  ·have hl:=hX.len;obtain⟨b,off,cap,rfl,h1,h2,hb,hc⟩:=hX.parts hne;exact zhu hb hc hl hf
 clear hX hf;go_enter Tryz.func142,Tryz.ntmps142;go_wp2_with fail
 refine Calls.mono HI.out ?_;rintro e w1 ⟨⟨k,rfl,hk⟩,hb1⟩;have HK:Hid (decide (0<=k)=l.any p):=by
  show _=_;rw[Bool.eq_iff_iff,decide_eq_true_iff];exact hk
 clear hk;go_wp2;go_ret;exact⟨zab HK.out,hb1⟩
theorem zj4 {x:TD} {g:Nat} {w:World} {f:FuncId} {bs cs:Array Value} {y:Bool} (hg:w.cell? ⟨g,0,none⟩=some (.func (.func f) bs cs)) (hlt:g<w.heap.size)
 (hen:∀ args W,(callFunc f args).run Tryz.prog W=.ok (.enter f args) W) (hc:∀ W,Below w.heap.size w W->Calls Tryz.prog f (bs.push (tdV x) ++ cs) W λe w'=>e=.returned (.bool y)/\Below W.heap.size W w') :
 Calls Tryz.prog 143 #[tdV x,.pointer (some ⟨g,0,none⟩)] w λe w'=>e=.returned (.bool (!y))/\Below w.heap.size w w':=by
 obtain⟨w0,hw0⟩:∃ W,W=w.alloc (.cells #[.string x.nm,.int .i64 x.fl,.int .i64 x.ex,.slice x.fa x.fs.length x.fc] 44):=⟨_,rfl⟩;have HW0:Hid (w0=_):=hw0;have hb0:Below w.heap.size w w0:=by rw[hw0];exact zac _ _ _
 have HB0:Hid (Below w.heap.size w w0):=hb0;have hA:At w0 w.heap.size #[.string x.nm,.int .i64 x.fl,.int .i64 x.ex,.slice x.fa x.fs.length x.fc] 44:=by rw[hw0];exact At.made w _ _
 have hg0:w0.cell? ⟨g,0,none⟩=some (.func (.func f) bs cs):=by rw[<- hg];exact hb0.cell (p:=⟨g,0,none⟩) hlt
 have HCL:Hid (Calls Tryz.prog f (bs.push (.agg #[.string x.nm,.int .i64 x.fl,.int .i64 x.ex,.slice x.fa x.fs.length x.fc]) ++ cs) w0 λe w'=>e=.returned (.bool y)/\Below w0.heap.size w0 w'):=hc w0 hb0
 have hcells:=hA.cell;clear hc hg hw0 hb0 hA;unfold tdV;go_enter Tryz.func143,Tryz.ntmps143;go_wp2_with (rw[<- HW0.out])
 refine Calls.mono HCL.out ?_;rintro e w1 ⟨rfl,hb1⟩;have HB1:Hid (Below w.heap.size w w1):=zaa HB0.out hb1;clear hb1 hcells;go_wp2;go_ret;exact⟨rfl,HB1.out⟩
theorem zmP {v:Value} {l:List TD} {w:World} (hX:Es tdE w v l) {f:FuncId} {bs cs:Array Value} {p:TD->Bool} (hf:Tells Tryz.prog tdV w f bs cs p l) :
 Calls Tryz.prog 102 #[v,.func (.func f) bs cs] w λe w'=>e=.returned (.bool (l.all p))/\Below w.heap.size w w':=by
 have HR:Hid (l.all p=!(l.any λx=>!p x)):=zbx p l
 obtain⟨w0,hw0⟩:∃ W,W=w.alloc (.cells #[.func (.func f) bs cs] 119):=⟨_,rfl⟩;have HW0:Hid (w0=_):=hw0;have hb0:Below w.heap.size w w0:=by rw[hw0];exact zac _ _ _
 have HB0:Hid (Below w.heap.size w w0):=hb0;have hA:At w0 w.heap.size #[.func (.func f) bs cs] 119:=by rw[hw0];exact At.made w _ _
 have HCo:Hid (Calls Tryz.prog 142 #[v,.func (.func 143) #[] #[.pointer (some ⟨w.heap.size,0,none⟩)]] w0 λe w'=>e=.returned (.bool (l.any λx=>!p x))/\Below w0.heap.size w0 w'):=by
  refine zfa (hX.later hb0) ⟨zah Tryz.func143 (by kernel_rfl) rfl,λW hW x hx=>?_⟩
  have hA1:=hA.later hW;have:=zj4 (x:=x) (w:=W) hA1.cell0 hA1.lt hf.enter (λW2 hW2=>hf.tells W2 (zaa (zaa hb0 hW) hW2) x hx)
  simpa using this
 obtain⟨sa,sc,hsv,_,_⟩:=hX.shape;clear hw0 hb0 hA hX hf;subst hsv;go_enter Tryz.func102,Tryz.ntmps102;go_wp2_with (rw[<- HW0.out])
 refine Calls.mono HCo.out ?_;rintro e w1 ⟨rfl,hb1⟩;have HB1:Hid (Below w.heap.size w w1):=zaa HB0.out hb1;clear hb1;go_wp2;go_ret;exact⟨zab HR.out.symm,HB1.out⟩
theorem zg3 {b off cap:Nat} {l:List FD} {w:World} {f:FuncId} {bs cs:Array Value} {p:FD->Bool} (hb:b<w.heap.size) (hc:∀ i (hi:i<l.length),El fdE w b (off+i * 7) l[i]) (hl:l.length<=maxLen) (hf:Tells Tryz.prog fdV w f bs cs p l) :
 Calls Tryz.prog 185 #[.slice (some ⟨b,off,none⟩) l.length cap,.func (.func f) bs cs] w λe w' =>
  (∃ k:Int,e=.returned (.int .i64 k)/\(0<=k↔l.any p=true))/\Below w.heap.size w w':=by
 unfold maxLen at hl;have HC:Hid (∀ i (hi:i<l.length),El fdE w b (off+i * 7) l[i]):=hc;have HF:Hid (Tells Tryz.prog fdV w f bs cs p l):=hf;have hen:=hf.enter;clear hc hf;go_enter Tryz.func185,Tryz.ntmps185;go_wp2_with fail
 go_loopw [5,8] (λ_ z wr=>∃ q:Nat,q<=l.length/\z=.int .i64 q/\Below w.heap.size w wr/\(l.take q).any p=false) (λ_ z _=>l.length - (intOf z).toNat)
 case atStart=>exact⟨0,Nat.zero_le _,rfl,Below.refl _ _,by simp⟩
 case round =>
  obtain⟨q,hq,rfl,hB,hany⟩:=hrel;have HAn:Hid ((l.take q).any p=false):=hany;have hsz:=hB.size;clear hany;by_cases hql:q<l.length
  ·obtain⟨c0,c1,c2,c3,c4,c5,c6⟩:=((HC.out q hql).below hB hb).cells_F;have HN:Hid (p l[q]=false->(l.take (q+1)).any p=false):=zaS hql HAn.out;have HY:Hid (p l[q]=true->l.any p=true):=λh=>List.any_eq_true.2 ⟨_,List.getElem_mem hql,h⟩
   have HL:Hid (Calls Tryz.prog f (bs.push (fdV l[q]) ++ cs) wr λe w'=>e=.returned (.bool (p l[q]))/\Below wr.heap.size wr w'):=HF.out.tells wr hB _ (List.getElem_mem hql)
   generalize l[q]=x at *;have HBL:Hid (Below w.heap.size w wr):=hB;clear hB
   cases hx:p x with
   | false =>
    have H1:Hid ((l.take (q+1)).any p=false):=HN.out hx;rw[hx]at HL;go_wp2_with fail
    refine Calls.mono HL.out ?_;rintro e w1 ⟨rfl,hb1⟩;have hB1:=zaa HBL.out hb1;clear hb1;go_wp2_with fail
    go_roundw
    case rel=>exact⟨q+1,by omega,by go_num,hB1,H1.out⟩
    case measure=>simp[intOf];omega
   | true =>
    have H1:Hid (l.any p=true):=HY.out hx;rw[hx]at HL;go_wp2_with fail
    refine Calls.mono HL.out ?_;rintro e w1 ⟨rfl,hb1⟩;have hB1:=zaa HBL.out hb1;clear hb1;go_wp2_with fail
    go_ret;exact⟨⟨_,rfl,⟨λ_=>H1.out,λ_=>by omega⟩⟩,hB1⟩
  ·have HF':Hid (l.any p=false):=by
    show _=_;have:=HAn.out
    rwa [List.take_of_length_le (by omega)]at this
   go_wp2;go_ret;exact⟨⟨_,rfl,⟨λh=>absurd h (by decide),λh=>absurd h (by rw[HF'.out];decide)⟩⟩,hB⟩
theorem zgY (a:Option Addr) (cap:Nat) (f:Value) (w:World) :
 Calls Tryz.prog 185 #[.slice a 0 cap,f] w λe w'=>e=.returned (.int .i64 (-1))/\w'=w:=by
 go_enter Tryz.func185,Tryz.ntmps185;go_wp2;refine wp_loop_rounds 1 ?_;rw[rounds_succ];go_wp2;go_ret;exact⟨rfl,rfl⟩
theorem zfo {v:Value} {l:List FD} {w:World} (hX:Es fdE w v l) {f:FuncId} {bs cs:Array Value} {p:FD->Bool} (hf:Tells Tryz.prog fdV w f bs cs p l) :
 Calls Tryz.prog 148 #[v,.func (.func f) bs cs] w λe w'=>e=.returned (.bool (l.any p))/\Below w.heap.size w w':=by
 have HI:Hid (Calls Tryz.prog 185 #[v,.func (.func f) bs cs] w λe w'=>(∃ k:Int,e=.returned (.int .i64 k)/\(0<=k↔l.any p=true))/\Below w.heap.size w w'):=by
  by_cases hne:l=[]
  ·subst hne;obtain⟨a,c,rfl,_,_⟩:=hX.shape;refine (zgY a c _ w).mono ?_;rintro e w' ⟨rfl,rfl⟩;exact⟨⟨_,rfl,⟨λh=>absurd h (by decide),λh=>by simp at h⟩⟩,Below.refl _ _⟩
  ·have hl:=hX.len;obtain⟨b,off,cap,rfl,h1,h2,hb,hc⟩:=hX.parts hne;exact zg3 hb hc hl hf
 clear hX hf;go_enter Tryz.func148,Tryz.ntmps148;go_wp2_with fail
 refine Calls.mono HI.out ?_;rintro e w1 ⟨⟨k,rfl,hk⟩,hb1⟩;have HK:Hid (decide (0<=k)=l.any p):=by
  show _=_;rw[Bool.eq_iff_iff,decide_eq_true_iff];exact hk
 clear hk;go_wp2;go_ret;exact⟨zab HK.out,hb1⟩
theorem zkq {x:FD} {g:Nat} {w:World} {f:FuncId} {bs cs:Array Value} {y:Bool} (hg:w.cell? ⟨g,0,none⟩=some (.func (.func f) bs cs)) (hlt:g<w.heap.size)
 (hen:∀ args W,(callFunc f args).run Tryz.prog W=.ok (.enter f args) W) (hc:∀ W,Below w.heap.size w W->Calls Tryz.prog f (bs.push (fdV x) ++ cs) W λe w'=>e=.returned (.bool y)/\Below W.heap.size W w') :
 Calls Tryz.prog 149 #[fdV x,.pointer (some ⟨g,0,none⟩)] w λe w'=>e=.returned (.bool (!y))/\Below w.heap.size w w':=by
 obtain⟨w0,hw0⟩:∃ W,W=w.alloc (.cells #[.string x.nm,.int .i64 x.ow,.int .i64 x.t.1,.int .i64 x.t.2.1,.int .i64 x.t.2.2.1,.bool x.t.2.2.2,.bool x.st] 62):=⟨_,rfl⟩;have HW0:Hid (w0=_):=hw0;have hb0:Below w.heap.size w w0:=by rw[hw0];exact zac _ _ _
 have HB0:Hid (Below w.heap.size w w0):=hb0;have hA:At w0 w.heap.size #[.string x.nm,.int .i64 x.ow,.int .i64 x.t.1,.int .i64 x.t.2.1,.int .i64 x.t.2.2.1,.bool x.t.2.2.2,.bool x.st] 62:=by rw[hw0];exact At.made w _ _
 have hg0:w0.cell? ⟨g,0,none⟩=some (.func (.func f) bs cs):=by rw[<- hg];exact hb0.cell (p:=⟨g,0,none⟩) hlt
 have HCL:Hid (Calls Tryz.prog f (bs.push (.agg #[.string x.nm,.int .i64 x.ow,.int .i64 x.t.1,.int .i64 x.t.2.1,.int .i64 x.t.2.2.1,.bool x.t.2.2.2,.bool x.st]) ++ cs) w0 λe w'=>e=.returned (.bool y)/\Below w0.heap.size w0 w'):=hc w0 hb0
 have hcells:=hA.cell;clear hc hg hw0 hb0 hA;unfold fdV;go_enter Tryz.func149,Tryz.ntmps149;go_wp2_with (rw[<- HW0.out])
 refine Calls.mono HCL.out ?_;rintro e w1 ⟨rfl,hb1⟩;have HB1:Hid (Below w.heap.size w w1):=zaa HB0.out hb1;clear hb1 hcells;go_wp2;go_ret;exact⟨rfl,HB1.out⟩
theorem zmM {v:Value} {l:List FD} {w:World} (hX:Es fdE w v l) {f:FuncId} {bs cs:Array Value} {p:FD->Bool} (hf:Tells Tryz.prog fdV w f bs cs p l) :
 Calls Tryz.prog 104 #[v,.func (.func f) bs cs] w λe w'=>e=.returned (.bool (l.all p))/\Below w.heap.size w w':=by
 have HR:Hid (l.all p=!(l.any λx=>!p x)):=zbx p l
 obtain⟨w0,hw0⟩:∃ W,W=w.alloc (.cells #[.func (.func f) bs cs] 121):=⟨_,rfl⟩;have HW0:Hid (w0=_):=hw0;have hb0:Below w.heap.size w w0:=by rw[hw0];exact zac _ _ _
 have HB0:Hid (Below w.heap.size w w0):=hb0;have hA:At w0 w.heap.size #[.func (.func f) bs cs] 121:=by rw[hw0];exact At.made w _ _
 have HCo:Hid (Calls Tryz.prog 148 #[v,.func (.func 149) #[] #[.pointer (some ⟨w.heap.size,0,none⟩)]] w0 λe w'=>e=.returned (.bool (l.any λx=>!p x))/\Below w0.heap.size w0 w'):=by
  refine zfo (hX.later hb0) ⟨zah Tryz.func149 (by kernel_rfl) rfl,λW hW x hx=>?_⟩
  have hA1:=hA.later hW;have:=zkq (x:=x) (w:=W) hA1.cell0 hA1.lt hf.enter (λW2 hW2=>hf.tells W2 (zaa (zaa hb0 hW) hW2) x hx)
  simpa using this
 obtain⟨sa,sc,hsv,_,_⟩:=hX.shape;clear hw0 hb0 hA hX hf;subst hsv;go_enter Tryz.func104,Tryz.ntmps104;go_wp2_with (rw[<- HW0.out])
 refine Calls.mono HCo.out ?_;rintro e w1 ⟨rfl,hb1⟩;have HB1:Hid (Below w.heap.size w w1):=zaa HB0.out hb1;clear hb1;go_wp2;go_ret;exact⟨zab HR.out.symm,HB1.out⟩
theorem zgM {b off cap:Nat} {l:List MD} {w:World} {f:FuncId} {bs cs:Array Value} {p:MD->Bool} (hb:b<w.heap.size) (hc:∀ i (hi:i<l.length),El mdE w b (off+i * 12) l[i]) (hl:l.length<=maxLen) (hf:Tells Tryz.prog mdV w f bs cs p l) :
 Calls Tryz.prog 188 #[.slice (some ⟨b,off,none⟩) l.length cap,.func (.func f) bs cs] w λe w' =>
  (∃ k:Int,e=.returned (.int .i64 k)/\(0<=k↔l.any p=true))/\Below w.heap.size w w':=by
 unfold maxLen at hl;have HC:Hid (∀ i (hi:i<l.length),El mdE w b (off+i * 12) l[i]):=hc;have HF:Hid (Tells Tryz.prog mdV w f bs cs p l):=hf;have hen:=hf.enter;clear hc hf;go_enter Tryz.func188,Tryz.ntmps188;go_wp2_with fail
 go_loopw [5,8] (λ_ z wr=>∃ q:Nat,q<=l.length/\z=.int .i64 q/\Below w.heap.size w wr/\(l.take q).any p=false) (λ_ z _=>l.length - (intOf z).toNat)
 case atStart=>exact⟨0,Nat.zero_le _,rfl,Below.refl _ _,by simp⟩
 case round =>
  obtain⟨q,hq,rfl,hB,hany⟩:=hrel;have HAn:Hid ((l.take q).any p=false):=hany;have hsz:=hB.size;clear hany;by_cases hql:q<l.length
  ·obtain⟨c0,c1,c2,c3,c4,c5,c6,c7,c8,c9,c10,c11⟩:=((HC.out q hql).below hB hb).cells_M;have HN:Hid (p l[q]=false->(l.take (q+1)).any p=false):=zaS hql HAn.out;have HY:Hid (p l[q]=true->l.any p=true):=λh=>List.any_eq_true.2 ⟨_,List.getElem_mem hql,h⟩
   have HL:Hid (Calls Tryz.prog f (bs.push (mdV l[q]) ++ cs) wr λe w'=>e=.returned (.bool (p l[q]))/\Below wr.heap.size wr w'):=HF.out.tells wr hB _ (List.getElem_mem hql)
   generalize l[q]=x at *;have HBL:Hid (Below w.heap.size w wr):=hB;clear hB
   cases hx:p x with
   | false =>
    have H1:Hid ((l.take (q+1)).any p=false):=HN.out hx;rw[hx]at HL;go_wp2_with fail
    refine Calls.mono HL.out ?_;rintro e w1 ⟨rfl,hb1⟩;have hB1:=zaa HBL.out hb1;clear hb1;go_wp2_with fail
    go_roundw
    case rel=>exact⟨q+1,by omega,by go_num,hB1,H1.out⟩
    case measure=>simp[intOf];omega
   | true =>
    have H1:Hid (l.any p=true):=HY.out hx;rw[hx]at HL;go_wp2_with fail
    refine Calls.mono HL.out ?_;rintro e w1 ⟨rfl,hb1⟩;have hB1:=zaa HBL.out hb1;clear hb1;go_wp2_with fail
    go_ret;exact⟨⟨_,rfl,⟨λ_=>H1.out,λ_=>by omega⟩⟩,hB1⟩
  ·have HF':Hid (l.any p=false):=by
    show _=_;have:=HAn.out
    rwa [List.take_of_length_le (by omega)]at this
   go_wp2;go_ret;exact⟨⟨_,rfl,⟨λh=>absurd h (by decide),λh=>absurd h (by rw[HF'.out];decide)⟩⟩,hB⟩
theorem zgN (a:Option Addr) (cap:Nat) (f:Value) (w:World) :
 Calls Tryz.prog 188 #[.slice a 0 cap,f] w λe w'=>e=.returned (.int .i64 (-1))/\w'=w:=by
 go_enter Tryz.func188,Tryz.ntmps188;go_wp2;refine wp_loop_rounds 1 ?_;rw[rounds_succ];go_wp2;go_ret;exact⟨rfl,rfl⟩
theorem ze2 {v:Value} {l:List MD} {w:World} (hX:Es mdE w v l) {f:FuncId} {bs cs:Array Value} {p:MD->Bool} (hf:Tells Tryz.prog mdV w f bs cs p l) :
 Calls Tryz.prog 152 #[v,.func (.func f) bs cs] w λe w'=>e=.returned (.bool (l.any p))/\Below w.heap.size w w':=by
 have HI:Hid (Calls Tryz.prog 188 #[v,.func (.func f) bs cs] w λe w'=>(∃ k:Int,e=.returned (.int .i64 k)/\(0<=k↔l.any p=true))/\Below w.heap.size w w'):=by
  by_cases hne:l=[]
  ·subst hne;obtain⟨a,c,rfl,_,_⟩:=hX.shape;refine (zgN a c _ w).mono ?_;rintro e w' ⟨rfl,rfl⟩;exact⟨⟨_,rfl,⟨λh=>absurd h (by decide),λh=>by simp at h⟩⟩,Below.refl _ _⟩
  ·have hl:=hX.len;obtain⟨b,off,cap,rfl,h1,h2,hb,hc⟩:=hX.parts hne;exact zgM hb hc hl hf
 clear hX hf;go_enter Tryz.func152,Tryz.ntmps152;go_wp2_with fail
 refine Calls.mono HI.out ?_;rintro e w1 ⟨⟨k,rfl,hk⟩,hb1⟩;have HK:Hid (decide (0<=k)=l.any p):=by
  show _=_;rw[Bool.eq_iff_iff,decide_eq_true_iff];exact hk
 clear hk;go_wp2;go_ret;exact⟨zab HK.out,hb1⟩
theorem zkX {x:MD} {g:Nat} {w:World} {f:FuncId} {bs cs:Array Value} {y:Bool} (hg:w.cell? ⟨g,0,none⟩=some (.func (.func f) bs cs)) (hlt:g<w.heap.size)
 (hen:∀ args W,(callFunc f args).run Tryz.prog W=.ok (.enter f args) W) (hc:∀ W,Below w.heap.size w W->Calls Tryz.prog f (bs.push (mdV x) ++ cs) W λe w'=>e=.returned (.bool y)/\Below W.heap.size W w') :
 Calls Tryz.prog 153 #[mdV x,.pointer (some ⟨g,0,none⟩)] w λe w'=>e=.returned (.bool (!y))/\Below w.heap.size w w':=by
 obtain⟨w0,hw0⟩:∃ W,W=w.alloc (.cells #[.string x.nm,.int .i64 x.ow,.int .i64 x.fl,.slice x.pa x.ps.length x.pc,.int .i64 x.rt.1,.int .i64 x.rt.2.1,.int .i64 x.rt.2.2.1,.bool x.rt.2.2.2,.slice x.la x.ls.length x.lc,.int .i64 x.mx,.slice x.ca x.co.length x.cc,.slice x.ka x.cl.length x.kc] 51):=⟨_,rfl⟩;have HW0:Hid (w0=_):=hw0;have hb0:Below w.heap.size w w0:=by rw[hw0];exact zac _ _ _
 have HB0:Hid (Below w.heap.size w w0):=hb0;have hA:At w0 w.heap.size #[.string x.nm,.int .i64 x.ow,.int .i64 x.fl,.slice x.pa x.ps.length x.pc,.int .i64 x.rt.1,.int .i64 x.rt.2.1,.int .i64 x.rt.2.2.1,.bool x.rt.2.2.2,.slice x.la x.ls.length x.lc,.int .i64 x.mx,.slice x.ca x.co.length x.cc,.slice x.ka x.cl.length x.kc] 51:=by rw[hw0];exact At.made w _ _
 have hg0:w0.cell? ⟨g,0,none⟩=some (.func (.func f) bs cs):=by rw[<- hg];exact hb0.cell (p:=⟨g,0,none⟩) hlt
 have HCL:Hid (Calls Tryz.prog f (bs.push (.agg #[.string x.nm,.int .i64 x.ow,.int .i64 x.fl,.slice x.pa x.ps.length x.pc,.int .i64 x.rt.1,.int .i64 x.rt.2.1,.int .i64 x.rt.2.2.1,.bool x.rt.2.2.2,.slice x.la x.ls.length x.lc,.int .i64 x.mx,.slice x.ca x.co.length x.cc,.slice x.ka x.cl.length x.kc]) ++ cs) w0 λe w'=>e=.returned (.bool y)/\Below w0.heap.size w0 w'):=hc w0 hb0
 have hcells:=hA.cell;clear hc hg hw0 hb0 hA;unfold mdV;go_enter Tryz.func153,Tryz.ntmps153;go_wp2_with (rw[<- HW0.out])
 refine Calls.mono HCL.out ?_;rintro e w1 ⟨rfl,hb1⟩;have HB1:Hid (Below w.heap.size w w1):=zaa HB0.out hb1;clear hb1 hcells;go_wp2;go_ret;exact⟨rfl,HB1.out⟩
theorem zmA {v:Value} {l:List MD} {w:World} (hX:Es mdE w v l) {f:FuncId} {bs cs:Array Value} {p:MD->Bool} (hf:Tells Tryz.prog mdV w f bs cs p l) :
 Calls Tryz.prog 108 #[v,.func (.func f) bs cs] w λe w'=>e=.returned (.bool (l.all p))/\Below w.heap.size w w':=by
 have HR:Hid (l.all p=!(l.any λx=>!p x)):=zbx p l
 obtain⟨w0,hw0⟩:∃ W,W=w.alloc (.cells #[.func (.func f) bs cs] 58):=⟨_,rfl⟩;have HW0:Hid (w0=_):=hw0;have hb0:Below w.heap.size w w0:=by rw[hw0];exact zac _ _ _
 have HB0:Hid (Below w.heap.size w w0):=hb0;have hA:At w0 w.heap.size #[.func (.func f) bs cs] 58:=by rw[hw0];exact At.made w _ _
 have HCo:Hid (Calls Tryz.prog 152 #[v,.func (.func 153) #[] #[.pointer (some ⟨w.heap.size,0,none⟩)]] w0 λe w'=>e=.returned (.bool (l.any λx=>!p x))/\Below w0.heap.size w0 w'):=by
  refine ze2 (hX.later hb0) ⟨zah Tryz.func153 (by kernel_rfl) rfl,λW hW x hx=>?_⟩
  have hA1:=hA.later hW;have:=zkX (x:=x) (w:=W) hA1.cell0 hA1.lt hf.enter (λW2 hW2=>hf.tells W2 (zaa (zaa hb0 hW) hW2) x hx)
  simpa using this
 obtain⟨sa,sc,hsv,_,_⟩:=hX.shape;clear hw0 hb0 hA hX hf;subst hsv;go_enter Tryz.func108,Tryz.ntmps108;go_wp2_with (rw[<- HW0.out])
 refine Calls.mono HCo.out ?_;rintro e w1 ⟨rfl,hb1⟩;have HB1:Hid (Below w.heap.size w w1):=zaa HB0.out hb1;clear hb1;go_wp2;go_ret;exact⟨zab HR.out.symm,HB1.out⟩
end Go.Proofs.YtkedhjdipnhgdaaGreat
