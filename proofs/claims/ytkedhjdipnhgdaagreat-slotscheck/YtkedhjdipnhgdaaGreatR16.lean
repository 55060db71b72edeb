import Derived.Test.YtkedhjdipnhgdaaGreatR15
import Derived.Test.YtkedhjdipnhgdaaGreatR13
import Derived.Test.YtkedhjdipnhgdaaGreatR09
namespace Go.Proofs.YtkedhjdipnhgdaaGreat
set_option maxHeartbeats 16000000
set_option linter.all false
open RowKit
attribute [local go_sem ↓] wp_at_zero wp_at_succ
def mdA (x:MD):Array Value:=#[.string x.nm,.int .i64 x.ow,.int .i64 x.fl,.slice x.pa x.ps.length x.pc,.int .i64 x.rt.1,.int .i64 x.rt.2.1,.int .i64 x.rt.2.2.1,.bool x.rt.2.2.2,.slice x.la x.ls.length x.lc,.int .i64 x.mx,.slice x.ca x.co.length x.cc,.slice x.ka x.cl.length x.kc]
def fdA (x:FD):Array Value:=#[.string x.nm,.int .i64 x.ow,.int .i64 x.t.1,.int .i64 x.t.2.1,.int .i64 x.t.2.2.1,.bool x.t.2.2.2,.bool x.st]
def tdA (x:TD):Array Value:=#[.string x.nm,.int .i64 x.fl,.int .i64 x.ex,.slice x.fa x.fs.length x.fc]
theorem zeP (a b c:Nat) (w:World) (l:List Ty):Tells Tryz.prog tv w 187 #[szV a b c] #[] (zcj a) l:=
 ⟨zah Tryz.func187 (by kernel_rfl) rfl,λW _ x _=>by simpa using zdv a b c x W⟩
theorem ze6 (n:Int):bits .and .i64 n 1=n % 2:=by
 have h1:(BitVec.ofInt 64 1).toNat=2 ^ 1 - 1:=by decide
 have key:(BitVec.ofInt 64 n &&& BitVec.ofInt 64 1).toNat=(n % ((2 ^ 64:Nat):Int)).toNat % 2:=by
  rw[BitVec.toNat_and,BitVec.toNat_ofInt,h1,Nat.and_two_pow_sub_one_eq_mod]
 have e:bits .and .i64 n 1=IntKind.i64.wrap ((BitVec.ofInt 64 n &&& BitVec.ofInt 64 1).toNat:Nat):=rfl;rw[e,key,IntKind.wrap_i64];omega
theorem zoW (x:MD) (w:World) :
 Calls Tryz.prog 190 #[mdV x] w λe w'=>e=.returned (.agg #[.bool (decide (x.fl % 2=0)),.slice x.pa x.ps.length x.pc,.int .i64 x.rt.1,.int .i64 x.rt.2.1,.int .i64 x.rt.2.2.1,.bool x.rt.2.2.2])/\Below w.heap.size w w':=by
 obtain⟨w0,hw0⟩:∃ W,W=(w.alloc (.cells (mdA x) 51)).alloc (.cells #[.bool false,.slice none 0 0,.int .i64 0,.int .i64 0,.int .i64 0,.bool false] 164):=⟨_,rfl⟩;have HW0:Hid (w0=_):=hw0;obtain⟨hb0,hat⟩:=zan hw0;obtain⟨hA1,hA2⟩:=hat w0 (Below.refl _ _);have c1:=hA1.cell;have c2:=hA2.cell;have m2:=hA2.melt;have ha:=ze6 x.fl;have hd:(x.fl % 2==0)=decide (x.fl % 2=0):=by rw[Bool.eq_iff_iff];simp
 have HF:=(hA2.set6 (.bool (decide (x.fl % 2=0))) (.slice x.pa x.ps.length x.pc) (.int .i64 x.rt.1) (.int .i64 x.rt.2.1) (.int .i64 x.rt.2.2.1) (.bool x.rt.2.2.2)).cell;have HB:=znj hb0 (Nat.le_succ w.heap.size) (.bool (decide (x.fl % 2=0))) (.slice x.pa x.ps.length x.pc) (.int .i64 x.rt.1) (.int .i64 x.rt.2.1) (.int .i64 x.rt.2.2.1) (.bool x.rt.2.2.2);unfold mdA at c1 HW0;clear hw0 hb0 hat hA1 hA2;unfold mdV;go_enter Tryz.func190,Tryz.ntmps190;go_wp2_with (rw[<- HW0.out])
 exact bodyPost_ret (v:=.agg #[.bool (decide (x.fl % 2=0)),.slice x.pa x.ps.length x.pc,.int .i64 x.rt.1,.int .i64 x.rt.2.1,.int .i64 x.rt.2.2.1,.bool x.rt.2.2.2]) (by simp[results,Tryz.results190,go_sem,HF]) rfl ⟨rfl,HB⟩
theorem znz (a b c:Nat) (x:MD) {w:World} (hx:x.ok w) :
 Calls Tryz.prog 154 #[szV a b c,mdV x] w λe w'=>e=.returned (.bool (decide (zdS x.ps x.rt=0)&&zcj a x.rt&&x.ps.all (zcj a)))/\Below w.heap.size w w':=by
 obtain⟨w0,hw0⟩:∃ W,W=(w.alloc (.cells (szC a b c) 117)).alloc (.cells (mdA x) 51):=⟨_,rfl⟩;have HW0:Hid (w0=_):=hw0;obtain⟨hb0,hat⟩:=zan hw0;have HB0:Hid (Below w.heap.size w w0):=hb0;have HAT:Hid (∀ W,Below w0.heap.size w0 W->At W w.heap.size (szC a b c) 117/\At W (w.heap.size+1) (mdA x) 51):=hat;have HX:Hid (∀ W,Below w.heap.size w W->Es tyE W (.slice x.pa x.ps.length x.pc) x.ps):=λW hW=>hx.ps.later hW
 obtain⟨hA1,hA2⟩:=hat w0 (Below.refl _ _);have c1:=hA1.cell;have c2:=hA2.cell;have HS:Hid (Calls Tryz.prog 190 #[.agg (mdA x)] w0 λe w'=>e=.returned (.agg #[.bool (decide (x.fl % 2=0)),.slice x.pa x.ps.length x.pc,.int .i64 x.rt.1,.int .i64 x.rt.2.1,.int .i64 x.rt.2.2.1,.bool x.rt.2.2.2])/\Below w0.heap.size w0 w'):=zoW x w0
 unfold mdA at c2 HW0 HS;unfold szC at c1 HW0;clear hw0 hb0 hat hA1 hA2 hx;unfold mdV szV;go_enter Tryz.func154,Tryz.ntmps154;go_wp2_with (rw[<- HW0.out])
 refine Calls.mono HS.out ?_;rintro e w1 ⟨rfl,hb1⟩;have HB1:Hid (Below w0.heap.size w0 w1):=hb1;have HPS:Hid (Calls Tryz.prog 189 #[.agg #[.bool (decide (x.fl % 2=0)),.slice x.pa x.ps.length x.pc,.int .i64 x.rt.1,.int .i64 x.rt.2.1,.int .i64 x.rt.2.2.1,.bool x.rt.2.2.2]] w1 λe w'=>∃ v,e=.returned (.tuple #[v,.int .i64 (zdS x.ps x.rt:Int)])/\Below w1.heap.size w1 w'):=by
  refine (znb (HX.out w1 (zaa HB0.out hb1)).toTs (decide (x.fl % 2=0)) x.rt.1 x.rt.2.1 x.rt.2.2.1 x.rt.2.2.2).mono ?_;rintro e w' ⟨h1,h2,h3⟩;by_cases he:zdS x.ps x.rt=0
  ·obtain⟨v',rfl,_⟩:=h1 he;exact⟨v',by rw[he];rfl,h3⟩
  ·exact⟨_,h2 he,h3⟩
 clear hb1 c1 c2 HS;go_wp2_with fail
 refine Calls.mono HPS.out ?_;rintro e w2 ⟨v2,rfl,hb2⟩;have HB2:Hid (Below w0.heap.size w0 w2):=zaa HB1.out hb2;obtain⟨hA1,hA2⟩:=HAT.out w2 HB2.out;have c1:=hA1.cell;have c2:=hA2.cell;unfold mdA at c2;unfold szC at c1;clear hb2 hA1 hA2 HPS;obtain⟨E,hE⟩:∃ E,E=zdS x.ps x.rt:=⟨_,rfl⟩;have HE:Hid (decide (zdS x.ps x.rt=0)=decide (E=0)):=by show _=_;rw[hE]
 rw[<- hE];by_cases h0:E=0
 ·subst h0;have HKn:Hid (Calls Tryz.prog 187 #[.agg #[.int .i64 a,.int .i64 b,.int .i64 c],.agg #[.int .i64 x.rt.1,.int .i64 x.rt.2.1,.int .i64 x.rt.2.2.1,.bool x.rt.2.2.2]] w2 λe w'=>e=.returned (.bool (zcj a x.rt))/\Below w2.heap.size w2 w'):=zdv a b c x.rt w2
  clear hE;go_wp2_with fail
  refine Calls.mono HKn.out ?_;rintro e w3 ⟨rfl,hb3⟩;have HB3:Hid (Below w0.heap.size w0 w3):=zaa HB2.out hb3;obtain⟨hA1,hA2⟩:=HAT.out w3 HB3.out;have d1:=hA1.cell;have d2:=hA2.cell;unfold mdA at d2;unfold szC at d1;clear hb3 hA1 hA2 HKn c1 c2
  cases hk:zcj a x.rt with
  | false =>
   go_wp2;go_ret;exact⟨zab (by rw[HE.out,hk];simp),zaa HB0.out HB3.out⟩
  | true =>
   have HAl:Hid (Calls Tryz.prog 191 #[.slice x.pa x.ps.length x.pc,.func (.func 187) #[.agg #[.int .i64 a,.int .i64 b,.int .i64 c]] #[]] w3 λe w'=>e=.returned (.bool (x.ps.all (zcj a)))/\Below w3.heap.size w3 w'):=zf5 (HX.out w3 (zaa HB0.out HB3.out)) (zeP a b c w3 x.ps)
   go_wp2_with fail
   refine Calls.mono HAl.out ?_;rintro e w4 ⟨rfl,hb4⟩;have HB4:Hid (Below w0.heap.size w0 w4):=zaa HB3.out hb4;clear hb4 d1 d2 HAl;go_wp2;go_ret;exact⟨zab (by rw[HE.out,hk];simp),zaa HB0.out HB4.out⟩
 ·have e0:((E:Int)==0)=false:=by simp;omega
  have hd:decide (E=0)=false:=by simpa using h0
  clear hE;go_wp2;go_ret;exact⟨zab (by rw[HE.out,hd];rfl),zaa HB0.out HB2.out⟩
theorem zh8 (a b c:Nat) {v:Value} {l:List Ty} {w:World} (hl:Es tyE w v l) :
 Calls Tryz.prog 155 #[szV a b c,v] w λe w'=>e=.returned (.bool (decide (zfr l=0)&&l.all (zcj a)))/\Below w.heap.size w w':=by
 obtain⟨w0,hw0⟩:∃ W,W=w.alloc (.cells (szC a b c) 117):=⟨_,rfl⟩;have HW0:Hid (w0=_):=hw0;have hb0:Below w.heap.size w w0:=by rw[hw0];exact zac _ _ _
 have hA:At w0 w.heap.size (szC a b c) 117:=by rw[hw0];exact At.made w _ _
 have HB0:Hid (Below w.heap.size w w0):=hb0;have HAT:Hid (∀ W,Below w0.heap.size w0 W->At W w.heap.size (szC a b c) 117):=λW hW=>hA.later hW
 have HX:Hid (∀ W,Below w.heap.size w W->Es tyE W v l):=λW hW=>hl.later hW
 obtain⟨va,vc,hv,_,_⟩:=hl.shape;subst hv;have HPS:Hid (Calls Tryz.prog 192 #[.slice va l.length vc] w0 λe w'=>∃ v,e=.returned (.tuple #[v,.int .i64 (zfr l:Int)])/\Below w0.heap.size w0 w'):=by
  refine (zg1 (HX.out w0 hb0).toTs).mono ?_;rintro e w' ⟨h1,h2,h3⟩;by_cases he:zfr l=0
  ·obtain⟨v',rfl,_⟩:=h1 he;exact⟨v',by rw[he];rfl,h3⟩
  ·exact⟨_,h2 he,h3⟩
 unfold szC at HW0;clear hw0 hb0 hA hl;unfold szV;go_enter Tryz.func155,Tryz.ntmps155;go_wp2_with (rw[<- HW0.out])
 refine Calls.mono HPS.out ?_;rintro e w2 ⟨v2,rfl,hb2⟩;have HB2:Hid (Below w0.heap.size w0 w2):=hb2;have hA1:=HAT.out w2 HB2.out;have c1:=hA1.cell;unfold szC at c1;clear hb2 hA1 HPS;obtain⟨E,hE⟩:∃ E,E=zfr l:=⟨_,rfl⟩;have HE:Hid (decide (zfr l=0)=decide (E=0)):=by show _=_;rw[hE]
 rw[<- hE];by_cases h0:E=0
 ·subst h0;have HAl:Hid (Calls Tryz.prog 191 #[.slice va l.length vc,.func (.func 187) #[.agg #[.int .i64 a,.int .i64 b,.int .i64 c]] #[]] w2 λe w'=>e=.returned (.bool (l.all (zcj a)))/\Below w2.heap.size w2 w'):=zf5 (HX.out w2 (zaa HB0.out HB2.out)) (zeP a b c w2 l)
  clear hE;go_wp2_with fail
  refine Calls.mono HAl.out ?_;rintro e w4 ⟨rfl,hb4⟩;have HB4:Hid (Below w0.heap.size w0 w4):=zaa HB2.out hb4;clear hb4 c1 HAl;go_wp2;go_ret;exact⟨zab (by rw[HE.out];simp),zaa HB0.out HB4.out⟩
 ·have e0:((E:Int)==0)=false:=by simp;omega
  have hd:decide (E=0)=false:=by simpa using h0
  clear hE;go_wp2;go_ret;exact⟨zab (by rw[HE.out,hd];rfl),zaa HB0.out HB2.out⟩
theorem zjj (a b c n:Nat) (x:Ins) {w:World} {gs gl:Nat} {ca:Option Addr} {cc:Nat} (hs:At w gs (szC a b c) 117) (hl:At w gl #[.slice ca n cc] 48) :
 Calls Tryz.prog 194 #[iv x,.pointer (some ⟨gs,0,none⟩),.pointer (some ⟨gl,0,none⟩)] w λe w'=>e=.returned (.bool (zfz a b c n x))/\Below w.heap.size w w':=by
 obtain⟨w0,hw0⟩:∃ W,W=w.alloc (.cells (zf3 x) 65):=⟨_,rfl⟩;have HW0:Hid (w0=_):=hw0;have hb0:Below w.heap.size w w0:=by rw[hw0];exact zac _ _ _
 have HB0:Hid (Below w.heap.size w w0):=hb0;have hA:At w0 w.heap.size (zf3 x) 65:=by rw[hw0];exact At.made w _ _
 have HAT:Hid (∀ W,Below w0.heap.size w0 W->At W w.heap.size (zf3 x) 65/\At W gs (szC a b c) 117/\At W gl #[.slice ca n cc] 48):=λW hW=>⟨hA.later hW,hs.later (zaa hb0 hW),hl.later (zaa hb0 hW)⟩
 have HF:Hid (zfz a b c n x=(decide (zge x.1 x.2.1 x.2.2.1 x.2.2.2.1 x.2.2.2.2.1 x.2.2.2.2.2=0)&&ztc a b c n x)):=rfl;have HFi:Hid (Calls Tryz.prog 195 #[.agg #[.int .i64 x.1,.int .i64 x.2.1,.int .i64 x.2.2.1,.int .i64 x.2.2.2.1,.int .i64 x.2.2.2.2.1,.bool x.2.2.2.2.2]] w0 λe w'=>e=.returned (.int .i64 (zge x.1 x.2.1 x.2.2.1 x.2.2.2.1 x.2.2.2.2.1 x.2.2.2.2.2))/\Below w0.heap.size w0 w'):=zpY _ _ _ _ _ _ w0
 have hc:=hA.cell;unfold zf3 at hc HW0;clear hw0 hb0 hA hs hl;unfold iv;go_enter Tryz.func194,Tryz.ntmps194;go_wp2_with (rw[<- HW0.out])
 refine Calls.mono HFi.out ?_;rintro e w1 ⟨rfl,hb1⟩;obtain⟨hA1,hA2,hA3⟩:=HAT.out w1 hb1;have HB1:Hid (Below w0.heap.size w0 w1):=hb1;have c1:=hA1.cell;have c2:=hA2.cell;have c3:=hA3.cell0;unfold zf3 at c1;unfold szC at c2;clear hb1 hc HFi hA1 hA2 hA3;generalize zge x.1 x.2.1 x.2.2.1 x.2.2.2.1 x.2.2.2.2.1 x.2.2.2.2.2=E at *;by_cases h0:E=0
 ·subst h0;have HH:Hid (Calls Tryz.prog 196 #[.agg #[.int .i64 a,.int .i64 b,.int .i64 c],.agg #[.int .i64 x.1,.int .i64 x.2.1,.int .i64 x.2.2.1,.int .i64 x.2.2.2.1,.int .i64 x.2.2.2.2.1,.bool x.2.2.2.2.2],.int .i64 n] w1 λe w'=>e=.returned (.bool (ztc a b c n x))/\Below w1.heap.size w1 w'):=zpz a b c n x w1
  go_wp2_with fail
  refine Calls.mono HH.out ?_;rintro e w2 ⟨rfl,hb2⟩;have HB2:Hid (Below w0.heap.size w0 w2):=zaa HB1.out hb2;clear hb2 c1 c2 c3 HH;go_wp2;go_ret;exact⟨zab (by rw[HF.out];rfl),zaa HB0.out HB2.out⟩
 ·have e0:(E==0)=false:=by simpa using h0
  have hd:decide (E=0)=false:=by simpa using h0
  go_wp2;go_ret;exact⟨zab (by rw[HF.out,hd];rfl),zaa HB0.out HB1.out⟩
theorem zm1 (a b c:Nat) {v:Value} {l:List Ins} {w:World} (hl:Es zcv w v l) :
 Calls Tryz.prog 156 #[szV a b c,v] w λe w'=>e=.returned (.bool (decide (l.length<=160)&&l.all (zfz a b c l.length)))/\Below w.heap.size w w':=by
 obtain⟨va,vc,hv,_,hvm⟩:=hl.shape;have hlm:=hl.len;unfold maxLen at hlm;subst hv;obtain⟨w0,hw0⟩:∃ W,W=(w.alloc (.cells (szC a b c) 117)).alloc (.cells #[.slice va l.length vc] 48):=⟨_,rfl⟩;have HW0:Hid (w0=_):=hw0;obtain⟨hb0,hat⟩:=zan hw0;have HB0:Hid (Below w.heap.size w w0):=hb0;have HAT:Hid (∀ W,Below w0.heap.size w0 W->At W w.heap.size (szC a b c) 117/\At W (w.heap.size+1) #[.slice va l.length vc] 48):=hat;have HAl:Hid (Calls Tryz.prog 193 #[.slice va l.length vc,.func (.func 194) #[] #[.pointer (some ⟨w.heap.size,0,none⟩),.pointer (some ⟨w.heap.size+1,0,none⟩)]] w0 λe w'=>e=.returned (.bool (l.all (zfz a b c l.length)))/\Below w0.heap.size w0 w'):=by
  refine zmX (hl.later hb0) ⟨zah Tryz.func194 (by kernel_rfl) rfl,λW hW x _=>?_⟩
  obtain⟨q1,q2⟩:=hat W hW;simpa using zjj a b c l.length x q1 q2
 obtain⟨hA1,hA2⟩:=hat w0 (Below.refl _ _);have c2:=hA2.cell0;unfold szC at HW0;clear hw0 hb0 hat hA1 hA2 hl hvm;unfold szV;by_cases h:l.length<=160
 ·have h':(l.length:Int)<=160:=by omega
  go_enter Tryz.func156,Tryz.ntmps156;go_wp2_with (rw[<- HW0.out])
  refine Calls.mono HAl.out ?_;rintro e w1 ⟨rfl,hb1⟩;have HB1:Hid (Below w0.heap.size w0 w1):=hb1;clear hb1 c2 HAl;have hd:decide (l.length<=160)=true:=by simpa using h
  go_wp2;go_ret;exact⟨zab (by rw[hd];rfl),zaa HB0.out HB1.out⟩
 ·have h':¬ (l.length:Int)<=160:=by omega
  have hd:decide (l.length<=160)=false:=by simpa using h
  go_enter Tryz.func156,Tryz.ntmps156;go_wp2_with (rw[<- HW0.out])
  go_ret;exact⟨zab (by first | rfl | (rw[hd];rfl)),HB0.out⟩
def mB (p n:Nat) (t:Ty):Bool:=za9 p t&&zcj n t
def zgV (n:Nat) (t:Ty):Bool:=(decide (t.1≠5)&&decide (t.1≠6))||decide (t.2.1<n)
theorem zo4 {p n:Nat} {t:Ty} (hp:p=1∨p=2∨p=3) (h:za9 p t=true):zgV n t=zcj n t:=by
 have hpl:zaB t.1 t.2.1 t.2.2.1 t.2.2.2=true:=by
  unfold za9 zbO at h
  rcases hp with rfl | rfl | rfl
  ·rw[if_pos rfl]at h;simp only[Bool.and_eq_true]at h;exact h.1.1
  ·rw[if_neg (by decide),if_pos rfl]at h;simp only[Bool.and_eq_true]at h;exact h.1
  ·rw[if_neg (by decide),if_neg (by decide),if_pos rfl]at h;simp only[Bool.and_eq_true]at h;exact h.1
 have h0:0<=t.2.1:=(zc3 hpl).2.2.1;unfold zgV zcj zam;rw[Bool.eq_iff_iff];by_cases h5:t.1=5∨t.1=6
 ·rw[if_pos h5];simp;omega
 ·rw[if_neg h5];simp;omega
theorem zxQ {p n:Nat} {t:Ty} (hp:p=1∨p=2∨p=3):(za9 p t&&zgV n t)=mB p n t:=by
 unfold mB
 cases h:za9 p t with
 | false=>simp
 | true=>rw[zo4 hp h]
theorem zfZ (t:Ty) (n:Nat) (w:World) :
 Calls Tryz.prog 205 #[tv t,.int .i64 n] w λe w'=>e=.returned (.bool (zgV n t))/\Below w.heap.size w w':=by
 obtain⟨k,i,d,r⟩:=t;unfold tv;go_enter Tryz.func205,Tryz.ntmps205;go_wp2
 all_goals go_ret
 all_goals refine⟨zab ?_,(Below.refl _ _).alloc (Nat.le_refl _) _⟩
 all_goals try simp only[bne_iff_ne,ne_eq,bne_eq_false_iff_eq,beq_iff_eq,beq_eq_false_iff_ne]at *
 all_goals (unfold zgV;rw[Bool.eq_iff_iff];simp[*])
theorem zb4 {p:Nat} (hp:p=1∨p=2∨p=3) (t:Ty) (n:Nat) (w:World) :
 Calls Tryz.prog 179 #[tv t,.int .i64 p,.int .i64 n] w λe w'=>e=.returned (.bool (mB p n t))/\Below w.heap.size w w':=by
 have HE:Hid ((za9 p t&&zgV n t)=mB p n t):=zxQ hp;obtain⟨k,i,d,r⟩:=t;obtain⟨w0,hw0⟩:∃ W,W=w.alloc (.cells #[.int .i64 k,.int .i64 i,.int .i64 d,.bool r] 47):=⟨_,rfl⟩;have HW0:Hid (w0=_):=hw0;have hb0:Below w.heap.size w w0:=by rw[hw0];exact zac _ _ _
 have HB0:Hid (Below w.heap.size w w0):=hb0;have hA:At w0 w.heap.size #[.int .i64 k,.int .i64 i,.int .i64 d,.bool r] 47:=by rw[hw0];exact At.made w _ _
 have HA:Hid (∀ W,Below w0.heap.size w0 W->At W w.heap.size #[.int .i64 k,.int .i64 i,.int .i64 d,.bool r] 47):=λW hW=>hA.later hW
 have HWh:Hid (Calls Tryz.prog 204 #[.agg #[.int .i64 k,.int .i64 i,.int .i64 d,.bool r],.int .i64 p] w0 λe w'=>e=.returned (.bool (zbO p k i d r))/\Below w0.heap.size w0 w'):=by
  rcases hp with rfl | rfl | rfl
  ·exact zgg k i d r w0
  ·exact zmy k i d r w0
  ·exact zmQ k i d r w0
 have hc:=hA.cell;clear hw0 hb0 hA hp;unfold tv;go_enter Tryz.func179,Tryz.ntmps179;go_wp2_with (rw[<- HW0.out])
 refine Calls.mono HWh.out ?_;rintro e w1 ⟨rfl,hb1⟩;have HB1:Hid (Below w0.heap.size w0 w1):=hb1;have c1:=(HA.out w1 hb1).cell;clear hb1 hc HWh
 cases hm:zbO p k i d r with
 | false =>
  go_wp2_with fail
  go_ret;exact⟨zab (by rw[<- HE.out];unfold za9;rw[hm];rfl),zaa HB0.out HB1.out⟩
 | true =>
  have HO:Hid (Calls Tryz.prog 205 #[.agg #[.int .i64 k,.int .i64 i,.int .i64 d,.bool r],.int .i64 n] w1 λe w'=>e=.returned (.bool (zgV n (k,i,d,r)))/\Below w1.heap.size w1 w'):=zfZ (k,i,d,r) n w1
  go_wp2_with fail
  refine Calls.mono HO.out ?_;rintro e w2 ⟨rfl,hb2⟩;have HB2:Hid (Below w0.heap.size w0 w2):=zaa HB1.out hb2;clear hb2 c1 HO;go_wp2;go_ret;exact⟨zab (by rw[<- HE.out];unfold za9;rw[hm];rfl),zaa HB0.out HB2.out⟩
theorem zjr (op:Int) (w:World) :
 Calls Tryz.prog 48 #[.int .i64 op] w λe w'=>∃ s q z,e=.returned (.tuple #[.agg #[.string s,.int .i64 (opP op),.int .i64 q],.int .i64 z])/\Below w.heap.size w w':=by
 by_cases hin:1<=op/\op<=75
 ·exact (zgw op hin.1 hin.2 w).mono λe w' ⟨he,hb⟩=>⟨_,_,_,he,hb⟩
 ·refine (zij op hin w).mono λe w' ⟨he,hb⟩=>⟨⟨#[]⟩,0,3, ?_,hb⟩
  rw[he,zcy hin]
theorem zgW (a b c:Nat) (w:World) (l:List Cl):Tells Tryz.prog clV w 199 #[szV a b c] #[] (zgb a) l:=
 ⟨zah Tryz.func199 (by kernel_rfl) rfl,λW _ x _=>by simpa using zkn a b c x W⟩
theorem zgT (a b c:Nat) (x:MD) {w:World} (hx:x.ok w) :
 Calls Tryz.prog 157 #[szV a b c,mdV x] w λe w'=>e=.returned (.bool (zjA x.co.length x.cl&&x.cl.all (zgb a)))/\Below w.heap.size w w':=by
 obtain⟨w0,hw0⟩:∃ W,W=(w.alloc (.cells (szC a b c) 117)).alloc (.cells (mdA x) 51):=⟨_,rfl⟩;have HW0:Hid (w0=_):=hw0;obtain⟨hb0,hat⟩:=zan hw0;have HB0:Hid (Below w.heap.size w w0):=hb0;have HAT:Hid (∀ W,Below w0.heap.size w0 W->At W w.heap.size (szC a b c) 117/\At W (w.heap.size+1) (mdA x) 51):=hat;have HX:Hid (∀ W,Below w.heap.size w W->Es zci W (.slice x.ka x.cl.length x.kc) x.cl):=λW hW=>hx.cl.later hW
 obtain⟨hA1,hA2⟩:=hat w0 (Below.refl _ _);have c2:=hA2.cell;have hcm:=hx.co.len;have HC:Hid (Calls Tryz.prog 197 #[.int .i64 x.co.length,.slice x.ka x.cl.length x.kc] w0 λe w'=>∃ i y,e=.returned (.tuple #[.int .i64 i,.int .i64 y])/\decide (y=0)=zjA x.co.length x.cl/\Below w0.heap.size w0 w'):=by
  refine (znO (x.co.length:Int) (HX.out w0 hb0)).mono ?_;rintro e w' ⟨i,y,rfl,h1,h2⟩;exact⟨i,y,rfl,by unfold zjA;rw[decide_eq_decide];exact zk8 h1,h2⟩
 unfold mdA at c2 HW0;unfold szC at HW0;clear hw0 hb0 hat hA1 hA2 hx;unfold mdV szV;go_enter Tryz.func157,Tryz.ntmps157;go_wp2_with (rw[<- HW0.out])
 refine Calls.mono HC.out ?_;rintro e w1 ⟨i,y,rfl,hy,hb1⟩;have HB1:Hid (Below w0.heap.size w0 w1):=hb1;have HY:Hid (decide (y=0)=zjA x.co.length x.cl):=hy;obtain⟨hA1,hA2⟩:=HAT.out w1 hb1;have c1:=hA1.cell;have d2:=hA2.cell;unfold szC at c1;unfold mdA at d2;clear hb1 hy c2 hA1 hA2 HC;by_cases h0:y=0
 ·subst h0;have HAl:Hid (Calls Tryz.prog 198 #[.slice x.ka x.cl.length x.kc,.func (.func 199) #[.agg #[.int .i64 a,.int .i64 b,.int .i64 c]] #[]] w1 λe w'=>e=.returned (.bool (x.cl.all (zgb a)))/\Below w1.heap.size w1 w'):=zm4 (HX.out w1 (zaa HB0.out HB1.out)) (zgW a b c w1 x.cl)
  go_wp2_with fail
  refine Calls.mono HAl.out ?_;rintro e w2 ⟨rfl,hb2⟩;have HB2:Hid (Below w0.heap.size w0 w2):=zaa HB1.out hb2;clear hb2 c1 d2 HAl;go_wp2;go_ret;exact⟨zab (by rw[<- HY.out];simp),zaa HB0.out HB2.out⟩
 ·have e0:(y==0)=false:=by simpa using h0
  have hd:decide (y=0)=false:=by simpa using h0
  go_wp2;go_ret;exact⟨zab (by rw[<- HY.out,hd];rfl),zaa HB0.out HB1.out⟩
theorem zmx (a b c:Nat) (x:Int) {w:World} {gs:Nat} (hs:At w gs (szC a b c) 117) :
 Calls Tryz.prog 144 #[zew x,.pointer (some ⟨gs,0,none⟩)] w λe w'=>e=.returned (.bool (zam x a))/\Below w.heap.size w w':=by
 have c1:=hs.cell;unfold szC at c1;clear hs;unfold zew;go_enter Tryz.func144,Tryz.ntmps144;go_wp2_with (go_at_call 112;refine (zaD _ _ _).mono ?_;rintro e wz ⟨rfl,hz⟩;subst wz)
 go_ret;exact⟨zab rfl,Below.refl _ _⟩
theorem zmC (a b c:Nat) (x:TD) {w:World} (hx:x.ok w) :
 Calls Tryz.prog 103 #[szV a b c,tdV x] w λe w'=>e=.returned (.bool (tdB a x))/\Below w.heap.size w w':=by
 obtain⟨w0,hw0⟩:∃ W,W=(w.alloc (.cells (szC a b c) 117)).alloc (.cells (tdA x) 44):=⟨_,rfl⟩;have HW0:Hid (w0=_):=hw0;obtain⟨hb0,hat⟩:=zan hw0;have HB0:Hid (Below w.heap.size w w0):=hb0;have hlm:=hx.len;unfold maxLen at hlm;have HAl:Hid (Calls Tryz.prog 147 #[.slice x.fa x.fs.length x.fc,.func (.func 144) #[] #[.pointer (some ⟨w.heap.size,0,none⟩)]] w0 λe w'=>e=.returned (.bool (x.fs.all (λi=>zam i a)))/\Below w0.heap.size w0 w'):=by
  refine zmO (hx.later hb0) ⟨zah Tryz.func144 (by kernel_rfl) rfl,λW hW y _=>?_⟩
  simpa using zmx a b c y (hat W hW).1
 obtain⟨hA1,hA2⟩:=hat w0 (Below.refl _ _);have c1:=hA1.cell;have c2:=hA2.cell;have HF:Hid (tdB a x=(zaP x.nm.data.toList&&zb7 x.fl 31&&(decide (x.ex = -1)||(decide (0<=x.ex)&&decide (x.ex<a)))&&decide (x.fs.length<=4)&&x.fs.all (λi=>zam i a))):=rfl
 unfold tdA at c2 HW0;unfold szC at c1 HW0;clear hw0 hb0 hat hA1 hA2 hx;unfold tdV szV;go_enter Tryz.func103,Tryz.ntmps103;go_wp2_with (rw[<- HW0.out])
 refine (zhk _ _).mono ?_;rintro e wz ⟨rfl,hz⟩;subst wz
 cases hfi:zaP x.nm.data.toList with
 | false =>
  go_wp2_with fail
  go_ret;exact⟨zab (by rw[HF.out,hfi];simp),HB0.out⟩
 | true =>
  go_wp2_with fail
  refine (zcq _ _ _).mono ?_;rintro e wz ⟨rfl,hz⟩;subst wz
  cases hwi:zb7 x.fl 31 with
  | false =>
   go_wp2_with fail
   go_ret;exact⟨zab (by rw[HF.out,hwi];simp),HB0.out⟩
  | true =>
   have HX:Hid (∀ r:Bool,r=(decide (x.ex = -1)||(decide (0<=x.ex)&&decide (x.ex<a)))->tdB a x=(r&&decide (x.fs.length<=4)&&x.fs.all (λi=>zam i a))):=λr hr=>by rw[HF.out,hfi,hwi,<- hr];simp
   clear hfi hwi HF;by_cases h1:x.ex = -1
   ·have HXt:Hid (tdB a x=(decide (x.fs.length<=4)&&x.fs.all (λi=>zam i a))):=by show _=_;rw[HX.out true (by simp[h1])];simp
    by_cases h4:x.fs.length<=4
    ·have h4':(x.fs.length:Int)<=4:=by omega
     have hd:decide (x.fs.length<=4)=true:=by simpa using h4
     go_wp2_with fail
     refine Calls.mono HAl.out ?_;rintro e w1 ⟨rfl,hb1⟩;have HB1:Hid (Below w0.heap.size w0 w1):=hb1;clear hb1 c1 c2 HAl;go_wp2;go_ret;exact⟨zab (by rw[HXt.out,hd];simp),zaa HB0.out HB1.out⟩
    ·have h4':¬ (x.fs.length:Int)<=4:=by omega
     have hd:decide (x.fs.length<=4)=false:=by simpa using h4
     go_wp2_with fail
     go_ret;exact⟨zab (by rw[HXt.out,hd];simp),HB0.out⟩
   ·have e1:(x.ex == -1)=false:=by simpa using h1
    go_wp2_with fail
    refine (zaD _ _ _).mono ?_;rintro e wz ⟨rfl,hz⟩;subst wz
    cases hnu:(decide (0<=x.ex)&&decide (x.ex<a)) with
    | false =>
     have HXt:Hid (tdB a x=false):=by show _=_;rw[HX.out false (by rw[hnu];simp[h1])];simp
     go_wp2_with fail
     go_ret;exact⟨zab HXt.out.symm,HB0.out⟩
    | true =>
     have HXt:Hid (tdB a x=(decide (x.fs.length<=4)&&x.fs.all (λi=>zam i a))):=by show _=_;rw[HX.out true (by rw[hnu];simp)];simp
     by_cases h4:x.fs.length<=4
     ·have h4':(x.fs.length:Int)<=4:=by omega
      have hd:decide (x.fs.length<=4)=true:=by simpa using h4
      go_wp2_with fail
      refine Calls.mono HAl.out ?_;rintro e w1 ⟨rfl,hb1⟩;have HB1:Hid (Below w0.heap.size w0 w1):=hb1;clear hb1 c1 c2 HAl;go_wp2;go_ret;exact⟨zab (by rw[HXt.out,hd];simp),zaa HB0.out HB1.out⟩
     ·have h4':¬ (x.fs.length:Int)<=4:=by omega
      have hd:decide (x.fs.length<=4)=false:=by simpa using h4
      go_wp2_with fail
      go_ret;exact⟨zab (by rw[HXt.out,hd];simp),HB0.out⟩
theorem zgt (a b c:Nat) (x:FD) (w:World) :
 Calls Tryz.prog 105 #[szV a b c,fdV x] w λe w'=>e=.returned (.bool (fdB a x))/\Below w.heap.size w w':=by
 obtain⟨w0,hw0⟩:∃ W,W=(w.alloc (.cells (szC a b c) 117)).alloc (.cells (fdA x) 62):=⟨_,rfl⟩;have HW0:Hid (w0=_):=hw0;obtain⟨hb0,hat⟩:=zan hw0;have HB0:Hid (Below w.heap.size w w0):=hb0;have HFt:Hid (Calls Tryz.prog 150 #[.agg #[.int .i64 a,.int .i64 b,.int .i64 c],.agg #[.int .i64 x.t.1,.int .i64 x.t.2.1,.int .i64 x.t.2.2.1,.bool x.t.2.2.2]] w0 λe w'=>e=.returned (.bool (zrh a x.t))/\Below w0.heap.size w0 w'):=zcl a b c x.t w0
 obtain⟨hA1,hA2⟩:=hat w0 (Below.refl _ _);have c1:=hA1.cell;have c2:=hA2.cell;have HF:Hid (fdB a x=(zaP x.nm.data.toList&&(decide (0<=x.ow)&&decide (x.ow<a))&&zrh a x.t)):=rfl;unfold fdA at c2 HW0;unfold szC at c1 HW0;clear hw0 hb0 hat hA1 hA2;unfold fdV szV;go_enter Tryz.func105,Tryz.ntmps105;go_wp2_with (rw[<- HW0.out])
 refine (zhk _ _).mono ?_;rintro e wz ⟨rfl,hz⟩;subst wz
 cases hfi:zaP x.nm.data.toList with
 | false =>
  go_wp2_with fail
  go_ret;exact⟨zab (by rw[HF.out,hfi];simp),HB0.out⟩
 | true =>
  go_wp2_with fail
  refine (zaD _ _ _).mono ?_;rintro e wz ⟨rfl,hz⟩;subst wz
  cases hnu:(decide (0<=x.ow)&&decide (x.ow<a)) with
  | false =>
   go_wp2_with fail
   go_ret;exact⟨zab (by rw[HF.out,hnu];simp),HB0.out⟩
  | true =>
   go_wp2_with fail
   refine Calls.mono HFt.out ?_;rintro e w1 ⟨rfl,hb1⟩;have HB1:Hid (Below w0.heap.size w0 w1):=hb1;clear hb1 c1 c2 HFt;go_wp2;go_ret;exact⟨zab (by rw[HF.out,hfi,hnu];simp),zaa HB0.out HB1.out⟩
theorem zh5 (a b c:Nat) (x:MD) {w:World} (hx:x.ok w) :
 Calls Tryz.prog 109 #[szV a b c,mdV x] w λe w'=>e=.returned (.bool (mdB a b c x))/\Below w.heap.size w w':=by
 obtain⟨w0,hw0⟩:∃ W,W=(w.alloc (.cells (szC a b c) 117)).alloc (.cells (mdA x) 51):=⟨_,rfl⟩;have HW0:Hid (w0=_):=hw0;obtain⟨hb0,hat⟩:=zan hw0;have HB0:Hid (Below w.heap.size w w0):=hb0;have HAT:Hid (∀ W,Below w0.heap.size w0 W->At W w.heap.size (szC a b c) 117/\At W (w.heap.size+1) (mdA x) 51):=hat;have HX:Hid (∀ W,Below w.heap.size w W->x.ok W):=λW hW=>hx.later hW
 obtain⟨hA1,hA2⟩:=hat w0 (Below.refl _ _);have c1:=hA1.cell;have c2:=hA2.cell;obtain⟨rS,hS⟩:∃ r,r=(decide (zdS x.ps x.rt=0)&&zcj a x.rt&&x.ps.all (zcj a)):=⟨_,rfl⟩;obtain⟨rL,hL⟩:∃ r,r=(decide (zfr x.ls=0)&&x.ls.all (zcj a)):=⟨_,rfl⟩;obtain⟨rC,hC⟩:∃ r,r=(decide (x.co.length<=160)&&x.co.all (zfz a b c x.co.length)):=⟨_,rfl⟩;obtain⟨rK,hK⟩:∃ r,r=(zjA x.co.length x.cl&&x.cl.all (zgb a)):=⟨_,rfl⟩;have HF:Hid (mdB a b c x=(zaP x.nm.data.toList&&(decide (0<=x.ow)&&decide (x.ow<a))&&zb7 x.fl 31&&zb7 x.mx 12&&rS&&rL&&rC&&rK)):=by show _=_;rw[hS,hL,hC,hK];rfl
 have HS:Hid (∀ W,Below w0.heap.size w0 W->Calls Tryz.prog 154 #[.agg #[.int .i64 a,.int .i64 b,.int .i64 c],.agg (mdA x)] W λe w'=>e=.returned (.bool rS)/\Below W.heap.size W w'):=λW hW=>by rw[hS];exact znz a b c x (hx.later (zaa hb0 hW))
 have HL:Hid (∀ W,Below w0.heap.size w0 W->Calls Tryz.prog 155 #[.agg #[.int .i64 a,.int .i64 b,.int .i64 c],.slice x.la x.ls.length x.lc] W λe w'=>e=.returned (.bool rL)/\Below W.heap.size W w'):=λW hW=>by rw[hL];exact zh8 a b c (hx.later (zaa hb0 hW)).ls
 have HC:Hid (∀ W,Below w0.heap.size w0 W->Calls Tryz.prog 156 #[.agg #[.int .i64 a,.int .i64 b,.int .i64 c],.slice x.ca x.co.length x.cc] W λe w'=>e=.returned (.bool rC)/\Below W.heap.size W w'):=λW hW=>by rw[hC];exact zm1 a b c (hx.later (zaa hb0 hW)).co
 have HK:Hid (∀ W,Below w0.heap.size w0 W->Calls Tryz.prog 157 #[.agg #[.int .i64 a,.int .i64 b,.int .i64 c],.agg (mdA x)] W λe w'=>e=.returned (.bool rK)/\Below W.heap.size W w'):=λW hW=>by rw[hK];exact zgT a b c x (hx.later (zaa hb0 hW))
 unfold mdA at c2 HW0 HS HK;unfold szC at c1 HW0;clear hw0 hb0 hat hA1 hA2 hx hS hL hC hK;unfold mdV szV;go_enter Tryz.func109,Tryz.ntmps109;go_wp2_with (rw[<- HW0.out])
 refine (zhk _ _).mono ?_;rintro e wz ⟨rfl,hz⟩;subst wz
 cases hfi:zaP x.nm.data.toList with
 | false =>
  go_wp2_with fail
  go_ret;exact⟨zab (by rw[HF.out,hfi];simp),HB0.out⟩
 | true =>
  go_wp2_with fail
  refine (zaD _ _ _).mono ?_;rintro e wz ⟨rfl,hz⟩;subst wz
  cases hnu:(decide (0<=x.ow)&&decide (x.ow<a)) with
  | false =>
   go_wp2_with fail
   go_ret;exact⟨zab (by rw[HF.out,hnu];simp),HB0.out⟩
  | true =>
   go_wp2_with fail
   refine (zcq _ _ _).mono ?_;rintro e wz ⟨rfl,hz⟩;subst wz
   cases hwi:zb7 x.fl 31 with
   | false =>
    go_wp2_with fail
    go_ret;exact⟨zab (by rw[HF.out,hwi];simp),HB0.out⟩
   | true =>
    go_wp2_with fail
    refine (zcq _ _ _).mono ?_;rintro e wz ⟨rfl,hz⟩;subst wz
    cases hwx:zb7 x.mx 12 with
    | false =>
     go_wp2_with fail
     go_ret;exact⟨zab (by rw[HF.out,hwx];simp),HB0.out⟩
    | true =>
     have HG:Hid (mdB a b c x=(rS&&rL&&rC&&rK)):=by show _=_;rw[HF.out,hfi,hnu,hwi,hwx];simp
     have HS0:=HS.out w0 (Below.refl _ _);clear hfi hnu hwi hwx HF;go_wp2_with fail
     refine Calls.mono HS0 ?_;rintro e w1 ⟨rfl,hb1⟩;have HB1:Hid (Below w0.heap.size w0 w1):=hb1;clear HS0 c1 c2;obtain⟨hA1,hA2⟩:=HAT.out w1 hb1;have c1:=hA1.cell;have c2:=hA2.cell;unfold mdA at c2;unfold szC at c1;clear hA1 hA2 hb1
     cases rS with
     | false =>
      go_wp2_with fail
      go_ret;exact⟨zab (by rw[HG.out];simp),zaa HB0.out HB1.out⟩
     | true =>
      have HL1:=HL.out w1 HB1.out;go_wp2_with fail
      refine Calls.mono HL1 ?_;rintro e w2 ⟨rfl,hb2⟩;have HB2:Hid (Below w0.heap.size w0 w2):=zaa HB1.out hb2;clear HL1 c1 c2 hb2;obtain⟨hA1,hA2⟩:=HAT.out w2 HB2.out;have c1:=hA1.cell;have c2:=hA2.cell;unfold mdA at c2;unfold szC at c1;clear hA1 hA2
      cases rL with
      | false =>
       go_wp2_with fail
       go_ret;exact⟨zab (by rw[HG.out];simp),zaa HB0.out HB2.out⟩
      | true =>
       have HC2:=HC.out w2 HB2.out;go_wp2_with fail
       refine Calls.mono HC2 ?_;rintro e w3 ⟨rfl,hb3⟩;have HB3:Hid (Below w0.heap.size w0 w3):=zaa HB2.out hb3;clear HC2 c1 c2 hb3;obtain⟨hA1,hA2⟩:=HAT.out w3 HB3.out;have c1:=hA1.cell;have c2:=hA2.cell;unfold mdA at c2;unfold szC at c1;clear hA1 hA2
       cases rC with
       | false =>
        go_wp2_with fail
        go_ret;exact⟨zab (by rw[HG.out];simp),zaa HB0.out HB3.out⟩
       | true =>
        have HK3:=HK.out w3 HB3.out;go_wp2_with fail
        refine Calls.mono HK3 ?_;rintro e w4 ⟨rfl,hb4⟩;have HB4:Hid (Below w0.heap.size w0 w4):=zaa HB3.out hb4;clear HK3 c1 c2 hb4;go_wp2;go_ret;exact⟨zab (by rw[HG.out];simp),zaa HB0.out HB4.out⟩
theorem zen (x y:FD) (w:World) :
 Calls Tryz.prog 107 #[fdV x,fdV y] w λe w'=>e=.returned (.int .i64 (zlP x.ow y.ow))/\Below w.heap.size w w':=by
 obtain⟨w0,hw0⟩:∃ W,W=(w.alloc (.cells (fdA x) 62)).alloc (.cells (fdA y) 62):=⟨_,rfl⟩;have HW0:Hid (w0=_):=hw0;obtain⟨hb0,hat⟩:=zan hw0;have HB0:Hid (Below w.heap.size w w0):=hb0;obtain⟨hA1,hA2⟩:=hat w0 (Below.refl _ _);have c1:=hA1.cell;have c2:=hA2.cell;unfold fdA at c1 c2 HW0;clear hw0 hb0 hat hA1 hA2;unfold fdV;go_enter Tryz.func107,Tryz.ntmps107;go_wp2_with (rw[<- HW0.out])
 refine (zd9 _ _ _).mono ?_;rintro e wz ⟨rfl,hz⟩;subst wz;go_wp2;go_ret;exact⟨rfl,HB0.out⟩
theorem zdK (x y:MD) (w:World) :
 Calls Tryz.prog 111 #[mdV x,mdV y] w λe w'=>e=.returned (.int .i64 (zlP x.ow y.ow))/\Below w.heap.size w w':=by
 obtain⟨w0,hw0⟩:∃ W,W=(w.alloc (.cells (mdA x) 51)).alloc (.cells (mdA y) 51):=⟨_,rfl⟩;have HW0:Hid (w0=_):=hw0;obtain⟨hb0,hat⟩:=zan hw0;have HB0:Hid (Below w.heap.size w w0):=hb0;obtain⟨hA1,hA2⟩:=hat w0 (Below.refl _ _);have c1:=hA1.cell;have c2:=hA2.cell;unfold mdA at c1 c2 HW0;clear hw0 hb0 hat hA1 hA2;unfold mdV;go_enter Tryz.func111,Tryz.ntmps111;go_wp2_with (rw[<- HW0.out])
 refine (zd9 _ _ _).mono ?_;rintro e wz ⟨rfl,hz⟩;subst wz;go_wp2;go_ret;exact⟨rfl,HB0.out⟩
theorem zbw {α:Type} {p:α->Bool} {l:List α} {q:Nat} (hq:q<l.length) (h:(l.take q).all p=true) (hx:p l[q]=true):(l.take (q+1)).all p=true:=by
 rw[List.take_succ_eq_append_getElem hq,List.all_append,h];simpa using hx
theorem zdr {α:Type} {p:α->Bool} {l:List α} {q:Nat} (hq:q<l.length) (hx:p l[q]=false):l.all p=false:=by
 rw[List.all_eq_false];exact⟨_,List.getElem_mem hq,by rw[hx];decide⟩
theorem zbQ {α:Type} {p:α->Bool} {l:List α} {q:Nat} (hq:¬ q<l.length) (h:(l.take q).all p=true):l.all p=true:=by
 rwa [List.take_of_length_le (by omega)]at h
theorem Es.at {α:Type} {E:Enc α} {w:World} {a:Option Addr} {c:Nat} {l:List α} (h:Es E w (.slice a l.length c) l) {q:Nat} (hq:q<l.length) :
 ∃ b off,a=some ⟨b,off,none⟩/\b<w.heap.size/\l.length<=c/\c<=maxLen/\∀ i (hi:i<l.length),El E w b (off+i * E.size) l[i]:=by
 obtain⟨b,off,cap,hv,h1,h2,hb,hc⟩:=h.parts (by intro e;rw[e]at hq;simp at hq)
 simp only[Value.slice.injEq]at hv;obtain⟨rfl,_,rfl⟩:=hv;exact⟨b,off,rfl,hb,h1,h2,hc⟩
theorem zdI (n:Nat) (x:TD) {w:World} (hx:x.ok w) (hnm:x.nm.size<=maxLen) :
 Calls Tryz.prog 177 #[tdV x,.int .i64 n] w λe w'=>e=.returned (.bool (tdB n x))/\Below w.heap.size w w':=by
 obtain⟨w0,hw0⟩:∃ W,W=w.alloc (.cells (tdA x) 44):=⟨_,rfl⟩;have HW0:Hid (w0=_):=hw0;have hb0:Below w.heap.size w w0:=by rw[hw0];exact zac _ _ _
 have HB0:Hid (Below w.heap.size w w0):=hb0;have hA:At w0 w.heap.size (tdA x) 44:=by rw[hw0];exact At.made w _ _
 have HX:Hid (Es zch w0 (.slice x.fa x.fs.length x.fc) x.fs):=hx.later hb0;have hlm:=hx.len;unfold maxLen at hlm;have c1:=hA.cell;have HF:Hid (tdB n x=(zaP x.nm.data.toList&&zb7 x.fl 31&&(decide (x.ex = -1)||zam x.ex n)&&decide (x.fs.length<=4)&&x.fs.all (λi=>zam i n))):=rfl
 have HR:Hid (Calls Tryz.prog 178 #[.string x.nm] w0 λe w'=>e=.returned (.bool (zaP x.nm.data.toList))/\w'=w0):=zdc x.nm hnm w0
 unfold tdA at c1 HW0;clear hw0 hb0 hA hx hnm;unfold tdV;go_enter Tryz.func177,Tryz.ntmps177;go_wp2_with (rw[<- HW0.out])
 refine Calls.mono HR.out ?_;rintro e wz ⟨rfl,hz⟩;subst wz
 cases hfi:zaP x.nm.data.toList with
 | false =>
  go_wp2_with fail
  go_ret;exact⟨zab (by rw[HF.out,hfi];simp),HB0.out⟩
 | true =>
 by_cases h1:x.fl<0
 ·have hq:zb7 x.fl 31=false:=by unfold zb7;simp;omega
  go_wp2_with fail
  go_ret;exact⟨zab (by rw[HF.out,hq];simp),HB0.out⟩
 by_cases h2:31<x.fl
 ·have hq:zb7 x.fl 31=false:=by unfold zb7;simp;omega
  go_wp2_with fail
  go_ret;exact⟨zab (by rw[HF.out,hq];simp),HB0.out⟩
 have hw:zb7 x.fl 31=true:=by unfold zb7;simp;omega
 by_cases h3:x.ex < -1
 ·have hq:(decide (x.ex = -1)||zam x.ex n)=false:=by unfold zam;simp;omega
  go_wp2_with fail
  go_ret;exact⟨zab (by rw[HF.out,hq];simp),HB0.out⟩
 by_cases h4:(n:Int)<=x.ex
 ·have hq:(decide (x.ex = -1)||zam x.ex n)=false:=by unfold zam;simp;omega
  go_wp2_with fail
  go_ret;exact⟨zab (by rw[HF.out,hq];simp),HB0.out⟩
 have he:(decide (x.ex = -1)||zam x.ex n)=true:=by unfold zam;simp;omega
 by_cases h5:4<x.fs.length
 ·have h5':(4:Int)<(x.fs.length:Int):=by omega
  have hq:decide (x.fs.length<=4)=false:=by simp;omega
  go_wp2_with fail
  go_ret;exact⟨zab (by rw[HF.out,hq];simp),HB0.out⟩
 have h5':¬ (4:Int)<(x.fs.length:Int):=by omega
 have HG:Hid (tdB n x=x.fs.all (λi=>zam i n)):=by
  show _=_;rw[HF.out,hfi,hw,he,decide_eq_true (show x.fs.length<=4 by omega)];simp
 clear hfi hw he HF;go_wp2_with fail
 go_loopw [5] (λz wr=>∃ q:Nat,q<=x.fs.length/\z=.int .i64 q/\wr=w0/\Hid ((x.fs.take q).all (λi=>zam i n)=true)) (λz _=>x.fs.length - (intOf z).toNat)
 case atStart=>exact⟨0,Nat.zero_le _,rfl,rfl,by show _=_;simp⟩
 case round =>
  obtain⟨q,hq,rfl,rfl,HA⟩:=hrel;by_cases hql:q<x.fs.length
  ·obtain⟨b,off,hfa,hb,h6,h7,hc⟩:=HX.out.at hql;have cq:=(hc q hql).cells_N;have HY:Hid (zam x.fs[q] n=true->(x.fs.take (q+1)).all (λi=>zam i n)=true):=λh=>zbw hql HA.out h
   have HN:Hid (zam x.fs[q] n=false->x.fs.all (λi=>zam i n)=false):=λh=>zdr (p:=λi=>zam i n) hql h
   generalize x.fs[q]=y at *;unfold maxLen at h7;rw[hfa]at c1;clear hc;by_cases g1:y<0
   ·have hN:=HN.out (by unfold zam;simp;omega)
    go_wp2_with fail
    go_ret;exact⟨zab (by rw[HG.out,hN]),HB0.out⟩
   by_cases g2:(n:Int)<=y
   ·have hN:=HN.out (by unfold zam;simp;omega)
    go_wp2_with fail
    go_ret;exact⟨zab (by rw[HG.out,hN]),HB0.out⟩
   have HY2:Hid ((x.fs.take (q+1)).all (λi=>zam i n)=true):=HY.out (by unfold zam;simp;omega)
   clear HY HN;go_wp2_with fail
   go_roundw
   case rel=>exact⟨q+1,by omega,by go_num,by simp,HY2.out⟩
   case measure=>simp[intOf];omega
  ·have HD:Hid (x.fs.all (λi=>zam i n)=true):=zbQ (p:=λi=>zam i n) hql HA.out
   go_wp2_with fail
   go_ret;exact⟨zab (by rw[HG.out,HD.out]),HB0.out⟩
end Go.Proofs.YtkedhjdipnhgdaaGreat
