import Derived.Test.YtkedhjdipnhgdaaGreatR12
import Derived.Test.YtkedhjdipnhgdaaGreatR07
namespace Go.Proofs.YtkedhjdipnhgdaaGreat
set_option maxHeartbeats 16000000
set_option linter.all false
open RowKit
attribute [local go_sem ↓] wp_at_zero wp_at_succ
def imC (g:Img):Array Value:=#[.slice g.ta g.ts.length g.tc,.slice g.fa g.fs.length g.fc,.slice g.ma g.ms.length g.mc,.int .i64 g.en]
structure GB (w:World) (b:Nat) (g:Img):Prop where
 box:At w b (imC g) 26
 im:Im w g
theorem GB.later {w w':World} {b:Nat} {g:Img} (h:GB w b g) (hb:Below w.heap.size w w'):GB w' b g:=⟨h.box.later hb,h.im.later hb⟩
theorem GB.cells {w:World} {b:Nat} {g:Img} (h:GB w b g):w.cell? ⟨b,0,none⟩=some (.slice g.ta g.ts.length g.tc)/\w.cell? ⟨b,1,none⟩=some (.slice g.fa g.fs.length g.fc)/\w.cell? ⟨b,2,none⟩=some (.slice g.ma g.ms.length g.mc)/\w.cell? ⟨b,3,none⟩=some (.int .i64 g.en):=
 ⟨h.box.cell 0,h.box.cell 1,h.box.cell 2,h.box.cell 3⟩
theorem GB.made {w w0:World} {g:Img} (hg:Im w g) (h:w0=w.alloc (.cells (imC g) 26)):Below w.heap.size w w0/\GB w0 w.heap.size g:=by
 subst h;exact⟨zac _ _ _,At.made _ _ _,hg.later (zac _ _ _)⟩
theorem GB.type {w:World} {b:Nat} {g:Img} (h:GB w b g) {q:Nat} (hq:q<g.ts.length):∃ tb off,g.ta=some ⟨tb,off,none⟩/\tb<w.heap.size/\g.ts.length<=g.tc/\g.tc<=maxLen /\
 w.cell? ⟨tb,off+q * 4,none⟩=some (.string g.ts[q].nm)/\w.cell? ⟨tb,off+q * 4+1,none⟩=some (.int .i64 g.ts[q].fl)/\w.cell? ⟨tb,off+q * 4+2,none⟩=some (.int .i64 g.ts[q].ex)/\w.cell? ⟨tb,off+q * 4+3,none⟩=some (.slice g.ts[q].fa g.ts[q].fs.length g.ts[q].fc):=by
 obtain⟨tb,off,cap,hv,h1,h2,hb,hc⟩:=h.im.ts.parts (by intro e;rw[e]at hq;simp at hq)
 simp only[Value.slice.injEq]at hv;obtain⟨ha,_,hcap⟩:=hv;subst hcap;exact⟨tb,off,ha,hb,h1,h2,(show El tdE w tb (off+q * 4) g.ts[q] from hc q hq).cells_T⟩
theorem zc7 {g:Img} (t:Int) {w:World} (hg:Im w g) :
 Calls Tryz.prog 40 #[imV g,.int .i64 t] w λe w'=>e=.returned (.bool (zam t g.ts.length))/\Below w.heap.size w w':=by
 obtain⟨w0,hw0⟩:∃ W,W=w.alloc (.cells (imC g) 26):=⟨_,rfl⟩;have HW0:Hid (w0=_):=hw0;obtain⟨hb0,hgb⟩:=GB.made hg hw0;have HB0:Hid (Below w.heap.size w w0):=hb0;obtain⟨c0,c1,c2,c3⟩:=hgb.cells;have htl:=hg.ts.len;unfold maxLen at htl;unfold imC at HW0;clear hw0 hb0 hgb hg;unfold imV;go_enter Tryz.func40,Tryz.ntmps40;go_wp2_with (rw[<- HW0.out])
 all_goals go_ret
 all_goals refine⟨zab ?_,HB0.out⟩
 all_goals (unfold zam;rw[Bool.eq_iff_iff];simp;try omega)
theorem za0 {g:Img} (t:Int) {w:World} (hg:Im w g) :
 Calls Tryz.prog 49 #[imV g,.int .i64 t] w λe w'=>e=.returned (.bool (zam t g.ts.length))/\Below w.heap.size w w':=by
 obtain⟨w0,hw0⟩:∃ W,W=w.alloc (.cells (imC g) 26):=⟨_,rfl⟩;have HW0:Hid (w0=_):=hw0;obtain⟨hb0,hgb⟩:=GB.made hg hw0;have HB0:Hid (Below w.heap.size w w0):=hb0;obtain⟨c0,c1,c2,c3⟩:=hgb.cells;have htl:=hg.ts.len;unfold maxLen at htl;unfold imC at HW0;clear hw0 hb0 hgb hg;unfold imV;go_enter Tryz.func49,Tryz.ntmps49;go_wp2_with (rw[<- HW0.out])
 all_goals go_ret
 all_goals refine⟨zab ?_,HB0.out⟩
 all_goals (unfold zam;rw[Bool.eq_iff_iff];simp;try omega)
theorem zqN:∀ f:Fin 32,(bits .and .i64 (f.val:Int) 2=if zaf (f.val:Int) 2=true then 2 else 0)/\(bits .and .i64 (f.val:Int) 1=if zaf (f.val:Int) 1=true then 1 else 0)/\(bits .and .i64 (f.val:Int) 16=if zaf (f.val:Int) 16=true then 16 else 0)/\(bits .and .i64 (f.val:Int) 8=if zaf (f.val:Int) 8=true then 8 else 0):=by decide +kernel
theorem ziN {f:Int} (h:0<=f/\f<=31):(bits .and .i64 f 2=if zaf f 2=true then 2 else 0)/\(bits .and .i64 f 1=if zaf f 1=true then 1 else 0)/\(bits .and .i64 f 16=if zaf f 16=true then 16 else 0)/\(bits .and .i64 f 8=if zaf f 8=true then 8 else 0):=by
 have:=zqN ⟨f.toNat,by omega⟩
 rwa [show ((f.toNat:Nat):Int)=f by omega]at this
theorem zeC {f:Int} (h:0<=f/\f<=31) {k:Nat} (hk:1<=k):(f / (k:Int)).tmod 2=(if zaf f k=true then 1 else 0):=by
 obtain⟨n,rfl⟩:∃ n:Nat,f=n:=⟨f.toNat,by omega⟩
 have hd:(n:Int) / (k:Int)=((n / k:Nat):Int):=rfl;rw[hd];have hm:((n / k:Nat):Int).tmod 2=((n / k % 2:Nat):Int):=rfl;rw[hm];unfold zaf;rw[Int.toNat_natCast];have h2:n / k % 2=0∨n / k % 2=1:=by omega
 rcases h2 with h2 | h2 <;> rw[h2] <;> rfl
theorem zdO {f:Int} (h:0<=f/\f<=31) {k:Nat} (hk:1<=k/\k<=16) (w:World) :
 Calls Tryz.prog 50 #[.int .i64 f,.int .i64 (k:Int)] w λe w'=>e=.returned (.bool (zaf f k))/\w'=w:=by
 have HQ:Hid ((f / (k:Int)).tmod 2=(if zaf f k=true then 1 else 0)):=zeC h hk.1
 have hk0:¬ (k:Int)=0:=by omega
 have hk1:((k:Int)==0)=false:=by simp;omega
 go_enter Tryz.func50,Tryz.ntmps50;go_wp2;go_ret;refine⟨zab ?_,rfl⟩;rw[HQ.out]
 cases zaf f k <;> rfl
theorem zaK {t:Int} {n:Nat} (h:zam t n=true):∃ q:Nat,t=(q:Int)/\q<n:=by
 rw[zai]at h;exact⟨t.toNat,by omega,by omega⟩
def FlOk (g:Img):Prop:=∀ x∈g.ts,0<=x.fl/\x.fl<=31
theorem FlOk.of {g:Img} (h:imB g=true):FlOk g:=by
 intro x hx;unfold imB at h;simp only[Bool.and_eq_true]at h;have:=List.all_eq_true.1 h.1.1.1.2 x hx;unfold tdB zb7 at this;simp only[Bool.and_eq_true,decide_eq_true_iff]at this;omega
theorem zec {g:Img} {q:Nat} (hq:q<g.ts.length):zag g (q:Int)=zaN g.ts[q].fl:=by
 unfold zag;rw[if_pos (by rw[zai];omega),zek hq]
theorem zaQ {g:Img} (t:Int) {w:World} (hg:Im w g) (hf:FlOk g) :
 Calls Tryz.prog 16 #[imV g,.int .i64 t] w λe w'=>e=.returned (.int .i64 (zag g t))/\Below w.heap.size w w':=by
 obtain⟨w0,hw0⟩:∃ W,W=w.alloc (.cells (imC g) 26):=⟨_,rfl⟩;have HW0:Hid (w0=_):=hw0;obtain⟨hb0,hgb⟩:=GB.made hg hw0;have HB0:Hid (Below w.heap.size w w0):=hb0;have HG:Hid (∀ W,Below w0.heap.size w0 W->GB W w.heap.size g):=λW hW=>hgb.later hW
 obtain⟨c0,c1,c2,c3⟩:=hgb.cells;have htl:=hg.ts.len;unfold maxLen at htl;have HTh:Hid (Calls Tryz.prog 40 #[.agg (imC g),.int .i64 t] w0 λe w'=>e=.returned (.bool (zam t g.ts.length))/\Below w0.heap.size w0 w'):=zc7 t hgb.im
 unfold imC at HW0 HTh;clear hw0 hb0 hgb hg;unfold imV;go_enter Tryz.func16,Tryz.ntmps16;go_wp2_with (rw[<- HW0.out])
 refine Calls.mono HTh.out ?_;rintro e w1 ⟨rfl,hb1⟩;have HB1:Hid (Below w.heap.size w w1):=zaa HB0.out hb1;have hG1:=HG.out w1 hb1;clear c0 c1 c2 c3 hb1 HTh
 cases hn:zam t g.ts.length with
 | false =>
  have HK:Hid (zag g t = -1):=by show _=_;unfold zag;rw[hn];rfl
  go_wp2_with fail
  go_ret;exact⟨zak HK.out.symm,HB1.out⟩
 | true =>
  obtain⟨q,rfl,hq⟩:=zaK hn;obtain⟨tb,off,hta,htb,h1,h2,k0,k1,k2,k3⟩:=hG1.type hq;obtain⟨c0,c1,c2,c3⟩:=hG1.cells;have HK:Hid (zag g (q:Int)=zaN g.ts[q].fl):=zec hq;obtain⟨a2,a1,a16,_⟩:=ziN (hf _ (List.getElem_mem hq));unfold maxLen at h2;rw[hta]at c0;clear hta hG1 hf hn;generalize g.ts[q].fl=f at *
  cases hb2:zaf f 2 with
  | true =>
   rw[hb2,if_pos rfl]at a2;have HR:Hid (zaN f=2):=by show _=_;unfold zaN;rw[if_pos hb2]
   clear hb2;go_wp2_with fail
   go_ret;exact⟨zak (by rw[HK.out,HR.out]),HB1.out⟩
  | false =>
   rw[hb2,if_neg (by decide)]at a2
   cases hb1:zaf f 1 with
   | true =>
    rw[hb1,if_pos rfl]at a1;have HR:Hid (zaN f=1):=by show _=_;unfold zaN;rw[if_neg (by rw[hb2];decide),if_pos hb1]
    clear hb2 hb1;go_wp2_with fail
    go_ret;exact⟨zak (by rw[HK.out,HR.out]),HB1.out⟩
   | false =>
    rw[hb1,if_neg (by decide)]at a1
    cases hb16:zaf f 16 with
    | true =>
     rw[hb16,if_pos rfl]at a16;have HR:Hid (zaN f=3):=by show _=_;unfold zaN;rw[if_neg (by rw[hb2];decide),if_neg (by rw[hb1];decide),if_pos hb16]
     clear hb2 hb1 hb16;go_wp2_with fail
     go_ret;exact⟨zak (by rw[HK.out,HR.out]),HB1.out⟩
    | false =>
     rw[hb16,if_neg (by decide)]at a16
     have HR:Hid (zaN f=0):=by show _=_;unfold zaN;rw[if_neg (by rw[hb2];decide),if_neg (by rw[hb1];decide),if_neg (by rw[hb16];decide)]
     clear hb2 hb1 hb16;go_wp2_with fail
     go_ret;exact⟨zak (by rw[HK.out,HR.out]),HB1.out⟩
theorem zaF {g:Img} (t:Int) {w:World} (hg:Im w g) (hf:FlOk g) :
 Calls Tryz.prog 23 #[imV g,.int .i64 t] w λe w'=>e=.returned (.int .i64 (zag g t))/\Below w.heap.size w w':=by
 obtain⟨w0,hw0⟩:∃ W,W=w.alloc (.cells (imC g) 26):=⟨_,rfl⟩;have HW0:Hid (w0=_):=hw0;obtain⟨hb0,hgb⟩:=GB.made hg hw0;have HB0:Hid (Below w.heap.size w w0):=hb0;have HG:Hid (∀ W,Below w0.heap.size w0 W->GB W w.heap.size g):=λW hW=>hgb.later hW
 obtain⟨c0,c1,c2,c3⟩:=hgb.cells;have htl:=hg.ts.len;unfold maxLen at htl;have HTh:Hid (Calls Tryz.prog 49 #[.agg (imC g),.int .i64 t] w0 λe w'=>e=.returned (.bool (zam t g.ts.length))/\Below w0.heap.size w0 w'):=za0 t hgb.im
 unfold imC at HW0 HTh;clear hw0 hb0 hgb hg;unfold imV;go_enter Tryz.func23,Tryz.ntmps23;go_wp2_with (rw[<- HW0.out])
 refine Calls.mono HTh.out ?_;rintro e w1 ⟨rfl,hb1⟩;have HB1:Hid (Below w.heap.size w w1):=zaa HB0.out hb1;have hG1:=HG.out w1 hb1;clear c0 c1 c2 c3 hb1 HTh
 cases hn:zam t g.ts.length with
 | false =>
  have HK:Hid (zag g t = -1):=by show _=_;unfold zag;rw[hn];rfl
  go_wp2_with fail
  go_ret;exact⟨zak HK.out.symm,HB1.out⟩
 | true =>
  obtain⟨q,rfl,hq⟩:=zaK hn;obtain⟨tb,off,hta,htb,h1,h2,k0,k1,k2,k3⟩:=hG1.type hq;obtain⟨c0,c1,c2,c3⟩:=hG1.cells;have HK:Hid (zag g (q:Int)=zaN g.ts[q].fl):=zec hq;have hfq:=hf _ (List.getElem_mem hq);have HBt:Hid (∀ (k:Nat) (_:1<=k/\k<=16) W,Calls Tryz.prog 50 #[.int .i64 g.ts[q].fl,.int .i64 (k:Int)] W λe w'=>e=.returned (.bool (zaf g.ts[q].fl k))/\w'=W):=λk hk W=>zdO hfq hk W
  unfold maxLen at h2;rw[hta]at c0;clear hta hG1 hf hn hfq;generalize g.ts[q].fl=f at *;go_wp2_with fail
  refine (HBt.out 2 (by omega) _).mono ?_
  rintro e wz ⟨rfl,hz⟩;subst wz
  cases hb2:zaf f 2 with
  | true =>
   have HR:Hid (zaN f=2):=by show _=_;unfold zaN;rw[if_pos hb2]
   go_wp2_with fail
   go_ret;exact⟨zak (by rw[HK.out,HR.out]),HB1.out⟩
  | false =>
   go_wp2_with fail
   refine (HBt.out 1 (by omega) _).mono ?_
   rintro e wz ⟨rfl,hz⟩;subst wz
   cases hb1:zaf f 1 with
   | true =>
    have HR:Hid (zaN f=1):=by show _=_;unfold zaN;rw[if_neg (by rw[hb2];decide),if_pos hb1]
    go_wp2_with fail
    go_ret;exact⟨zak (by rw[HK.out,HR.out]),HB1.out⟩
   | false =>
    go_wp2_with fail
    refine (HBt.out 16 (by omega) _).mono ?_
    rintro e wz ⟨rfl,hz⟩;subst wz
    cases hb16:zaf f 16 with
    | true =>
     have HR:Hid (zaN f=3):=by show _=_;unfold zaN;rw[if_neg (by rw[hb2];decide),if_neg (by rw[hb1];decide),if_pos hb16]
     go_wp2_with fail
     go_ret;exact⟨zak (by rw[HK.out,HR.out]),HB1.out⟩
    | false =>
     have HR:Hid (zaN f=0):=by show _=_;unfold zaN;rw[if_neg (by rw[hb2];decide),if_neg (by rw[hb1];decide),if_neg (by rw[hb16];decide)]
     go_wp2_with fail
     go_ret;exact⟨zak (by rw[HK.out,HR.out]),HB1.out⟩
theorem zlm {l:List Int} {n:Int} {q:Nat} (hq:q<l.length) (h:(l.take q).contains n=false) (hx:l[q]≠n):(l.take (q+1)).contains n=false:=by
 rw[List.take_succ_eq_append_getElem hq];rw[Bool.eq_false_iff];intro hc;rw[List.contains_iff_mem]at hc
 rcases List.mem_append.1 hc with hc | hc
 ·rw[List.contains_iff_mem.2 hc]at h;cases h
 ·simp at hc;exact hx hc.symm
theorem znP {l:List Int} {n:Int} {q:Nat} (hq:q<l.length) (hx:l[q]=n):l.contains n=true:=by
 rw[List.contains_iff_mem,<- hx];exact List.getElem_mem hq
theorem zml {l:List Int} {n:Int} {q:Nat} (hq:¬ q<l.length) (h:(l.take q).contains n=false):l.contains n=false:=by
 rwa [List.take_of_length_le (by omega)]at h
theorem Is.parts {w:World} {v:Value} {l:List Int} (h:Is w v l) (hne:l≠[]):∃ b off cap,v=.slice (some ⟨b,off,none⟩) l.length cap/\l.length<=cap/\cap<=maxLen/\b<w.heap.size/\∀ i (hi:i<l.length),w.cell? ⟨b,off+i,none⟩=some (.int .i64 l[i]):=by
 obtain⟨a,cap,rfl,h1,h2,h3⟩:=h;rw[zae]at h1;obtain⟨b,off,rfl,hb,hc⟩:=h3 (by intro e;apply hne;simpa[zc4]using e)
 refine⟨b,off,cap,by rw[zae],h1,h2,hb,λi hi=>?_⟩
 rw[hc i (by rw[zae];exact hi)];simp[zc4]
theorem Is.shape {w:World} {v:Value} {l:List Int} (h:Is w v l):∃ a c,v=.slice a l.length c/\l.length<=c/\c<=maxLen:=by
 obtain⟨a,cap,rfl,h1,h2,_⟩:=h;rw[zae]at h1;exact⟨a,cap,by rw[zae],h1,h2⟩
theorem Is.at {w:World} {a:Option Addr} {c n:Nat} {l:List Int} (h:Is w (.slice a n c) l) {q:Nat} (hq:q<l.length):∃ b off,a=some ⟨b,off,none⟩/\b<w.heap.size/\n=l.length/\n<=c/\c<=maxLen/\∀ i (hi:i<l.length),w.cell? ⟨b,off+i,none⟩=some (.int .i64 l[i]):=by
 obtain⟨b,off,cap,hv,h1,h2,hb,hc⟩:=h.parts (by intro e;rw[e]at hq;simp at hq)
 simp only[Value.slice.injEq]at hv;obtain⟨rfl,rfl,rfl⟩:=hv;exact⟨b,off,rfl,hb,rfl,h1,h2,hc⟩
theorem zkD (a:Option Addr) (cap:Nat) (n:Int) (w:World) :
 Calls Tryz.prog 74 #[.slice a 0 cap,.int .i64 n] w λe w'=>e=.returned (.bool false)/\w'=w:=by
 go_enter Tryz.func74,Tryz.ntmps74;go_wp2;refine wp_loop_rounds 1 ?_;rw[rounds_succ];go_wp2;go_ret;exact⟨rfl,rfl⟩
theorem zkA {b off cap:Nat} {l:List Int} {n:Int} {w:World} (hl:l.length<=maxLen) (hc:∀ i (hi:i<l.length),w.cell? ⟨b,off+i,none⟩=some (.int .i64 l[i])) :
 Calls Tryz.prog 74 #[.slice (some ⟨b,off,none⟩) l.length cap,.int .i64 n] w λe w'=>e=.returned (.bool (l.contains n))/\w'=w:=by
 unfold maxLen at hl;have HC:Hid (∀ i (hi:i<l.length),w.cell? ⟨b,off+i,none⟩=some (.int .i64 l[i])):=hc;clear hc;go_enter Tryz.func74,Tryz.ntmps74;go_wp2_with fail
 go_loopw [5] (λz wr=>∃ q:Nat,q<=l.length/\z=.int .i64 q/\wr=w/\Hid ((l.take q).contains n=false)) (λz _=>l.length - (intOf z).toNat)
 case atStart=>exact⟨0,Nat.zero_le _,rfl,rfl,by show _=_;simp⟩
 case round =>
  obtain⟨q,hq,rfl,rfl,HA⟩:=hrel;by_cases hql:q<l.length
  ·have cq:=HC.out q hql;have HY:Hid (l[q]≠n->(l.take (q+1)).contains n=false):=λh=>zlm hql HA.out h
   have HN:Hid (l[q]=n->l.contains n=true):=λh=>znP hql h
   generalize l[q]=y at *;by_cases hyn:y=n
   ·have HR:=HN.out hyn;have hb:(y==n)=true:=by simpa using hyn
    have HRh:Hid (l.contains n=true):=HR;clear HY HN HR hyn;go_wp2_with fail
    go_ret;exact⟨zab HRh.out.symm,rfl⟩
   ·have hb:(y==n)=false:=by simpa using hyn
    have HY2:Hid ((l.take (q+1)).contains n=false):=HY.out hyn;clear HY HN hyn;go_wp2_with fail
    go_roundw
    case rel=>exact⟨q+1,by omega,by go_num,by simp,HY2.out⟩
    case measure=>simp[intOf];omega
  ·have HD:Hid (l.contains n=false):=zml hql HA.out;go_wp2_with fail
   go_ret;exact⟨zab HD.out.symm,rfl⟩
theorem zaM {v:Value} {l:List Int} {w:World} (h:Is w v l) (n:Int) :
 Calls Tryz.prog 74 #[v,.int .i64 n] w λe w'=>e=.returned (.bool (l.contains n))/\w'=w:=by
 by_cases hne:l=[]
 ·subst hne;obtain⟨a,c,rfl,_,_⟩:=h.shape;exact zkD a c n w
 ·obtain⟨b,off,cap,rfl,h1,h2,hb,hc⟩:=h.parts hne;exact zkA (by omega) hc
theorem zd8 (a:Option Addr) (cap:Nat) (n:Int) (w:World) :
 Calls Tryz.prog 82 #[.slice a 0 cap,.int .i64 n] w λe w'=>e=.returned (.int .i64 (-1))/\w'=w:=by
 go_enter Tryz.func82,Tryz.ntmps82;go_wp2;refine wp_loop_rounds 1 ?_;rw[rounds_succ];go_wp2;go_ret;exact⟨rfl,rfl⟩
theorem zh1 {b off cap:Nat} {l:List Int} {n:Int} {w:World} (hl:l.length<=maxLen) (hc:∀ i (hi:i<l.length),w.cell? ⟨b,off+i,none⟩=some (.int .i64 l[i])) :
 Calls Tryz.prog 82 #[.slice (some ⟨b,off,none⟩) l.length cap,.int .i64 n] w λe w'=>(∃ k:Int,e=.returned (.int .i64 k)/\decide (0<=k)=l.contains n)/\w'=w:=by
 unfold maxLen at hl;have HC:Hid (∀ i (hi:i<l.length),w.cell? ⟨b,off+i,none⟩=some (.int .i64 l[i])):=hc;clear hc;go_enter Tryz.func82,Tryz.ntmps82;go_wp2_with fail
 go_loopw [5,8] (λ_ z wr=>∃ q:Nat,q<=l.length/\z=.int .i64 q/\wr=w/\Hid ((l.take q).contains n=false)) (λ_ z _=>l.length - (intOf z).toNat)
 case atStart=>exact⟨0,Nat.zero_le _,rfl,rfl,by show _=_;simp⟩
 case round =>
  obtain⟨q,hq,rfl,rfl,HA⟩:=hrel;by_cases hql:q<l.length
  ·have cq:=HC.out q hql;have HY:Hid (l[q]≠n->(l.take (q+1)).contains n=false):=λh=>zlm hql HA.out h
   have HN:Hid (l[q]=n->l.contains n=true):=λh=>znP hql h
   generalize l[q]=y at *;by_cases hyn:y=n
   ·have hb:(n==y)=true:=by simpa using hyn.symm
    have HRh:Hid (l.contains n=true):=HN.out hyn;clear HY HN hyn;go_wp2_with fail
    go_ret;exact⟨⟨_,rfl,by rw[HRh.out];simp⟩,rfl⟩
   ·have hb:(n==y)=false:=by simpa using λh=>hyn (Eq.symm h)
    have HY2:Hid ((l.take (q+1)).contains n=false):=HY.out hyn;clear HY HN hyn;go_wp2_with fail
    go_roundw
    case rel=>exact⟨q+1,by omega,by go_num,by simp,HY2.out⟩
    case measure=>simp[intOf];omega
  ·have HD:Hid (l.contains n=false):=zml hql HA.out;go_wp2_with fail
   go_ret;exact⟨⟨_,rfl,by rw[HD.out];rfl⟩,rfl⟩
theorem zbV {v:Value} {l:List Int} {w:World} (h:Is w v l) (n:Int) :
 Calls Tryz.prog 59 #[v,.int .i64 n] w λe w'=>e=.returned (.bool (l.contains n))/\w'=w:=by
 have HI:Hid (Calls Tryz.prog 82 #[v,.int .i64 n] w λe w'=>(∃ k:Int,e=.returned (.int .i64 k)/\decide (0<=k)=l.contains n)/\w'=w):=by
  by_cases hne:l=[]
  ·subst hne;obtain⟨a,c,rfl,_,_⟩:=h.shape;refine (zd8 a c n w).mono ?_;rintro e w' ⟨rfl,rfl⟩;exact⟨⟨_,rfl,rfl⟩,rfl⟩
  ·obtain⟨b,off,cap,rfl,h1,h2,hb,hc⟩:=h.parts hne;exact zh1 (by omega) hc
 clear h;generalize l.contains n=r at *;go_enter Tryz.func59,Tryz.ntmps59;go_wp2_with fail
 refine Calls.mono HI.out ?_;rintro e wz ⟨⟨k,rfl,hk⟩,hz⟩;subst wz;have HK:Hid (decide (0<=k)=r):=hk;clear hk;go_wp2;go_ret;exact⟨zab HK.out,rfl⟩
end Go.Proofs.YtkedhjdipnhgdaaGreat

namespace Go.Proofs.YtkedhjdipnhgdaaGreat
set_option maxHeartbeats 16000000
set_option linter.all false
open RowKit
def KeepT (t:TypeId) (w w':World):Prop:=∀ g C,At w g C t->At w' g C t
theorem KeepT.refl (t:TypeId) (w:World):KeepT t w w:=λ_ _ h=>h
theorem KeepT.trans {t:TypeId} {a b c:World} (h:KeepT t a b) (k:KeepT t b c):KeepT t a c:=λg C ha=>k g C (h g C ha)
theorem KeepT.below {t:TypeId} {w w':World} (h:Below w.heap.size w w'):KeepT t w w':=λ_ _ ha=>ha.later h
theorem At.type_eq {w:World} {g:Nat} {C D:Array Value} {s t:TypeId} (h:At w g C s) (k:At w g D t):s=t:=by
 unfold At at h k;rw[h]at k;simp only[Option.some.injEq,Obj.cells.injEq]at k;exact k.2.1
theorem KeepT.set {t s:TypeId} {w:World} {g o:Nat} {C:Array Value} (hA:At w g C s) (hne:s≠t) (u:Value):KeepT t w (w.setCell ⟨g,o,none⟩ u):=λg' C' h=>by
 by_cases e:g'=g
 ·subst e;exact absurd (hA.type_eq h) hne
 ·exact h.other e u
theorem KeepT.grown {α:Type} {E:Enc α} {t s:TypeId} {w w':World} {base:Nat} {v:Value} {l:List α} (ho:OwnE E w base s v l) (hne:t≠s) (hg:w.grownBy w' v.ownBlock):KeepT t w w':=λg C h=>h.grownE ho hne hg
theorem OwnE.keep {α:Type} {E:Enc α} {t:TypeId} {w w':World} {base:Nat} {v:Value} {l:List α} (h:OwnE E w base t v l) (hk:KeepT t w w'):OwnE E w' base t v l:=by
 obtain⟨h1,h2⟩:=h;refine⟨h1, ?_⟩
 rcases h2 with h2 | ⟨g,cap,cur,rfl,hg,hh,r⟩
 ·exact Or.inl h2
 ·exact Or.inr ⟨g,cap,cur,rfl,hg,hk g cur hh,r⟩
theorem zbo {w w':World} {n c:Nat} (hg:w.grownBy w' (Value.slice none n c).ownBlock):Below w.heap.size w w':=
 ⟨hg.os,hg.tape,hg.output,hg.size,λk hk=>hg.block k hk (λe=>by simp[Value.ownBlock]at e)⟩
def IRow (w:World) (base g cap:Nat) (A:List Int):Prop:=OwnI w base (.slice (some ⟨g,0,none⟩) A.length cap) A
theorem IRow.at {w:World} {base g cap:Nat} {A:List Int} (h:IRow w base g cap A):∃ cur,At w g cur 3/\cur.size=cap/\A.length<=cap/\cap<=maxLen/\base<=g/\cur.toList.take A.length=zc4 A:=by
 rcases h.2 with ⟨h0,_⟩ | ⟨g',cap',cur,he,hbg,hh,hn,hm,hs,ht⟩
 ·exact absurd h0 (by simp)
 ·simp only[Value.slice.injEq,Option.some.injEq,Addr.mk.injEq]at he;obtain⟨⟨rfl,_,_⟩,_,rfl⟩:=he;rw[zae]at hn ht;rw[Nat.mul_one]at hs ht;exact⟨cur,hh,hs,hn,hm,hbg,ht⟩
theorem IRow.of_at {w:World} {base g cap:Nat} {A:List Int} {cur:Array Value} (h:At w g cur 3) (hs:cur.size=cap) (hn:A.length<=cap) (hm:cap<=maxLen) (hb:base<=g) (ht:cur.toList.take A.length=zc4 A):IRow w base g cap A:=
 ⟨by rw[zae,Nat.mul_one],.inr ⟨g,cap,cur,by rw[zae],hb,h,by rw[zae];exact hn,hm,by rw[Nat.mul_one];exact hs,by rw[zae,Nat.mul_one];exact ht⟩⟩
theorem IRow.of {w:World} {base:Nat} {v:Value} {l:List Int} (h:OwnI w base v l) (hne:l≠[]):∃ g cap,v=.slice (some ⟨g,0,none⟩) l.length cap/\IRow w base g cap l/\base<=g/\g<w.heap.size/\l.length<=cap/\cap<=maxLen:=by
 obtain⟨g,cap,rfl,h1,h2,h3,h4,_⟩:=h.parts hne;exact⟨g,cap,rfl,h,h3,h4,h1,h2⟩
theorem IRow.later {w w':World} {base g cap:Nat} {A:List Int} (h:IRow w base g cap A) (hb:Below w.heap.size w w'):IRow w' base g cap A:=OwnI.later h hb
theorem IRow.melt {w:World} {base g cap:Nat} {A:List Int} (h:IRow w base g cap A):∀ o,w.frozen? ⟨g,o,none⟩=false:=by
 obtain⟨cur,hA,_⟩:=h.at;exact hA.melt
theorem IRow.cell {w:World} {base g cap:Nat} {A:List Int} (h:IRow w base g cap A) (i:Nat) (hi:i<A.length):w.cell? ⟨g,i,none⟩=some (.int .i64 A[i]):=by
 obtain⟨g',cap',e,_,_,_,_,hc⟩:=OwnI.parts h (by intro e;rw[e]at hi;simp at hi)
 simp only[Value.slice.injEq,Option.some.injEq,Addr.mk.injEq]at e;obtain⟨⟨rfl,_,_⟩,_,rfl⟩:=e;exact hc i hi
theorem IRow.set {w:World} {base g cap:Nat} {A:List Int} (h:IRow w base g cap A) (i:Nat) (x:Int):IRow (w.setCell ⟨g,i,none⟩ (.int .i64 x)) base g cap (A.set i x):=by
 obtain⟨cur,hA,hs,hn,hm,hb,ht⟩:=h.at;refine IRow.of_at (hA.set i (.int .i64 x)) (by simpa using hs) (by simpa using hn) hm hb ?_
 rw[List.length_set];simp only[Array.toList_setIfInBounds,List.take_set,ht];simp[zc4,List.map_set]
theorem IRow.cleared {w:World} {base g cap:Nat} {A:List Int} (h:IRow w base g cap A) (kk m c:Nat) (hk:kk+m=A.length) (hm:0<m) :
 ∃ w',(∀ ty,(Builtin.clear_ #[40] ty #[.slice (some ⟨g,kk,none⟩) m c]).run Tryz.prog w=.ok (.tuple #[]) w')/\IRow w' base g cap (A.take kk)/\Below base w w':=by
 obtain⟨cur,hA,hs,hn,hmm,hb,ht⟩:=h.at;obtain⟨i0,hi0,hz0,hz1,hz2⟩:=info_parts Tryz.infoInt7;obtain⟨zs,hzs⟩:∃ zs,(Builtin.zeroCells (Value.int .i64 0).cells m).toList=zs:=⟨_,rfl⟩;have hzl:zs.length=m:=by
  rw[<- hzs,Array.length_toList,size_zeroCells];simp[Value.cells]
 have hz1':∀ v∈zs,v.oneCell'=true:=by
  rw[<- hzs];intro v hv;simp only[Builtin.zeroCells,Array.toList_map,List.mem_map]at hv;obtain⟨i,_,rfl⟩:=hv;show (#[Value.int .i64 0][i % 1]!).oneCell'=true;rw[Nat.mod_one];rfl
 have hcs:cur.toList.length=cap:=by rw[Array.length_toList];exact hs
 refine⟨_,λty=>zfI w 40 ty 3 i0 _ m zs Tryz.underlying40 hi0 hz0 hzs hz1' hm g kk c cur hA (by rw[hzl,hs];omega), ?_,zoL w g _ hb⟩
 have hlt:(A.take kk).length=kk:=by rw[List.length_take];omega
 refine IRow.of_at (cur:=(cur.toList.take kk ++ zs ++ cur.toList.drop (kk+zs.length)).toArray) (setRow_heap w g cur _ _ _ hA) ?_ (by omega) hmm hb ?_
 ·simp only[List.size_toArray,List.length_append,List.length_take,List.length_drop,hcs,hzl];omega
 ·rw[hlt];show ((cur.toList.take kk ++ zs ++ cur.toList.drop (kk+zs.length))).take kk=_;rw[List.append_assoc,List.take_append_of_le_length (by simp only[List.length_take,hcs];omega),List.take_take,Nat.min_self]
  have h1:(cur.toList.take A.length).take kk=(zc4 A).take kk:=by rw[ht]
  rw[List.take_take,Nat.min_eq_left (by omega)]at h1
  rw[h1];simp[zc4,List.map_take]
end Go.Proofs.YtkedhjdipnhgdaaGreat

namespace Go.Proofs.YtkedhjdipnhgdaaGreat
set_option maxHeartbeats 16000000
set_option linter.all false
open Go.RowKit Go.Maps
attribute [local go_sem ↓] wp_at_zero wp_at_succ
def zpM (L:List Int):DataW Unit:=setOf (.agg []) (L.map (Lit.int .i64))
theorem zid (x:Int):∀ l:List Int,l.any ((λy:Lit=>y.sameKey (.int .i64 x)) ∘ Lit.int .i64)=l.contains x
 | []=>rfl
 | a :: r=>by
  rw[List.any_cons,List.contains_cons,zid x r]
  congr 1
  show decide (IntKind.i64=IntKind.i64/\a=x)=(x==a);by_cases e:a=x
  ·subst e;simp
  ·have e':¬ x=a:=λh=>e h.symm
   simp[e,e']
theorem zpm (L:List Int) (x:Int):Maps.has (zpM L) (.int .i64 x)=L.contains x:=by
 unfold zpM;rw[has_setOf _ _ _ (λy hy=>by obtain⟨_,_,rfl⟩:=List.mem_map.1 hy;trivial),List.any_map]
 exact zid x _
theorem zsJ (L:List Int) (x:Int):zpM (L ++ [x])=(zpM L).put (.int .i64 x) (.agg []):=by
 unfold zpM;rw[List.map_append,List.map_singleton,setOf_snoc]
theorem zsN:Keyed Tryz.prog 3:=int_keyed Tryz.underlying3
theorem zmt (w:World):(zeroValue 95).run Tryz.prog w=.ok (.agg #[]) w:=by kernel_rfl
def Wf (t:Int):Prop:=(Lit.int .i64 t).wf=true
theorem zxM {t:Int} (h:Wf t):keyOf Tryz.prog 3 (.int .i64 t)=some (.int .i64 t):=keyOf_int_mk Tryz.underlying3 h
structure Met (win w:World) (gb lb mb mm:Nat) (g:Img) (lv:Value) (L:List Int):Prop where
 im:Im win g
 bel:Below win.heap.size win w
 box:At w gb (imC g) 26
 l:At w lb #[lv] 40
 m:At w mb #[.map (some mm)] 111
 own:OwnI w win.heap.size lv L
 map:w.ownsMap Tryz.prog 3 (unitElem (H:=Unit)) mm L.length (zpM L)
 lo:win.heap.size<=gb/\win.heap.size<=lb/\win.heap.size<=mb/\win.heap.size<=mm
theorem Met.gbox {win w:World} {gb lb mb mm:Nat} {g:Img} {lv:Value} {L:List Int} (h:Met win w gb lb mb mm g lv L):GB w gb g:=⟨h.box,h.im.later h.bel⟩
theorem zg9 {w w':World} {mm n:Nat} {D:DataW Unit} (h:w.ownsMap Tryz.prog 3 (unitElem (H:=Unit)) mm n D) (hb:Below w.heap.size w w'):w'.ownsMap Tryz.prog 3 (unitElem (H:=Unit)) mm n D:=by
 have hlt:=h.lt;obtain⟨es,clock,hh,r⟩:=h;exact⟨es,clock,(hb.block mm hlt).trans hh,r⟩
theorem zb6 {w:World} {mm n g:Nat} {D:DataW Unit} {C:Array Value} {t:TypeId} (h:w.ownsMap Tryz.prog 3 (unitElem (H:=Unit)) mm n D) (hA:At w g C t):g≠mm:=by
 obtain⟨es,clock,hh,r⟩:=h;rintro rfl;unfold At at hA;rw[hh]at hA
 cases hA
theorem Met.later {win w w':World} {gb lb mb mm:Nat} {g:Img} {lv:Value} {L:List Int} (h:Met win w gb lb mb mm g lv L) (hb:Below w.heap.size w w'):Met win w' gb lb mb mm g lv L:=
 ⟨h.im,zaa h.bel hb,h.box.later hb,h.l.later hb,h.m.later hb,h.own.later hb,zg9 h.map hb,h.lo⟩
theorem Met.lv_ne {win w:World} {gb lb mb mm:Nat} {g:Img} {lv:Value} {L:List Int} (h:Met win w gb lb mb mm g lv L):lv.ownBlock≠some gb/\lv.ownBlock≠some lb/\lv.ownBlock≠some mb/\lv.ownBlock≠some mm:=by
 refine⟨h.own.ne h.box (by decide),h.own.ne h.l (by decide),h.own.ne h.m (by decide),λe=>?_⟩
 obtain⟨C,hC⟩:=h.own.typed mm e;exact zb6 h.map hC rfl
def Sep (w:World) (tv:Value) (mm lb:Nat) (lv:Value):Prop:=∀ k,tv.ownBlock=some k->k<w.heap.size/\k≠mm/\k≠lb/\lv.ownBlock≠some k
theorem Is.keep {w w':World} {v:Value} {l:List Int} (h:Is w v l) (hs:w.heap.size<=w'.heap.size) (hk:∀ k,v.ownBlock=some k->w'.heap[k]? =w.heap[k]?):Is w' v l:=Sl.of_block h hs λk hv _=>hk k hv
theorem Met.add {win w w2 w3 w4 w5:World} {gb lb mb mm:Nat} {g:Img} {lv lv' tv:Value} {L ts:List Int} {t:Int} {o:Obj} (h:Met win w gb lb mb mm g lv L) (hi:Is w tv ts) (hs:Sep w tv mm lb lv)
 (hg2:w.grownBy w2 (some mm)) (hm2:w2.ownsMap Tryz.prog 3 (unitElem (H:=Unit)) mm (L.length+1) ((zpM L).put (.int .i64 t) (.agg []))) (h3:w3=w2.alloc o)
 (ho4:OwnI w4 win.heap.size lv' (L ++ [t])) (hg4:w3.grownBy w4 lv.ownBlock) (hp:lv'.ownBlock=lv.ownBlock∨lv'.ownBlock=some w3.heap.size) (h5:w5=w4.setCell ⟨lb,0,none⟩ lv') :
 Met win w5 gb lb mb mm g lv' (L ++ [t])/\Is w5 tv ts/\Sep w5 tv mm lb lv':=by
 obtain⟨n1,n2,n3,n4⟩:=h.lv_ne;have m1:=zb6 h.map h.box;have m2:=zb6 h.map h.l;have m3:=zb6 h.map h.m;have g1:gb≠lb:=λe=>by have:=h.box;rw[e]at this;exact absurd (At.type_eq this h.l) (by decide)
 have g3:mb≠lb:=λe=>by have:=h.m;rw[e]at this;exact absurd (At.type_eq this h.l) (by decide)
 have s2:=hg2.size;have s3:w3.heap.size=w2.heap.size+1:=by rw[h3];simp
 have s4:=hg4.size;have s5:w5.heap.size=w4.heap.size:=by rw[h5];simp
 have e5:∀ k,k≠lb->w5.heap[k]? =w4.heap[k]?:=λk hk=>by rw[h5];exact RowKit.Below.heap_setCell _ _ _ _ hk
 have e3:∀ k,k<w2.heap.size->w3.heap[k]? =w2.heap[k]?:=λk hk=>by rw[h3];exact heap_alloc_old w2 _ hk
 have ekeep:∀ k,k<w.heap.size->k≠mm->lv.ownBlock≠some k->w4.heap[k]? =w.heap[k]?:=λk h1 h2 h4=>by
  rw[hg4.block k (by omega) (λe=>h4 e.symm),e3 k (by omega),hg2.block k h1 (λe=>h2 (by simpa using e))]
 have hl4:At w4 lb #[lv] 40:=by
  have:=h.l;unfold At at this ⊢;rw[ekeep lb h.l.lt m2 n2];exact this
 have hown5:lv'.ownBlock≠some lb:=ho4.ne hl4 (by decide)
 refine⟨⟨h.im,⟨?_, ?_, ?_, ?_,λk hk=>?_⟩, ?_, ?_, ?_, ?_, ?_,h.lo⟩,hi.keep (by omega) (λk hk=>?_),λk hk=>?_⟩
 ·rw[h5];show w4.os=_;rw[hg4.os,h3];show w2.os=_;rw[hg2.os];exact h.bel.os
 ·rw[h5];show w4.tape=_;rw[hg4.tape,h3];show w2.tape=_;rw[hg2.tape];exact h.bel.tape
 ·rw[h5];show w4.output=_;rw[hg4.output,h3];show w2.output=_;rw[hg2.output];exact h.bel.output
 ·have:=h.bel.size;omega
 ·have:=h.bel.size;have hlo:=h.lo;rw[e5 k (by omega),ekeep k (by omega) (by omega) (λe=>by have:=(h.own.block k e).1;omega)]
  exact h.bel.block k hk
 ·have:=h.box;unfold At at this ⊢;rw[e5 gb g1,ekeep gb h.box.lt m1 n1];exact this
 ·rw[h5];exact hl4.set 0 lv'
 ·have:=h.m;unfold At at this ⊢;rw[e5 mb g3,ekeep mb h.m.lt m3 n3];exact this
 ·refine ho4.of_block λk hk _=>e5 k (λe=>?_)
  rw[e]at hk;exact hown5 hk
 ·rw[zsJ,List.length_append];obtain⟨es,clock,hh,r⟩:=hm2;have hlt:=h.map.lt;refine⟨es,clock, ?_,r⟩;rw[e5 mm (λe=>m2 e.symm),hg4.block mm (by omega) (λe=>n4 e.symm),e3 mm (by omega)]
  exact hh
 ·obtain⟨k1,k2,k3,k4⟩:=hs k hk;rw[e5 k k3,ekeep k k1 k2 k4]
 ·obtain⟨k1,k2,k3,k4⟩:=hs k hk;refine⟨by omega,k2,k3, ?_⟩
  rcases hp with hp | hp
  ·rw[hp];exact k4
  ·rw[hp];intro e;simp at e;omega
theorem Sep.later {w w':World} {tv lv:Value} {mm lb:Nat} (h:Sep w tv mm lb lv) (hb:Below w.heap.size w w'):Sep w' tv mm lb lv:=λk hk=>by
 obtain⟨h1,h2,h3,h4⟩:=h k hk;have:=hb.size;exact⟨by omega,h2,h3,h4⟩
theorem zaC {ops:Array Oper} {Q:Exit->Act->World->Prop} {a:Act} {w:World} {rest:List Oper} {o:Oper} (hw:Region.wanted o (yielded ops a.tmps)=true) (s x:Operand)
 (ho:o.op=.call { callee:=.builtin .append,args:=#[s,x],argTypes:=#[40,40] }) (base:Nat)
 {v y:Value} {l:List Int} {n:Int} (hs:a.eval s=v) (hx:a.eval x=y) (hv:OwnI w base v l) (hy:Src Tryz.prog 1 40 y 1 [.int .i64 n] w) (hl:l.length<=100000) (hbase:base<=w.heap.size)
 (h:∀ v' w',OwnI w' base v' (l ++ [n])->w.grownBy w' v.ownBlock->(v'.ownBlock=v.ownBlock∨v'.ownBlock=some w.heap.size)->wpList Tryz.prog ops Q rest (a.put o.dst v') w'):wpList Tryz.prog ops Q (o :: rest) a w:=by
 refine zbv hw s x 40 40 ho base 3 (.int .i64 0) 8 Tryz.underlying40 Tryz.infoInt7 rfl hs hx hv hy (by rw[zae];unfold maxLen;omega) (by rw[zae];omega) hbase (λv' w' ho hg hp _=>h v' w' ?_ hg hp)
 unfold OwnI;rw[zda];exact ho
theorem zo1 (a:Option Addr) (cap:Nat) (b1 b2 b3:Value) (w:World) :
 Calls Tryz.prog 92 #[.slice a 0 cap,b1,b2,b3] w λe w'=>e=.returned (.tuple #[])/\w'=w:=by
 go_enter Tryz.func92,Tryz.ntmps92;go_wp2;refine wp_loop_rounds 1 ?_;rw[rounds_succ];go_wp2;go_end0
 exact⟨rfl,rfl⟩
theorem OwnI.shp {w:World} {base:Nat} {v:Value} {l:List Int} (h:OwnI w base v l):∃ a n c,v=.slice a n c:=by
 obtain⟨a,c,e,_⟩:=h.is;exact⟨a,_,c,e⟩
theorem Met.mid {win w w2:World} {gb lb mb mm:Nat} {g:Img} {lv:Value} {L:List Int} (h:Met win w gb lb mb mm g lv L) (hg:w.grownBy w2 (some mm)):At w2 lb #[lv] 40/\OwnI w2 win.heap.size lv L/\win.heap.size<=w2.heap.size:=by
 obtain⟨n1,n2,n3,n4⟩:=h.lv_ne;refine⟨?_,h.own.of_block λk hk hlt=>hg.block k hlt (λe=>n4 (by rw[hk,e])),Nat.le_trans h.bel.size hg.size⟩
 have:=h.l;unfold At at this ⊢;rw[hg.block lb h.l.lt (λe=>zb6 h.map h.l (by simpa using e))];exact this
set_option maxRecDepth 100000 in
theorem znH {win w:World} {gb lb mb mm:Nat} {g:Img} {lv:Value} {L ts:List Int} {b off cap:Nat} (hM:Met win w gb lb mb mm g lv L) (hL:Nd g.ts.length 0 L) (hn:g.ts.length<=1000)
 (hI:Is w (.slice (some ⟨b,off,none⟩) ts.length cap) ts) (hS:Sep w (.slice (some ⟨b,off,none⟩) ts.length cap) mm lb lv) (hW:∀ t∈ts,Wf t) :
 Calls Tryz.prog 92 #[.slice (some ⟨b,off,none⟩) ts.length cap,.pointer (some ⟨mb,0,none⟩),.pointer (some ⟨gb,0,none⟩),.pointer (some ⟨lb,0,none⟩)] w λe w' =>
  e=.returned (.tuple #[])/\∃ lv',Met win w' gb lb mb mm g lv' (zaq g.ts.length L ts):=by
 have htl:=hI.len;rw[zae]at htl;unfold maxLen at htl;have HM:Hid (Met win w gb lb mb mm g lv L):=hM;have HI:Hid (Is w (.slice (some ⟨b,off,none⟩) ts.length cap) ts):=hI;have HS:Hid (Sep w (.slice (some ⟨b,off,none⟩) ts.length cap) mm lb lv):=hS;have HL:Hid (Nd g.ts.length 0 L):=hL;have HW:Hid (∀ t∈ts,Wf t):=hW;obtain⟨n,hnn⟩:∃ n,n=g.ts.length:=⟨_,rfl⟩;have HN:Hid (n=g.ts.length):=hnn;clear hM hI hS hL hW hnn;go_enter Tryz.func92,Tryz.ntmps92;go_wp2_with fail
 go_loopw [6,7,8,11] (λ_ _ _ z wr=>∃ q:Nat,q<=ts.length/\z=.int .i64 q/\∃ lv',Hid (Met win wr gb lb mb mm g lv' (zaq g.ts.length L (ts.take q))/\Is wr (.slice (some ⟨b,off,none⟩) ts.length cap) ts/\Sep wr (.slice (some ⟨b,off,none⟩) ts.length cap) mm lb lv')) (λ_ _ _ z _=>ts.length - (intOf z).toNat)
 case atStart=>exact⟨0,Nat.zero_le _,rfl,lv,HM.out,HI.out,HS.out⟩
 case round =>
  obtain⟨q,hq,rfl,lv',HR⟩:=hrel;by_cases hql:q<ts.length
  ·obtain⟨L',hL'⟩:∃ X,X=zaq g.ts.length L (ts.take q):=⟨_,rfl⟩;rw[<- hL']at HR;have HST:Hid (zaq g.ts.length L (ts.take (q+1))=zbJ g.ts.length L' ts[q]):=by show _=_;rw[hL'];exact zcB hql
   have HLl:Hid (L'.length<=1000):=by
    show _<=_;have:=(HL.out.come (ts:=ts.take q)).len;rw[<- hL']at this;omega
   have HWt:Hid (Wf ts[q]):=HW.out _ (List.getElem_mem hql);clear hL';obtain⟨b',off',hbo,hb,_,h6,h7,hc⟩:=HR.out.2.1.at hql
   cases hbo
   have cq:=hc q hql;generalize ts[q]=t at *;unfold maxLen at h7;have hM:=HR.out.1;have cm:=hM.m.cell0;have hmap:=hM.map;have hkey:=zxM HWt.out;obtain⟨wA,hwA⟩:∃ W,W=wr.alloc (.cells #[] 95):=⟨_,rfl⟩;have HWA:Hid (wA=_):=hwA;have hbA:Below wr.heap.size wr wA:=by rw[hwA];exact zac _ _ _
   have hMA:=hM.later hbA;have HRA:Hid (Met win wA gb lb mb mm g lv' L'/\Is wA (.slice (some ⟨b,off,none⟩) ts.length cap) ts/\Sep wA (.slice (some ⟨b,off,none⟩) ts.length cap) mm lb lv'):=⟨hMA,Sl.later HR.out.2.1 hbA,HR.out.2.2.later hbA⟩;clear hc hM hwA hbA
   cases hhc:L'.contains t with
   | true =>
    have hhas:Maps.has (zpM L') (.int .i64 t)=true:=by rw[zpm];exact hhc
    have HS2:Hid (zaq g.ts.length L (ts.take (q+1))=L'):=by show _=_;rw[HST.out,zb2 hhc]
    clear hhc hMA;go_wp2_with (first | (at_lookup;go_must (refine wpList_lookup_own_unit _ rfl _ _ 111 rfl 3 95 zsN Tryz.underlying111 (zmt _) mm _ _ rfl hmap _ _ rfl hkey ?_)) | (rw[<- HWA.out]))
    go_roundw
    case rel=>exact⟨q+1,by omega,by go_num,lv',by rw[HS2.out];exact HRA.out⟩
    case measure=>simp[intOf];omega
   | false =>
    have hhas:Maps.has (zpM L') (.int .i64 t)=false:=by rw[zpm];exact hhc
    obtain⟨cg0,cg1,cg2,cg3⟩:=hMA.gbox.cells;have HTh:Hid (Calls Tryz.prog 40 #[.agg (imC g),.int .i64 t] wA λe w'=>e=.returned (.bool (zam t g.ts.length))/\Below wA.heap.size wA w'):=zc7 t hMA.gbox.im
    have HHc:Hid (L'.contains t=false):=hhc;unfold imC at HTh;clear hhc hMA;go_wp2_with (first | (at_lookup;go_must (refine wpList_lookup_own_unit _ rfl _ _ 111 rfl 3 95 zsN Tryz.underlying111 (zmt _) mm _ _ rfl hmap _ _ rfl hkey ?_)) | (rw[<- HWA.out]))
    refine Calls.mono HTh.out ?_;rintro e w1 ⟨rfl,hb1⟩;have HR1:Hid (Met win w1 gb lb mb mm g lv' L'/\Is w1 (.slice (some ⟨b,off,none⟩) ts.length cap) ts/\Sep w1 (.slice (some ⟨b,off,none⟩) ts.length cap) mm lb lv'):=⟨HRA.out.1.later hb1,Sl.later HRA.out.2.1 hb1,HRA.out.2.2.later hb1⟩;clear hb1 cg0 cg1 cg2 cg3 HTh cm hmap cq HR
    cases hnb:zam t g.ts.length with
    | false =>
     have HS2:Hid (zaq g.ts.length L (ts.take (q+1))=L'):=by show _=_;rw[HST.out,zcr hnb]
     clear hnb;go_wp2_with fail
     go_roundw
     case rel=>exact⟨q+1,by omega,by go_num,lv',by rw[HS2.out];exact HR1.out⟩
     case measure=>simp[intOf];omega
    | true =>
     have HS2:Hid (zaq g.ts.length L (ts.take (q+1))=L' ++ [t]):=by show _=_;rw[HST.out,zaR hnb HHc.out]
     have hM1:=HR1.out.1;have hmap1:=hM1.map;have cm1:=hM1.m.cell0;have HMid:Hid (∀ w2,w1.grownBy w2 (some mm)->At w2 lb #[lv'] 40/\OwnI w2 win.heap.size lv' L'/\win.heap.size<=w2.heap.size):=λw2 hg=>hM1.mid hg
     clear hnb hM1;go_wp2_with (first
      | (at_mapUpdate;go_must (refine wpList_mapUpdate_own _ rfl _ _ _ 111 rfl 3 95 zsN Tryz.underlying111 (unitElem (H:=Unit)) mm _ _ rfl hmap1 (by have:=HLl.out;unfold maxLen;omega) _ _ _ rfl rfl hkey (.agg []) [] unitElem_mk ?_;intro w2 hown2 hgrow2;have hmid2:=HMid.out w2 hgrow2;have cl2:=hmid2.1.cell0))
      | (at_builtin;go_must (refine zaC (v:=lv') rfl (.tmp 31) (.tmp 33) rfl win.heap.size rfl rfl (hmid2.2.1.later (zac _ _ _)) (zbf w2 t _ rfl) (by have:=HLl.out;omega) (Nat.le_trans hmid2.2.2 (zac _ _ _).size) ?_;intro v5 w5 ho5 hg5 hp5;obtain⟨la5,ln5,lc5,hv5⟩:=ho5.shp;subst hv5;have hl5:=(hmid2.1.later (zac _ _ _)).grownI (hmid2.2.1.later (zac _ _ _)) (by decide) hg5;have cl5:=hl5.cell0;have ml5:=hl5.melt 0)))
     have hadd:=Met.add (o:=Obj.cells #[.int .i64 t] 3) HR1.out.1 HR1.out.2.1 HR1.out.2.2 hgrow2 hown2 rfl ho5 hg5 hp5 rfl;have HAd:Hid _:=hadd;clear hadd hmid2 cl2 hl5 cl5 ml5 hgrow2 hown2 ho5 hg5 hp5;go_roundw
     case rel=>exact⟨q+1,by omega,by go_num,_,by rw[HS2.out];exact HAd.out⟩
     case measure=>simp[intOf];omega
  ·have HD:Hid (Met win wr gb lb mb mm g lv' (zaq g.ts.length L ts)):=by
    have:=HR.out.1
    rwa [zcG hql]at this
   go_wp2_with fail
   go_end0
   exact⟨rfl,lv',HD.out⟩
theorem zlq {win w:World} {gb lb mb mm:Nat} {g:Img} {lv tv:Value} {L ts:List Int} (hM:Met win w gb lb mb mm g lv L) (hL:Nd g.ts.length 0 L) (hn:g.ts.length<=1000)
 (hI:Is w tv ts) (hS:ts≠[]->Sep w tv mm lb lv) (hW:∀ t∈ts,Wf t) :
 Calls Tryz.prog 92 #[tv,.pointer (some ⟨mb,0,none⟩),.pointer (some ⟨gb,0,none⟩),.pointer (some ⟨lb,0,none⟩)] w λe w' =>
  e=.returned (.tuple #[])/\∃ lv',Met win w' gb lb mb mm g lv' (zaq g.ts.length L ts):=by
 by_cases hne:ts=[]
 ·subst hne;obtain⟨a,c,rfl,_,_⟩:=hI.shape;refine (zo1 a c _ _ _ w).mono ?_;rintro e w' ⟨rfl,rfl⟩;exact⟨rfl,lv,hM⟩
 ·obtain⟨b,off,cap,rfl,h1,h2,hb,hc⟩:=hI.parts hne;exact znH hM hL hn hI (hS hne) hW
end Go.Proofs.YtkedhjdipnhgdaaGreat
