import Derived.Test.YtkedhjdipnhgdaaGreatR19
import Derived.Test.YtkedhjdipnhgdaaGreatR20
import Derived.Test.YtkedhjdipnhgdaaGreatR06
import Derived.Sort.OwnSortedInts
namespace Go.Proofs.YtkedhjdipnhgdaaGreat
set_option maxHeartbeats 16000000
set_option linter.all false
open RowKit
attribute [local go_sem ↓] wp_at_zero wp_at_succ
theorem GB.ty {w0:World} {b:Nat} {g:Img} (h:GB w0 b g) (hne:g.ts≠[]):∃ tb off,g.ta=some ⟨tb,off,none⟩/\g.ts.length<=g.tc/\g.tc<=maxLen/\∀ W,Below w0.heap.size w0 W->W.cell? ⟨b,0,none⟩=some (.slice (some ⟨tb,off,none⟩) g.ts.length g.tc) /\
 ∀ q (hq:q<g.ts.length),W.cell? ⟨tb,off+q * 4,none⟩=some (.string g.ts[q].nm)/\W.cell? ⟨tb,off+q * 4+1,none⟩=some (.int .i64 g.ts[q].fl)/\W.cell? ⟨tb,off+q * 4+2,none⟩=some (.int .i64 g.ts[q].ex)/\W.cell? ⟨tb,off+q * 4+3,none⟩=some (.slice g.ts[q].fa g.ts[q].fs.length g.ts[q].fc):=by
 obtain⟨tb,off,cap,hv,h1,h2,hb,hc⟩:=h.im.ts.parts hne;simp only[Value.slice.injEq]at hv;obtain⟨ha,_,hcap⟩:=hv;subst hcap;refine⟨tb,off,ha,h1,h2,λW hW=>⟨?_,λq hq=>(show El tdE W tb (off+q * 4) g.ts[q] from (hc q hq).below hW hb).cells_T⟩⟩
 have:=(h.later hW).cells.1;rw[ha]at this;exact this
theorem GB.fd {w0:World} {b:Nat} {g:Img} (h:GB w0 b g) (hne:g.fs≠[]):∃ tb off,g.fa=some ⟨tb,off,none⟩/\g.fs.length<=g.fc/\g.fc<=maxLen/\∀ W,Below w0.heap.size w0 W->W.cell? ⟨b,1,none⟩=some (.slice (some ⟨tb,off,none⟩) g.fs.length g.fc)/\∀ q (hq:q<g.fs.length),El fdE W tb (off+q * 7) g.fs[q]:=by
 obtain⟨tb,off,cap,hv,h1,h2,hb,hc⟩:=h.im.fs.parts hne;simp only[Value.slice.injEq]at hv;obtain⟨ha,_,hcap⟩:=hv;subst hcap;refine⟨tb,off,ha,h1,h2,λW hW=>⟨?_,λq hq=>show El fdE W tb (off+q * 7) g.fs[q] from (hc q hq).below hW hb⟩⟩
 have:=(h.later hW).cells.2.1;rw[ha]at this;exact this
theorem GB.md {w0:World} {b:Nat} {g:Img} (h:GB w0 b g) (hne:g.ms≠[]):∃ tb off,g.ma=some ⟨tb,off,none⟩/\g.ms.length<=g.mc/\g.mc<=maxLen/\∀ W,Below w0.heap.size w0 W->W.cell? ⟨b,2,none⟩=some (.slice (some ⟨tb,off,none⟩) g.ms.length g.mc)/\∀ q (hq:q<g.ms.length),El mdE W tb (off+q * 12) g.ms[q]:=by
 obtain⟨tb,off,cap,hv,h1,h2,hb,hc⟩:=h.im.ms.parts hne;simp only[Value.slice.injEq]at hv;obtain⟨ha,_,hcap⟩:=hv;subst hcap;refine⟨tb,off,ha,h1,h2,λW hW=>⟨?_,λq hq=>show El mdE W tb (off+q * 12) g.ms[q] from (hc q hq).below hW hb⟩⟩
 have:=(h.later hW).cells.2.2.1;rw[ha]at this;exact this
theorem zar {w w':World} {base B:Nat} {v:Value} {l:List Int} (ho:OwnI w base v l) (hg:w.grownBy w' v.ownBlock) (hB:B<=base) (hs:B<=w.heap.size):Below B w w':=
 ⟨hg.os,hg.tape,hg.output,hg.size,λk hk=>hg.block k (by omega) (λe=>by have:=ho.block k e.symm;omega)⟩
def lenV:Value->Nat
 | .slice _ n _=>n
 | _=>0
theorem OwnI.lenV {w:World} {base:Nat} {v:Value} {l:List Int} (h:OwnI w base v l):lenV v=l.length:=by
 obtain⟨a,c,e,_⟩:=h.is;rw[e,zae];rfl
set_option maxRecDepth 100000 in
theorem zdn {g:Img} {t:Int} {w:World} (hg:Im w g) (hi:imB g=true) :
 Calls Tryz.prog 73 #[imV g,.int .i64 t] w λe w'=>∃ v,e=.returned v/\OwnI w' w.heap.size v (upL g t)/\Below w.heap.size w w':=by
 obtain⟨w0,hw0⟩:∃ W,W=w.alloc (.cells (imC g) 26):=⟨_,rfl⟩;have HW0:Hid (w0=_):=hw0;obtain⟨hb0,hgb⟩:=GB.made hg hw0;have HB0:Hid (Below w.heap.size w w0):=hb0;have HG:Hid (GB w0 w.heap.size g):=hgb;have hln:=(zax hi).1;have HTh:Hid (∀ W (t:Int),Below w0.heap.size w0 W->Calls Tryz.prog 49 #[.agg (imC g),.int .i64 t] W λe w'=>e=.returned (.bool (zam t g.ts.length))/\Below W.heap.size W w'):=λW t hW=>za0 t (hgb.im.later hW)
 have HC4:Hid (∀ W,Below w0.heap.size w0 W->W.cell? ⟨w.heap.size,0,none⟩=some (.slice g.ta g.ts.length g.tc)/\W.cell? ⟨w.heap.size,1,none⟩=some (.slice g.fa g.fs.length g.fc)/\W.cell? ⟨w.heap.size,2,none⟩=some (.slice g.ma g.ms.length g.mc)/\W.cell? ⟨w.heap.size,3,none⟩=some (.int .i64 g.en)):=λW hW=>(hgb.later hW).cells
 unfold imC at HW0 HTh;clear hw0 hb0 hgb hg hi;unfold imV;go_enter Tryz.func73,Tryz.ntmps73;go_wp2_with (rw[<- HW0.out])
 obtain⟨t0,ht0⟩:∃ x,x=t:=⟨_,rfl⟩;have HT0:Hid (upG g (g.ts.length+2) [] t=upL g t0):=by show _=_;rw[ht0];rfl
 go_loopw [1,5] (λtv lv wr=>∃ (x:Int) (k:Nat) (L:List Int),tv=.int .i64 x/\Hid (OwnI wr w0.heap.size lv L)/\Below w0.heap.size w0 wr/\Hid (Nd g.ts.length 0 L)/\k+L.length=g.ts.length+2/\Hid (upG g k L x=upL g t0)) (λ_ lv _=>g.ts.length+2 - lenV lv)
 case atStart=>exact⟨t,g.ts.length+2,[],rfl,OwnI.nil _ _,Below.refl _ _,Nd.nil _,rfl,HT0.out⟩
 case round =>
  obtain⟨x,k,L,rfl,HO,hB,HN,hk,HU⟩:=hrel;have hLl:=HN.out.len;have HBL:Hid (Below w0.heap.size w0 wr):=hB;obtain⟨k',rfl⟩:∃ k',k=k'+1:=⟨k - 1,by omega⟩
  obtain⟨c0,c1,c2,c3⟩:=HC4.out wr hB;have hlen:=HO.out.lenV;clear hB;go_wp2_with fail
  refine Calls.mono (HTh.out wr x HBL.out) ?_;rintro e w1 ⟨rfl,hb1⟩;have HB1:Hid (Below w0.heap.size w0 w1):=zaa HBL.out hb1;have HO1:Hid (OwnI w1 w0.heap.size u5 L):=HO.out.later hb1;clear hb1 c0 c1 c2 c3 HO HBL
  cases hn:zam x g.ts.length with
  | false =>
   have HE:Hid (L=upL g t0):=by show _=_;rw[<- HU.out,upG,if_neg (by rw[hn];simp)]
   clear hn;go_wp2_with fail
   go_ret;exact⟨_,rfl,by rw[<- ht0,<- HE.out];exact HO1.out.mono HB0.out.size,zaa HB0.out HB1.out⟩
  | true =>
   go_wp2_with fail
   refine (zaM HO1.out.is x).mono ?_;rintro e wz ⟨rfl,hz⟩;subst wz
   cases hh:L.contains x with
   | true =>
    have HE:Hid (L=upL g t0):=by show _=_;rw[<- HU.out,upG,if_neg (by rw[hh];simp)]
    clear hn hh;go_wp2_with fail
    go_ret;exact⟨_,rfl,by rw[<- ht0,<- HE.out];exact HO1.out.mono HB0.out.size,zaa HB0.out HB1.out⟩
   | false =>
    have HU2:Hid (upG g k' (L ++ [x]) (exI g x)=upL g t0):=by show _=_;rw[<- HU.out,upG,if_pos ⟨hn,hh⟩]
    have HN2:Hid (Nd g.ts.length 0 (L ++ [x])):=by have:=HN.out.step x;rw[zaR hn hh]at this;exact this
    obtain⟨q,rfl,hq⟩:=zaK hn;have HX:Hid (exI g (q:Int)=g.ts[q].ex):=zbi hq;obtain⟨tb,off,hta,h6,h7,hty⟩:=HG.out.ty (by intro e;rw[e]at hq;simp at hq)
    have HTY:Hid (∀ W,Below w0.heap.size w0 W->W.cell? ⟨w.heap.size,0,none⟩=some (.slice (some ⟨tb,off,none⟩) g.ts.length g.tc)/\W.cell? ⟨tb,off+q * 4+2,none⟩=some (.int .i64 g.ts[q].ex)):=λW hW=>⟨(hty W hW).1,((hty W hW).2 q hq).2.2.1⟩
    unfold maxLen at h7;clear hty hn hh hta;generalize g.ts[q].ex=y at *;go_wp2_with (at_builtin;go_must (refine zas (v:=u5) rfl (.tmp 15) (.tmp 17) rfl w0.heap.size rfl rfl (HO1.out.later (zac _ _ _)) (zbf w1 q _ rfl) (by omega) (Nat.le_trans HB1.out.size (zac _ _ _).size) ?_;intro v5 w5 ho5 hg5;have hB5:=(zbN HB1.out _).trans (zar (HO1.out.later (zac _ _ _)) hg5 (Nat.le_refl _) (Nat.le_trans HB1.out.size (zac _ _ _).size));obtain⟨d0,d1⟩:=HTY.out w5 hB5))
    have hl5:=ho5.lenV;clear d0 d1;go_roundw
    case rel=>exact⟨y,k',L ++ [(q:Int)],rfl,ho5,hB5,HN2.out,by simp;omega,by rw[<- HX.out];exact HU2.out⟩
    case measure=>simp at hl5;omega
theorem zfX {α:Type} (p:α->Bool):∀ (a b:List α) (i:Int),pkN p i (a ++ b)=pkN p i a ++ pkN p (i+(a.length:Int)) b
 | [],b,i=>by simp[pkN]
 | c :: r,b,i=>by
  simp only[List.cons_append,pkN,zfX p r b (i+1),List.append_assoc,List.length_cons];rw[show i+1+(r.length:Int)=i+((r.length+1:Nat):Int) by omega]
theorem zhq {α:Type} (p:α->Bool) (l:List α) (q:Nat) (h:q<l.length):pkN p 0 (l.take (q+1))=pkN p 0 (l.take q) ++ (if p l[q]=true then [(q:Int)] else []):=by
 rw[List.take_succ_eq_append_getElem h,zfX,List.length_take,Nat.min_eq_left (by omega)]
 simp[pkN]
theorem zbX {α:Type} (p:α->Bool):∀ (l:List α) (i:Int),(pkN p i l).length<=l.length
 | [],_=>by simp[pkN]
 | c :: r,i=>by
  have:=zbX p r (i+1);simp only[pkN,List.length_append,List.length_cons]
  split <;> simp <;> omega
theorem zjS {α:Type} (p:α->Bool):∀ (l:List α) (i:Nat),∀ x∈pkN p (i:Int) l,∃ k,x=((i+k:Nat):Int)/\∃ h:k<l.length,p l[k]=true
 | [],_,x,h=>by simp[pkN]at h
 | c :: r,i,x,h=>by
  simp only[pkN,List.mem_append]at h
  rcases h with h | h
  ·split at h
   ·rename_i hc
    simp at h;exact⟨0,by rw[h];simp,by simp,by simpa using hc⟩
   ·simp at h
  ·rw[show ((i:Int)+1)=((i+1:Nat):Int) by omega]at h
   obtain⟨k,rfl,hk,hp⟩:=zjS p r (i+1) x h;exact⟨k+1,by congr 1;omega,by simpa using hk,by simpa using hp⟩
theorem zby {g:Img} {t x:Int} (h:x∈zbg g t):∃ k:Nat,x=(k:Int)/\k<g.fs.length:=by
 unfold zbg at h
 split at h
 ·obtain⟨k,rfl,hk,_⟩:=zjS _ _ 0 x h;exact⟨k,by simp,hk⟩
 ·simp at h
theorem zey {g:Img} {t x:Int} (h:x∈zat g t):∃ k:Nat,x=(k:Int)/\k<g.ms.length:=by
 unfold zat at h
 split at h
 ·obtain⟨k,rfl,hk,_⟩:=zjS _ _ 0 x h;exact⟨k,by simp,hk⟩
 ·simp at h
theorem zcA (g:Img) (t:Int):(zbg g t).length<=g.fs.length:=by
 unfold zbg;split
 ·exact zbX _ _ _
 ·simp
theorem zq9 (g:Img) (t:Int):(zat g t).length<=g.ms.length:=by
 unfold zat;split
 ·exact zbX _ _ _
 ·simp
theorem zfv {g:Img} {q:Nat} {w:World} (hg:Im w g) (hi:imB g=true) (hq:q<g.ts.length) :
 Calls Tryz.prog 137 #[imV g,.int .i64 q] w λe w'=>e=.returned (.bool (zct g.ts[q].fl g.ts[q].ex))/\Below w.heap.size w w':=by
 obtain⟨w0,hw0⟩:∃ W,W=w.alloc (.cells (imC g) 26):=⟨_,rfl⟩;have HW0:Hid (w0=_):=hw0;obtain⟨hb0,hgb⟩:=GB.made hg hw0;have HB0:Hid (Below w.heap.size w w0):=hb0;have hfq:=FlOk.of hi _ (List.getElem_mem hq);have HKd:Hid (Calls Tryz.prog 23 #[.agg (imC g),.int .i64 q] w0 λe w'=>e=.returned (.int .i64 (zaN g.ts[q].fl))/\Below w0.heap.size w0 w'):=by
  have:=zaF (q:Int) hgb.im (FlOk.of hi)
  rwa [zec hq]at this
 obtain⟨tb,off,hta,h8,h9,hty⟩:=hgb.ty (by intro e;rw[e]at hq;simp at hq)
 obtain⟨c0,hd⟩:=hty w0 (Below.refl _ _);obtain⟨k0,k1,k2,k3⟩:=hd q hq;obtain⟨_,c1,c2,c3⟩:=hgb.cells;have HBt:Hid (∀ (k:Nat) (_:1<=k/\k<=16) W,Calls Tryz.prog 50 #[.int .i64 g.ts[q].fl,.int .i64 (k:Int)] W λe w'=>e=.returned (.bool (zaf g.ts[q].fl k))/\w'=W):=λk hk W=>zdO hfq hk W
 have hqi:(q:Int)<(g.ts.length:Int):=by omega
 unfold imC at HW0 HKd;unfold maxLen at h9;rw[hta]at HKd;clear hw0 hb0 hgb hg hi hfq hty hd;have HTA:Hid (g.ta=_):=hta;clear hta;generalize g.ts[q]=x at *;obtain⟨f,hf⟩:∃ f,f=x.fl:=⟨_,rfl⟩;rw[<- hf]at HKd HBt k1;rw[<- hf];clear hf;unfold imV;go_enter Tryz.func137,Tryz.ntmps137;go_wp2_with (rw[<- HW0.out])
 refine Calls.mono HKd.out ?_;rintro e w1 ⟨rfl,hb1⟩;have HB1:Hid (Below w.heap.size w w1):=zaa HB0.out hb1;clear hb1 c0 c1 c2 c3 k0 k1 k2 k3 HKd;by_cases h2:zaN f=2
 ·have HR:Hid (zct f x.ex=(decide (x.ex = -1)&&(zaf f 4&&!zaf f 1&&!zaf f 8&&!zaf f 16))):=by show _=_;unfold zct;rw[if_pos h2]
  rw[h2];clear h2;by_cases he:x.ex = -1
  ·have he':(x.ex == -1)=true:=by simpa using he
   have hde:decide (x.ex = -1)=true:=decide_eq_true he;clear he;go_wp2_with fail
   refine (HBt.out 4 (by omega) _).mono ?_
   rintro e wz ⟨rfl,hz⟩;subst wz
   cases hb4:zaf f 4 with
   | true =>
    go_wp2_with fail
    refine (HBt.out 1 (by omega) _).mono ?_
    rintro e wz ⟨rfl,hz⟩;subst wz
    cases hb1:zaf f 1 with
    | true =>
     go_wp2_with fail
     go_ret;exact⟨zab (by rw[HR.out];simp[hde,hb4,hb1]),HB1.out⟩
    | false =>
     go_wp2_with fail
     refine (HBt.out 8 (by omega) _).mono ?_
     rintro e wz ⟨rfl,hz⟩;subst wz
     cases hb8:zaf f 8 with
     | true =>
      go_wp2_with fail
      go_ret;exact⟨zab (by rw[HR.out];simp[hde,hb4,hb1,hb8]),HB1.out⟩
     | false =>
      go_wp2_with fail
      refine (HBt.out 16 (by omega) _).mono ?_
      rintro e wz ⟨rfl,hz⟩;subst wz
      cases hb16:zaf f 16 with
      | true =>
       go_wp2_with fail
       go_ret;exact⟨zab (by rw[HR.out];simp[hde,hb4,hb1,hb8,hb16]),HB1.out⟩
      | false =>
       go_wp2_with fail
       go_ret;exact⟨zab (by rw[HR.out];simp[hde,hb4,hb1,hb8,hb16]),HB1.out⟩
   | false =>
    go_wp2_with fail
    go_ret;exact⟨zab (by rw[HR.out];simp[hde,hb4]),HB1.out⟩
  ·have he':(x.ex == -1)=false:=by simpa using he
   have hde:decide (x.ex = -1)=false:=decide_eq_false he;clear he;go_wp2_with fail
   go_ret;exact⟨zab (by rw[HR.out];simp[hde]),HB1.out⟩
 ·by_cases h1:zaN f=1
  ·have HR:Hid (zct f x.ex=(decide (x.ex = -1)&&(zaf f 8&&!zaf f 4&&!zaf f 16))):=by show _=_;unfold zct;rw[if_neg h2,if_pos h1]
   rw[h1];clear h1 h2;by_cases he:x.ex = -1
   ·have he':(x.ex == -1)=true:=by simpa using he
    have hde:decide (x.ex = -1)=true:=decide_eq_true he;clear he;go_wp2_with fail
    refine (HBt.out 8 (by omega) _).mono ?_
    rintro e wz ⟨rfl,hz⟩;subst wz
    cases hb8:zaf f 8 with
    | true =>
     go_wp2_with fail
     refine (HBt.out 4 (by omega) _).mono ?_
     rintro e wz ⟨rfl,hz⟩;subst wz
     cases hb4:zaf f 4 with
     | true =>
      go_wp2_with fail
      go_ret;exact⟨zab (by rw[HR.out];simp[hde,hb8,hb4]),HB1.out⟩
     | false =>
      go_wp2_with fail
      refine (HBt.out 16 (by omega) _).mono ?_
      rintro e wz ⟨rfl,hz⟩;subst wz
      cases hb16:zaf f 16 with
      | true =>
       go_wp2_with fail
       go_ret;exact⟨zab (by rw[HR.out];simp[hde,hb8,hb4,hb16]),HB1.out⟩
      | false =>
       go_wp2_with fail
       go_ret;exact⟨zab (by rw[HR.out];simp[hde,hb8,hb4,hb16]),HB1.out⟩
    | false =>
     go_wp2_with fail
     go_ret;exact⟨zab (by rw[HR.out];simp[hde,hb8]),HB1.out⟩
   ·have he':(x.ex == -1)=false:=by simpa using he
    have hde:decide (x.ex = -1)=false:=decide_eq_false he;clear he;go_wp2_with fail
    go_ret;exact⟨zab (by rw[HR.out];simp[hde]),HB1.out⟩
  ·by_cases h3:zaN f=3
   ·have HR:Hid (zct f x.ex=(decide (x.ex = -1)&&(zaf f 8&&!zaf f 4))):=by show _=_;unfold zct;rw[if_neg h2,if_neg h1,if_pos h3]
    rw[h3];clear h1 h2 h3;by_cases he:x.ex = -1
    ·have he':(x.ex == -1)=true:=by simpa using he
     have hde:decide (x.ex = -1)=true:=decide_eq_true he;clear he;go_wp2_with fail
     refine (HBt.out 8 (by omega) _).mono ?_
     rintro e wz ⟨rfl,hz⟩;subst wz
     cases hb8:zaf f 8 with
     | true =>
      go_wp2_with fail
      refine (HBt.out 4 (by omega) _).mono ?_
      rintro e wz ⟨rfl,hz⟩;subst wz
      cases hb4:zaf f 4 with
      | true =>
       go_wp2_with fail
       go_ret;exact⟨zab (by rw[HR.out];simp[hde,hb8,hb4]),HB1.out⟩
      | false =>
       go_wp2_with fail
       go_ret;exact⟨zab (by rw[HR.out];simp[hde,hb8,hb4]),HB1.out⟩
     | false =>
      go_wp2_with fail
      go_ret;exact⟨zab (by rw[HR.out];simp[hde,hb8]),HB1.out⟩
    ·have he':(x.ex == -1)=false:=by simpa using he
     have hde:decide (x.ex = -1)=false:=decide_eq_false he;clear he;go_wp2_with fail
     go_ret;exact⟨zab (by rw[HR.out];simp[hde]),HB1.out⟩
   ·have HR:Hid (zct f x.ex=true):=by show _=_;unfold zct;rw[if_neg h2,if_neg h1,if_neg h3]
    have h0:zaN f=0:=by unfold zaN at h1 h2 h3 ⊢;split <;> simp_all
    rw[h0];clear h0 h1 h2 h3;go_wp2_with fail
    go_ret;exact⟨zab HR.out.symm,HB1.out⟩
set_option maxRecDepth 100000 in
theorem zcc {g:Img} {t:Int} {w:World} (hg:Im w g) (hi:imB g=true) :
 Calls Tryz.prog 181 #[imV g,.int .i64 t] w λe w'=>∃ v,e=.returned v/\OwnI w' w.heap.size v (zbg g t)/\Below w.heap.size w w':=by
 obtain⟨w0,hw0⟩:∃ W,W=w.alloc (.cells (imC g) 26):=⟨_,rfl⟩;have HW0:Hid (w0=_):=hw0;obtain⟨hb0,hgb⟩:=GB.made hg hw0;have HB0:Hid (Below w.heap.size w w0):=hb0;have HG:Hid (GB w0 w.heap.size g):=hgb;have hln:=zax hi;have HTh:Hid (∀ W,Below w0.heap.size w0 W->Calls Tryz.prog 49 #[.agg (imC g),.int .i64 t] W λe w'=>e=.returned (.bool (zam t g.ts.length))/\Below W.heap.size W w'):=λW hW=>za0 t (hgb.im.later hW)
 have HC4:Hid (∀ W,Below w0.heap.size w0 W->W.cell? ⟨w.heap.size,0,none⟩=some (.slice g.ta g.ts.length g.tc)/\W.cell? ⟨w.heap.size,1,none⟩=some (.slice g.fa g.fs.length g.fc)/\W.cell? ⟨w.heap.size,2,none⟩=some (.slice g.ma g.ms.length g.mc)/\W.cell? ⟨w.heap.size,3,none⟩=some (.int .i64 g.en)):=λW hW=>(hgb.later hW).cells
 unfold imC at HW0 HTh;clear hw0 hb0 hgb hg hi;unfold imV;go_enter Tryz.func181,Tryz.ntmps181;go_wp2_with (rw[<- HW0.out])
 go_loopw [5,6] (λlv z wr=>∃ q:Nat,q<=g.fs.length/\z=.int .i64 q/\Hid (OwnI wr w0.heap.size lv (if zam t g.ts.length=true then pkN (λx=>decide (x.ow=t)) 0 (g.fs.take q) else []))/\Hid (Below w0.heap.size w0 wr)) (λ_ z _=>g.fs.length - (intOf z).toNat)
 case atStart=>exact⟨0,Nat.zero_le _,rfl,by show OwnI _ _ _ _;split <;> exact OwnI.nil _ _,Below.refl _ _⟩
 case round =>
  obtain⟨q,hq,rfl,HO,HB⟩:=hrel;obtain⟨c0,c1,c2,c3⟩:=HC4.out wr HB.out;by_cases hql:q<g.fs.length
  ·have hqi:(q:Int)<(g.fs.length:Int):=by omega
   go_wp2_with fail
   refine Calls.mono (HTh.out wr HB.out) ?_;rintro e w1 ⟨rfl,hb1⟩;have HB1:Hid (Below w0.heap.size w0 w1):=zaa HB.out hb1;have HO1:Hid (OwnI w1 w0.heap.size u5 (if zam t g.ts.length=true then pkN (λx=>decide (x.ow=t)) 0 (g.fs.take q) else [])):=OwnI.later HO.out hb1
   clear hb1 c0 c1 c2 c3 HO HB
   cases hn:zam t g.ts.length with
   | false =>
    rw[hn]at HO1;have HNb:Hid (zam t g.ts.length=false):=hn;clear hn;go_wp2_with fail
    go_roundw
    case rel=>exact⟨q+1,by omega,by go_num,by rw[HNb.out];exact HO1.out,HB1.out⟩
    case measure=>simp[intOf];omega
   | true =>
    rw[hn,if_pos rfl]at HO1;have HNb:Hid (zam t g.ts.length=true):=hn;have HT:Hid (pkN (λx=>decide (x.ow=t)) 0 (g.fs.take (q+1))=pkN (λx=>decide (x.ow=t)) 0 (g.fs.take q) ++ (if (λx=>decide (x.ow=t)) g.fs[q]=true then [(q:Int)] else [])):=zhq _ _ _ hql
    have hpl:=zbX (λx=>decide (x.ow=t)) (g.fs.take q) 0
    rw[List.length_take]at hpl;obtain⟨tb,off,hta,h8,h9,hty⟩:=HG.out.fd (by intro e;rw[e]at hql;simp at hql)
    obtain⟨d1,hd⟩:=hty w1 HB1.out;obtain⟨k0,k1,k2,k3,k4,k5,k6⟩:=(hd q hql).cells_F;unfold maxLen at h9;clear hd hty hta hn;by_cases hw:g.fs[q].ow=t
    ·have hwb:(g.fs[q].ow==t)=true:=by simpa using hw
     have HT2:Hid (pkN (λx=>decide (x.ow=t)) 0 (g.fs.take (q+1))=pkN (λx=>decide (x.ow=t)) 0 (g.fs.take q) ++ [(q:Int)]):=by show _=_;rw[HT.out,if_pos (by simpa using hw)]
     clear HT hw;generalize g.fs[q]=y at *;go_wp2_with (at_builtin;go_must (refine zas (v:=u5) rfl (.tmp 27) (.tmp 29) rfl w0.heap.size rfl rfl (HO1.out.later (zac _ _ _)) (zbf w1 q _ rfl) (by omega) (Nat.le_trans HB1.out.size (zac _ _ _).size) ?_;intro v5 w5 ho5 hg5;have hB5:=(zbN HB1.out _).trans (zar (HO1.out.later (zac _ _ _)) hg5 (Nat.le_refl _) (Nat.le_trans HB1.out.size (zac _ _ _).size))))
     go_roundw
     case rel=>exact⟨q+1,by omega,by go_num,by rw[HNb.out,if_pos rfl,HT2.out];exact ho5,hB5⟩
     case measure=>simp[intOf];omega
    ·have hwb:(g.fs[q].ow==t)=false:=by simpa using hw
     have HT2:Hid (pkN (λx=>decide (x.ow=t)) 0 (g.fs.take (q+1))=pkN (λx=>decide (x.ow=t)) 0 (g.fs.take q)):=by show _=_;rw[HT.out,if_neg (by simpa using hw),List.append_nil]
     clear HT hw;generalize g.fs[q]=y at *;go_wp2_with fail
     go_roundw
     case rel=>exact⟨q+1,by omega,by go_num,by rw[HNb.out,if_pos rfl,HT2.out];exact HO1.out,HB1.out⟩
     case measure=>simp[intOf];omega
  ·have hqi:¬ (q:Int)<(g.fs.length:Int):=by omega
   have HE:Hid ((if zam t g.ts.length=true then pkN (λx=>decide (x.ow=t)) 0 (g.fs.take q) else [])=zbg g t):=by show _=_;rw[List.take_of_length_le (by omega)];rfl
   go_wp2_with fail
   go_ret;exact⟨_,rfl,by rw[<- HE.out];exact HO.out.mono HB0.out.size,zaa HB0.out HB.out⟩
set_option maxRecDepth 100000 in
theorem zaU {g:Img} {t:Int} {w:World} (hg:Im w g) (hi:imB g=true) :
 Calls Tryz.prog 25 #[imV g,.int .i64 t] w λe w'=>∃ v,e=.returned v/\OwnI w' w.heap.size v (zat g t)/\Below w.heap.size w w':=by
 obtain⟨w0,hw0⟩:∃ W,W=w.alloc (.cells (imC g) 26):=⟨_,rfl⟩;have HW0:Hid (w0=_):=hw0;obtain⟨hb0,hgb⟩:=GB.made hg hw0;have HB0:Hid (Below w.heap.size w w0):=hb0;have HG:Hid (GB w0 w.heap.size g):=hgb;have hln:=zax hi;have HTh:Hid (∀ W,Below w0.heap.size w0 W->Calls Tryz.prog 49 #[.agg (imC g),.int .i64 t] W λe w'=>e=.returned (.bool (zam t g.ts.length))/\Below W.heap.size W w'):=λW hW=>za0 t (hgb.im.later hW)
 have HC4:Hid (∀ W,Below w0.heap.size w0 W->W.cell? ⟨w.heap.size,0,none⟩=some (.slice g.ta g.ts.length g.tc)/\W.cell? ⟨w.heap.size,1,none⟩=some (.slice g.fa g.fs.length g.fc)/\W.cell? ⟨w.heap.size,2,none⟩=some (.slice g.ma g.ms.length g.mc)/\W.cell? ⟨w.heap.size,3,none⟩=some (.int .i64 g.en)):=λW hW=>(hgb.later hW).cells
 unfold imC at HW0 HTh;clear hw0 hb0 hgb hg hi;unfold imV;go_enter Tryz.func25,Tryz.ntmps25;go_wp2_with (rw[<- HW0.out])
 go_loopw [5,6] (λlv z wr=>∃ q:Nat,q<=g.ms.length/\z=.int .i64 q/\Hid (OwnI wr w0.heap.size lv (if zam t g.ts.length=true then pkN (λx=>decide (x.ow=t)) 0 (g.ms.take q) else []))/\Hid (Below w0.heap.size w0 wr)) (λ_ z _=>g.ms.length - (intOf z).toNat)
 case atStart=>exact⟨0,Nat.zero_le _,rfl,by show OwnI _ _ _ _;split <;> exact OwnI.nil _ _,Below.refl _ _⟩
 case round =>
  obtain⟨q,hq,rfl,HO,HB⟩:=hrel;obtain⟨c0,c1,c2,c3⟩:=HC4.out wr HB.out;by_cases hql:q<g.ms.length
  ·have hqi:(q:Int)<(g.ms.length:Int):=by omega
   go_wp2_with fail
   refine Calls.mono (HTh.out wr HB.out) ?_;rintro e w1 ⟨rfl,hb1⟩;have HB1:Hid (Below w0.heap.size w0 w1):=zaa HB.out hb1;have HO1:Hid (OwnI w1 w0.heap.size u5 (if zam t g.ts.length=true then pkN (λx=>decide (x.ow=t)) 0 (g.ms.take q) else [])):=OwnI.later HO.out hb1
   clear hb1 c0 c1 c2 c3 HO HB
   cases hn:zam t g.ts.length with
   | false =>
    rw[hn]at HO1;have HNb:Hid (zam t g.ts.length=false):=hn;clear hn;go_wp2_with fail
    go_roundw
    case rel=>exact⟨q+1,by omega,by go_num,by rw[HNb.out];exact HO1.out,HB1.out⟩
    case measure=>simp[intOf];omega
   | true =>
    rw[hn,if_pos rfl]at HO1;have HNb:Hid (zam t g.ts.length=true):=hn;have HT:Hid (pkN (λx=>decide (x.ow=t)) 0 (g.ms.take (q+1))=pkN (λx=>decide (x.ow=t)) 0 (g.ms.take q) ++ (if (λx=>decide (x.ow=t)) g.ms[q]=true then [(q:Int)] else [])):=zhq _ _ _ hql
    have hpl:=zbX (λx=>decide (x.ow=t)) (g.ms.take q) 0
    rw[List.length_take]at hpl;obtain⟨tb,off,hta,h8,h9,hty⟩:=HG.out.md (by intro e;rw[e]at hql;simp at hql)
    obtain⟨d1,hd⟩:=hty w1 HB1.out;obtain⟨k0,k1,k2,k3,k4,k5,k6,k7,k8,k9,k10,k11⟩:=(hd q hql).cells_M;unfold maxLen at h9;clear hd hty hta hn;by_cases hw:g.ms[q].ow=t
    ·have hwb:(g.ms[q].ow==t)=true:=by simpa using hw
     have HT2:Hid (pkN (λx=>decide (x.ow=t)) 0 (g.ms.take (q+1))=pkN (λx=>decide (x.ow=t)) 0 (g.ms.take q) ++ [(q:Int)]):=by show _=_;rw[HT.out,if_pos (by simpa using hw)]
     clear HT hw;generalize g.ms[q]=y at *;go_wp2_with (at_builtin;go_must (refine zas (v:=u5) rfl (.tmp 27) (.tmp 29) rfl w0.heap.size rfl rfl (HO1.out.later (zac _ _ _)) (zbf w1 q _ rfl) (by omega) (Nat.le_trans HB1.out.size (zac _ _ _).size) ?_;intro v5 w5 ho5 hg5;have hB5:=(zbN HB1.out _).trans (zar (HO1.out.later (zac _ _ _)) hg5 (Nat.le_refl _) (Nat.le_trans HB1.out.size (zac _ _ _).size))))
     go_roundw
     case rel=>exact⟨q+1,by omega,by go_num,by rw[HNb.out,if_pos rfl,HT2.out];exact ho5,hB5⟩
     case measure=>simp[intOf];omega
    ·have hwb:(g.ms[q].ow==t)=false:=by simpa using hw
     have HT2:Hid (pkN (λx=>decide (x.ow=t)) 0 (g.ms.take (q+1))=pkN (λx=>decide (x.ow=t)) 0 (g.ms.take q)):=by show _=_;rw[HT.out,if_neg (by simpa using hw),List.append_nil]
     clear HT hw;generalize g.ms[q]=y at *;go_wp2_with fail
     go_roundw
     case rel=>exact⟨q+1,by omega,by go_num,by rw[HNb.out,if_pos rfl,HT2.out];exact HO1.out,HB1.out⟩
     case measure=>simp[intOf];omega
  ·have hqi:¬ (q:Int)<(g.ms.length:Int):=by omega
   have HE:Hid ((if zam t g.ts.length=true then pkN (λx=>decide (x.ow=t)) 0 (g.ms.take q) else [])=zat g t):=by show _=_;rw[List.take_of_length_le (by omega)];rfl
   go_wp2_with fail
   go_ret;exact⟨_,rfl,by rw[<- HE.out];exact HO.out.mono HB0.out.size,zaa HB0.out HB.out⟩
theorem zni {w:World} {base:Nat} {v:Value} {l:List Int} (h:OwnI w base v l) (hl:l.length<=100000) :
 Calls Tryz.prog 70 #[v] w λe w'=>e=.returned (.tuple #[])/\∃ l',l'.Perm l/\OwnI w' base v l'/\w.grownBy w' v.ownBlock:=by
 rcases h.2 with ⟨rfl,h0⟩ | ⟨g,cap,cur,hv,hbase,hb,h1,h2,h3,h4⟩
 ·have:l=[]:=List.eq_nil_of_length_eq_zero (by rw[zae]at h0;exact h0)
  subst this;refine (slices_Sort_int_none none 0 w).mono ?_;rintro e w' ⟨rfl,rfl⟩;exact⟨rfl,[],List.Perm.refl _,h,⟨rfl,rfl,rfl,Nat.le_refl _,λ_ _ _=>rfl⟩⟩
 ·subst hv;rw[zae]at h1 h4 ⊢;have h4':cur.toList.take l.length=l.map (Value.int .i64):=by simpa[zc4]using h4
  have hH:=holds_of_blockI hb h4';refine (slices_Sort_int g 0 cap l w hH (Array.getElem?_eq_some_iff.1 hb).1 (by omega)).mono ?_
  rintro e w' ⟨rfl,n,os,rfl⟩;have hp:=List.mergeSort_perm l (λx y=>decide (x<=y))
  refine⟨rfl,_,hp, ?_,grownBy_sortedI _⟩;have:=ownsRow_sortedI (n:=n) (os:=os) (ts:=l.mergeSort λx y=>decide (x<=y)) (ss:=l) hp.length_eq hbase hb h1 h2 h3
  unfold OwnI OwnV;rw[zae,hp.length_eq];exact this
theorem zlI {f:Int->List Int} {m:Nat}:∀ (l:List Int),(∀ x∈l,(f x).length<=m)->(l.flatMap f).length<=l.length * m
 | [],_=>by simp
 | x :: r,h=>by
  have h1:=zlI r (λy hy=>h y (List.mem_cons_of_mem _ hy))
  have h2:=h x (by simp)
  simp only[List.flatMap_cons,List.length_append,List.length_cons,Nat.add_mul];omega
set_option maxRecDepth 100000 in
theorem zhP {g:Img} {t:Int} {w:World} (hg:Im w g) (hi:imB g=true) (hw:Wf t) :
 Calls Tryz.prog 43 #[imV g,.int .i64 t] w λe w'=>∃ v l,e=.returned v/\l.Perm (zbj g t)/\OwnI w' w.heap.size v l/\Below w.heap.size w w':=by
 obtain⟨w0,hw0⟩:∃ W,W=w.alloc (.cells (imC g) 26):=⟨_,rfl⟩;have HW0:Hid (w0=_):=hw0;obtain⟨hb0,hgb⟩:=GB.made hg hw0;have HB0:Hid (Below w.heap.size w w0):=hb0;have HG:Hid (GB w0 w.heap.size g):=hgb;have HI:Hid (imB g=true):=hi;have hln:=(zax hi).1;have HK:Hid (∀ W,Below w0.heap.size w0 W->W.cell? ⟨w.heap.size,0,none⟩=some (.slice g.ta g.ts.length g.tc)/\W.cell? ⟨w.heap.size,1,none⟩=some (.slice g.fa g.fs.length g.fc)/\W.cell? ⟨w.heap.size,2,none⟩=some (.slice g.ma g.ms.length g.mc)/\W.cell? ⟨w.heap.size,3,none⟩=some (.int .i64 g.en)):=λW hW=>(hgb.later hW).cells
 have HUp:Hid (Calls Tryz.prog 60 #[.agg (imC g),.int .i64 t] w0 λe w'=>∃ v,e=.returned v/\OwnI w' w0.heap.size v (upL g t)/\Below w0.heap.size w0 w'):=ziE hgb.im hi hw
 have HFl:Hid (∀ q:Nat,((upL g t).take q).flatMap (fsI g)=((upL g t).take q).flatMap (fsI g)/\(((upL g t).take q).flatMap (fsI g)).length<=200):=λq=>by
  refine⟨rfl, ?_⟩;have h1:=(zcw g t).len;have h2:=zlI (f:=fsI g) (m:=4) ((upL g t).take q) (λx hx=>by
   obtain⟨k,rfl,hk⟩:=zaK ((zcw g t).1 x (List.mem_of_mem_take hx));rw[zef hk];exact (zbD hi hk).2.1)
  rw[List.length_take]at h2;omega
 obtain⟨c0,c1,c2,c3⟩:=hgb.cells;unfold imC at HW0 HUp;clear hw0 hb0 hgb hg hi hw;unfold imV;go_enter Tryz.func43,Tryz.ntmps43;go_wp2_with (rw[<- HW0.out])
 refine Calls.mono HUp.out ?_;rintro e w1 ⟨uv,rfl,hu,hb1⟩;have HU:Hid (OwnI w1 w0.heap.size uv (upL g t)):=hu;have HB1:Hid (Below w0.heap.size w0 w1):=hb1;have HUN:Hid (Nd g.ts.length 0 (upL g t)):=zcw g t;obtain⟨up,hup⟩:∃ X,X=upL g t:=⟨_,rfl⟩;have HUE:Hid (zbj g t=zau g.ts.length (fsI g) (up.flatMap (fsI g))):=by show _=_;rw[hup];rfl
 rw[<- hup]at HU HUN HFl;obtain⟨ua,uc,huv,_,_⟩:=(show Is w1 uv up from HU.out.is).shape
 subst huv;clear hu hb1 c0 c1 c2 c3 HUp hup;go_wp2_with fail
 go_loopw [5,7,13] (λlv _ z wr=>∃ q:Nat,q<=up.length/\z=.int .i64 q/\Hid (OwnI wr w1.heap.size lv ((up.take q).flatMap (fsI g)))/\Hid (Below w1.heap.size w1 wr)) (λ_ _ z _=>up.length - (intOf z).toNat)
 case atStart=>exact⟨0,Nat.zero_le _,rfl,OwnI.nil _ _,Below.refl _ _⟩
 case round =>
  obtain⟨q,hq,rfl,HO,HB⟩:=hrel;have hupl:=HUN.out.len;by_cases hql:q<up.length
  ·obtain⟨ub,uoff,hua,hub,_,h6,h7,hc⟩:=(show Is wr (.slice ua up.length uc) up from Sl.later HU.out.is HB.out).at hql
   have cq:=hc q hql;obtain⟨k,hkk,hkl⟩:=zaK (HUN.out.1 _ (List.getElem_mem hql));have HT:Hid ((up.take (q+1)).flatMap (fsI g)=(up.take q).flatMap (fsI g) ++ g.ts[k].fs):=by show _=_;rw[zds hql,hkk,zef hkl]
   have HLn:Hid (((up.take q).flatMap (fsI g)).length<=200):=(HFl.out q).2;rw[hkk]at cq;obtain⟨tb,off,hta,h8,h9,hty⟩:=HG.out.ty (by intro e;rw[e]at hkl;simp at hkl)
   obtain⟨d0,hd⟩:=hty wr (HB1.out.trans (HB.out.mono HB1.out.size));obtain⟨_,_,_,d3⟩:=hd k hkl;have HFs:Hid (∀ W,Below w0.heap.size w0 W->Is W (.slice g.ts[k].fa g.ts[k].fs.length g.ts[k].fc) g.ts[k].fs):=λW hW=>Sl.later (HG.out.im.tok _ (List.getElem_mem hkl)).toIs hW
   have hf4:=(zbD HI.out hkl).2.1;subst hua;unfold maxLen at h7 h9;clear hc hty hkk hta hd;generalize g.ts[k]=x at *;have HB01:Hid (Below w0.heap.size w0 wr):=HB1.out.trans (HB.out.mono HB1.out.size);go_wp2_with (at_builtin;go_must (refine zbv rfl (.tmp 17) (.tmp 23) 40 40 rfl w1.heap.size 3 (.int .i64 0) 8 Tryz.underlying40 Tryz.infoInt7 rfl (v:=u5) (y:=.slice x.fa x.fs.length x.fc) rfl rfl HO.out (Sl.src (HFs.out _ HB01.out) Tryz.underlying40 (zg8 _)) (by have:=HLn.out;rw[zae,zae];unfold maxLen;omega) (by have:=HLn.out;rw[zae,zae];omega) HB.out.size ?_;intro v5 w5 ho5 hg5 hp5 hs5))
   have HO5:Hid (OwnI w5 w1.heap.size v5 ((up.take q).flatMap (fsI g) ++ x.fs)):=by
    show OwnV _ _ _ _ _;rw[zda];exact ho5
   have HB5:Hid (Below w1.heap.size w1 w5):=HB.out.trans (zar HO.out hg5 (Nat.le_refl _) HB.out.size);clear ho5 hg5 hp5 hs5 d0 d3 cq;go_roundw
   case rel=>exact⟨q+1,by omega,by go_num,by rw[HT.out];exact HO5.out,HB5.out⟩
   case measure=>simp[intOf];omega
  ·have HOw:Hid (OwnI wr w1.heap.size u5 (up.flatMap (fsI g))):=by
    have:=HO.out
    rwa [List.take_of_length_le (by omega)]at this
   have HB01:Hid (Below w0.heap.size w0 wr):=HB1.out.trans (HB.out.mono HB1.out.size);have HKr:Hid (∀ W,Below wr.heap.size wr W->W.cell? ⟨w.heap.size,0,none⟩=some (.slice g.ta g.ts.length g.tc)/\W.cell? ⟨w.heap.size,1,none⟩=some (.slice g.fa g.fs.length g.fc)/\W.cell? ⟨w.heap.size,2,none⟩=some (.slice g.ma g.ms.length g.mc)/\W.cell? ⟨w.heap.size,3,none⟩=some (.int .i64 g.en)):=λW hW=>HK.out W (zaa HB01.out hW)
   have HGO:Hid (∀ W kb,Below wr.heap.size wr W->At W kb (imC g) 26->Calls Tryz.prog 68 #[.agg (imC g),u5,.func (.func 93) #[] #[.pointer (some ⟨kb,0,none⟩)]] W λe w'=>∃ v,e=.returned v/\OwnI w' wr.heap.size v (zbj g t)/\Below wr.heap.size wr w'):=by
    intro W kb hbW hkb;have hGB:GB W kb g:=⟨hkb,HG.out.im.later (zaa HB01.out hbW)⟩;refine (zgn hGB.im (by omega) (HOw.out.later hbW).is (λ_ k hk=>((HOw.out.later hbW).block k hk).2) (λx hx=>?_) (zip hGB HI.out)).mono ?_
    ·obtain⟨y,hy,hx⟩:=List.mem_flatMap.1 hx;obtain⟨k,rfl,hkl⟩:=zaK (HUN.out.1 y hy);rw[zef hkl]at hx;exact zeG (by omega) ((zbD HI.out hkl).2.2 x hx)
    ·rintro e w' ⟨v,rfl,ho,hb⟩;rw[<- HUE.out]at ho;exact⟨v,rfl,ho.mono hbW.size,zaa hbW hb⟩
   have HBF:Hid (∀ W,Calls Tryz.prog 69 #[.agg (imC g)] W λe w'=>e=.returned (.func (.func 93) #[] #[.pointer (some ⟨W.heap.size,0,none⟩)])/\w'=W.alloc (.cells (imC g) 26)):=λW=>ze5 W
   obtain⟨c0,c1,c2,c3⟩:=HKr.out wr (Below.refl _ _);clear HO HB;go_wp2_with fail
   go_region_held3 (λW=>W.cell? ⟨w.heap.size,0,none⟩=some (.slice g.ta g.ts.length g.tc)/\W.cell? ⟨w.heap.size,1,none⟩=some (.slice g.fa g.fs.length g.fc)/\W.cell? ⟨w.heap.size,2,none⟩=some (.slice g.ma g.ms.length g.mc)/\W.cell? ⟨w.heap.size,3,none⟩=some (.int .i64 g.en))
    (first | (exact HKr.out _ hb2) | (exact HKr.out _ (zad _)) | (exact HKr.out _ (zbN (zad _) _)))
    (first | (go_at_call 69;refine (HBF.out _).mono ?_;rintro e w2 ⟨rfl,hz1⟩;subst hz1) | (go_at_call 68;refine (HGO.out _ _ (zbN (zad _) _) (At.made _ _ _)).mono ?_;rintro e w3 ⟨v,rfl,ho2,hb2⟩))
   rename_i hheld
   clear hheld;have HB3:Hid (Below w0.heap.size w0 w3):=zaa HB01.out hb2;have HO3:Hid (OwnI w3 wr.heap.size v (zbj g t)):=ho2;have HSo:Hid (Calls Tryz.prog 70 #[v] w3 λe w'=>e=.returned (.tuple #[])/\∃ l',l'.Perm (zbj g t)/\OwnI w' wr.heap.size v l'/\w3.grownBy w' v.ownBlock):=zni ho2 (by have:=zm7 g.ts.length (fsI g) ((upL g t).flatMap (fsI g));unfold zbj;omega)
   clear ho2 hb2 c0 c1 c2 c3;go_wp2_with fail
   refine Calls.mono HSo.out ?_;rintro e w4 ⟨rfl,l',hperm,ho4,hg4⟩;have HB4:Hid (Below w0.heap.size w0 w4):=HB3.out.trans (zar HO3.out hg4 HB01.out.size HB3.out.size);have HO4:Hid (OwnI w4 wr.heap.size v l'):=ho4;clear ho4 hg4;go_wp2_with fail
   go_ret;exact⟨_,l',rfl,hperm,HO4.out.mono (Nat.le_trans HB0.out.size HB01.out.size),zaa HB0.out HB4.out⟩
theorem znG {g:Img} {a b:Int} {w:World} (hg:Im w g) (hi:imB g=true) (hw:Wf a) :
 Calls Tryz.prog 32 #[imV g,.int .i64 a,.int .i64 b] w λe w'=>e=.returned (.bool (zmn g a b))/\Below w.heap.size w w':=by
 obtain⟨w0,hw0⟩:∃ W,W=w.alloc (.cells (imC g) 26):=⟨_,rfl⟩;have HW0:Hid (w0=_):=hw0;obtain⟨hb0,hgb⟩:=GB.made hg hw0;have HB0:Hid (Below w.heap.size w w0):=hb0;have HK:Hid (∀ W,Below w0.heap.size w0 W->GB W w.heap.size g):=λW hW=>hgb.later hW
 have HUp:Hid (Calls Tryz.prog 60 #[.agg (imC g),.int .i64 a] w0 λe w'=>∃ v,e=.returned v/\OwnI w' w0.heap.size v (upL g a)/\Below w0.heap.size w0 w'):=ziE hgb.im hi hw
 have HFa:Hid (∀ W,Below w0.heap.size w0 W->Calls Tryz.prog 43 #[.agg (imC g),.int .i64 a] W λe w'=>∃ v l,e=.returned v/\l.Perm (zbj g a)/\OwnI w' W.heap.size v l/\Below W.heap.size W w'):=λW hW=>zhP (hgb.im.later hW) hi hw
 have HR:Hid (zmn g a b=((upL g a).contains b||(zbj g a).contains b)):=rfl
 obtain⟨c0,c1,c2,c3⟩:=hgb.cells;unfold imC at HW0 HUp HFa;clear hw0 hb0 hgb hg hi hw;unfold imV;go_enter Tryz.func32,Tryz.ntmps32;go_wp2_with (rw[<- HW0.out])
 refine Calls.mono HUp.out ?_;rintro e w1 ⟨uv,rfl,hu,hb1⟩;have HB1:Hid (Below w0.heap.size w0 w1):=hb1;have HCo:Hid (Calls Tryz.prog 59 #[uv,.int .i64 b] w1 λe w'=>e=.returned (.bool ((upL g a).contains b))/\w'=w1):=zbV hu.is b
 clear hu hb1 c0 c1 c2 c3 HUp;go_wp2_with fail
 refine Calls.mono HCo.out ?_;rintro e wz ⟨rfl,hz⟩;subst wz
 cases hc:(upL g a).contains b with
 | true =>
  have HE:Hid (zmn g a b=true):=by show _=_;rw[HR.out,hc];rfl
  clear hc HCo HR;go_wp2_with fail
  go_ret;exact⟨zab HE.out.symm,zaa HB0.out HB1.out⟩
 | false =>
  have HE:Hid (zmn g a b=(zbj g a).contains b):=by show _=_;rw[HR.out,hc];rfl
  obtain⟨c0,c1,c2,c3⟩:=(HK.out w1 HB1.out).cells;clear hc HCo HR;go_wp2_with fail
  refine Calls.mono (HFa.out w1 HB1.out) ?_;rintro e w2 ⟨fv,l,rfl,hp,hf,hb2⟩;have HB2:Hid (Below w0.heap.size w0 w2):=zaa HB1.out hb2;have HLc:Hid (l.contains b=(zbj g a).contains b):=by
   show _=_;rw[Bool.eq_iff_iff,List.contains_iff_mem,List.contains_iff_mem];exact hp.mem_iff
  have HC2:Hid (Calls Tryz.prog 59 #[fv,.int .i64 b] w2 λe w'=>e=.returned (.bool (l.contains b))/\w'=w2):=zbV hf.is b
  clear hf hb2 c0 c1 c2 c3 hp;go_wp2_with fail
  refine Calls.mono HC2.out ?_;rintro e wz ⟨rfl,hz⟩;subst wz;generalize l.contains b=r at *;go_wp2_with fail
  go_ret;exact⟨zab (by rw[HE.out,HLc.out]),zaa HB0.out HB2.out⟩
end Go.Proofs.YtkedhjdipnhgdaaGreat
