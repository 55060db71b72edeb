import Derived.Test.YtkedhjdipnhgdaaGreatR23
namespace Go.Proofs.YtkedhjdipnhgdaaGreat
set_option maxHeartbeats 16000000
set_option linter.all false
open RowKit
attribute [local go_sem ↓] wp_at_zero wp_at_succ
theorem zmL:∀ f:Fin 32,((bits .and .i64 (f.val:Int) 29==4)=(zaf (f.val:Int) 4&&!zaf (f.val:Int) 1&&!zaf (f.val:Int) 8&&!zaf (f.val:Int) 16))/\((bits .and .i64 (f.val:Int) 28==8)=(zaf (f.val:Int) 8&&!zaf (f.val:Int) 4&&!zaf (f.val:Int) 16))/\((bits .and .i64 (f.val:Int) 12==8)=(zaf (f.val:Int) 8&&!zaf (f.val:Int) 4)):=by decide +kernel
theorem zoq {f:Int} (h:0<=f/\f<=31):((bits .and .i64 f 29==4)=(zaf f 4&&!zaf f 1&&!zaf f 8&&!zaf f 16))/\((bits .and .i64 f 28==8)=(zaf f 8&&!zaf f 4&&!zaf f 16))/\((bits .and .i64 f 12==8)=(zaf f 8&&!zaf f 4)):=by
 have:=zmL ⟨f.toNat,by omega⟩
 have e:((f.toNat:Nat):Int)=f:=by omega
 simp only[e]at this;exact this
theorem zbp (f:Int):zaN f=0∨zaN f=2∨zaN f=1∨zaN f=3:=by
 unfold zaN
 split
 ·simp
 ·split
  ·simp
  ·split <;> simp
theorem zmG {g:Img} {q:Nat} {w:World} (hg:Im w g) (hi:imB g=true) (hq:q<g.ts.length) :
 Calls Tryz.prog 113 #[imV g,.int .i64 q] w λe w'=>e=.returned (.bool (zct g.ts[q].fl g.ts[q].ex))/\Below w.heap.size w w':=by
 obtain⟨w0,hw0⟩:∃ W,W=w.alloc (.cells (imC g) 26):=⟨_,rfl⟩;have HW0:Hid (w0=_):=hw0;obtain⟨hb0,hgb⟩:=GB.made hg hw0;have HB0:Hid (Below w.heap.size w w0):=hb0;have hfq:=FlOk.of hi _ (List.getElem_mem hq);have HKd:Hid (Calls Tryz.prog 16 #[.agg (imC g),.int .i64 q] w0 λe w'=>e=.returned (.int .i64 (zaN g.ts[q].fl))/\Below w0.heap.size w0 w'):=by
  have:=zaQ (q:Int) hgb.im (FlOk.of hi)
  rwa [zec hq]at this
 obtain⟨tb,off,hta,h8,h9,hty⟩:=hgb.ty (by intro e;rw[e]at hq;simp at hq)
 have HTY:Hid (∀ W,Below w0.heap.size w0 W->W.cell? ⟨w.heap.size,0,none⟩=some (.slice (some ⟨tb,off,none⟩) g.ts.length g.tc)/\W.cell? ⟨tb,off+q * 4,none⟩=some (.string g.ts[q].nm)/\W.cell? ⟨tb,off+q * 4+1,none⟩=some (.int .i64 g.ts[q].fl)/\W.cell? ⟨tb,off+q * 4+2,none⟩=some (.int .i64 g.ts[q].ex)/\W.cell? ⟨tb,off+q * 4+3,none⟩=some (.slice g.ts[q].fa g.ts[q].fs.length g.ts[q].fc)):=λW hW=>⟨(hty W hW).1,(hty W hW).2 q hq⟩
 obtain⟨c0,c1,c2,c3⟩:=hgb.cells;have hqi:(q:Int)<(g.ts.length:Int):=by omega
 obtain⟨ha1,ha2,ha3⟩:=zoq hfq;unfold imC at HW0 HKd;unfold maxLen at h9;rw[hta]at HKd c0 HW0;clear hw0 hb0 hgb hg hi hfq hty;unfold imV;rw[hta];clear hta;generalize g.ts[q]=x at *;obtain⟨f,hf⟩:∃ f,f=x.fl:=⟨_,rfl⟩;rw[<- hf]at HKd ha1 ha2 ha3 HTY;rw[<- hf];clear hf;go_enter Tryz.func113,Tryz.ntmps113;go_wp2_with (rw[<- HW0.out])
 refine Calls.mono HKd.out ?_;rintro e w1 ⟨rfl,hb1⟩;have HB1:Hid (Below w0.heap.size w0 w1):=hb1;obtain⟨d0,k0,k1,k2,k3⟩:=HTY.out w1 hb1;obtain⟨w2,hw2⟩:∃ W,W=w1.alloc (.cells #[.string x.nm,.int .i64 f,.int .i64 x.ex,.slice x.fa x.fs.length x.fc] 44):=⟨_,rfl⟩;have HW2:Hid (w2=_):=hw2;have hA:At w2 w1.heap.size #[.string x.nm,.int .i64 f,.int .i64 x.ex,.slice x.fa x.fs.length x.fc] 44:=by rw[hw2];exact At.made _ _ _
 have HB2:Hid (Below w.heap.size w w2):=zaa HB0.out (zaa HB1.out (by rw[hw2];exact zac _ _ _))
 have e1:=hA.cell 1;have e2:=hA.cell 2;simp at e1 e2;clear hA hw2 hb1 c0 c1 c2 c3 HKd HTY
 rcases zbp f with hk | hk | hk | hk
 ·have HR:Hid (zct f x.ex=true):=by show _=_;unfold zct;rw[hk];rfl
  rw[hk];clear hk;go_wp2_with (rw[<- HW2.out])
  go_ret;exact⟨zab HR.out.symm,zaa HB0.out HB1.out⟩
 ·have HR:Hid (zct f x.ex=(decide (x.ex = -1)&&(bits .and .i64 f 29==4))):=by show _=_;unfold zct;rw[if_pos hk,ha1]
  rw[hk];clear hk ha1 ha2 ha3;obtain⟨b,hb⟩:∃ b,b=(bits .and .i64 f 29==4):=⟨_,rfl⟩;rw[<- hb]at HR
  cases b with
  | false =>
   have hb':=hb.symm;clear hb;go_wp2_with (rw[<- HW2.out])
   go_ret;exact⟨zab (by rw[HR.out];simp),HB2.out⟩
  | true =>
   have hb':=hb.symm;clear hb;go_wp2_with (rw[<- HW2.out])
   go_ret;exact⟨zab (by rw[HR.out,Bool.and_true,Bool.eq_iff_iff];simp),HB2.out⟩
 ·have HR:Hid (zct f x.ex=(decide (x.ex = -1)&&(bits .and .i64 f 28==8))):=by show _=_;unfold zct;rw[hk,if_neg (by decide),if_pos rfl,ha2]
  rw[hk];clear hk ha1 ha2 ha3;obtain⟨b,hb⟩:∃ b,b=(bits .and .i64 f 28==8):=⟨_,rfl⟩;rw[<- hb]at HR
  cases b with
  | false =>
   have hb':=hb.symm;clear hb;go_wp2_with (rw[<- HW2.out])
   go_ret;exact⟨zab (by rw[HR.out];simp),HB2.out⟩
  | true =>
   have hb':=hb.symm;clear hb;go_wp2_with (rw[<- HW2.out])
   go_ret;exact⟨zab (by rw[HR.out,Bool.and_true,Bool.eq_iff_iff];simp),HB2.out⟩
 ·have HR:Hid (zct f x.ex=(decide (x.ex = -1)&&(bits .and .i64 f 12==8))):=by show _=_;unfold zct;rw[hk,if_neg (by decide),if_neg (by decide),if_pos rfl,ha3]
  rw[hk];clear hk ha1 ha2 ha3;obtain⟨b,hb⟩:∃ b,b=(bits .and .i64 f 12==8):=⟨_,rfl⟩;rw[<- hb]at HR
  cases b with
  | false =>
   have hb':=hb.symm;clear hb;go_wp2_with (rw[<- HW2.out])
   go_ret;exact⟨zab (by rw[HR.out];simp),HB2.out⟩
  | true =>
   have hb':=hb.symm;clear hb;go_wp2_with (rw[<- HW2.out])
   go_ret;exact⟨zab (by rw[HR.out,Bool.and_true,Bool.eq_iff_iff];simp),HB2.out⟩
end Go.Proofs.YtkedhjdipnhgdaaGreat
