import Derived.Test.YtkedhjdipnhgdaaGreatR08
namespace Go.Proofs.YtkedhjdipnhgdaaGreat
set_option maxHeartbeats 16000000
set_option linter.all false
open RowKit
attribute [local go_sem ↓] wp_at_zero wp_at_succ
theorem zpb (a b:Cl) (w:World) :
 Calls Tryz.prog 255 #[clV a,clV b] w λe w'=>e=.returned (.bool (zbh a b))/\Below w.heap.size w w':=by
 obtain⟨w0,hw0⟩:∃ W,W=(w.alloc (.cells #[.int .i64 a.k,.int .i64 a.tf,.int .i64 a.tt,.int .i64 a.hf,.int .i64 a.ht,.int .i64 a.fi,.int .i64 a.t0,.int .i64 a.t1,.int .i64 a.t2,.bool a.t3] 85)).alloc (.cells #[.int .i64 b.k,.int .i64 b.tf,.int .i64 b.tt,.int .i64 b.hf,.int .i64 b.ht,.int .i64 b.fi,.int .i64 b.t0,.int .i64 b.t1,.int .i64 b.t2,.bool b.t3] 85):=⟨_,rfl⟩;have HW0:Hid (w0=_):=hw0;have HB0:Hid (Below w.heap.size w w0):=by rw[hw0];exact zbN (zac _ _ _) _
 have hA:At w0 w.heap.size (clC a).toArray 85:=by rw[hw0];exact (At.made w (clC a).toArray _).next _
 have hA2:At w0 (w.heap.size+1) (clC b).toArray 85:=by
  rw[hw0];exact At.made2 w _ (clC b).toArray 85
 have HK:Hid (∀ W,Below w0.heap.size w0 W->Ten W w.heap.size 0 a/\Ten W (w.heap.size+1) 0 b):=λW hW=>⟨(hA.later hW).ten,(hA2.later hW).ten⟩
 have HBo:Hid (∀ W q,Calls Tryz.prog 257 #[.agg #[.int .i64 b.k,.int .i64 b.tf,.int .i64 b.tt,.int .i64 b.hf,.int .i64 b.ht,.int .i64 b.fi,.int .i64 b.t0,.int .i64 b.t1,.int .i64 b.t2,.bool b.t3],.int .i64 q] W λe w'=>e=.returned (.tuple #[.int .i64 (bnd b q).1,.int .i64 (bnd b q).2])/\Below W.heap.size W w'):=λW q=>zbH b q W
 have HWi:Hid (∀ W p q,Calls Tryz.prog 258 #[.agg #[.int .i64 a.k,.int .i64 a.tf,.int .i64 a.tt,.int .i64 a.hf,.int .i64 a.ht,.int .i64 a.fi,.int .i64 a.t0,.int .i64 a.t1,.int .i64 a.t2,.bool a.t3],.int .i64 p,.agg #[.int .i64 b.k,.int .i64 b.tf,.int .i64 b.tt,.int .i64 b.hf,.int .i64 b.ht,.int .i64 b.fi,.int .i64 b.t0,.int .i64 b.t1,.int .i64 b.t2,.bool b.t3],.int .i64 q] W λe w'=>e=.returned (.bool (zay a p b q))/\Below W.heap.size W w'):=λW p q=>zkW a p b q W
 have HMe:Hid (∀ W p q,Calls Tryz.prog 256 #[.agg #[.int .i64 a.k,.int .i64 a.tf,.int .i64 a.tt,.int .i64 a.hf,.int .i64 a.ht,.int .i64 a.fi,.int .i64 a.t0,.int .i64 a.t1,.int .i64 a.t2,.bool a.t3],.int .i64 p,.agg #[.int .i64 b.k,.int .i64 b.tf,.int .i64 b.tt,.int .i64 b.hf,.int .i64 b.ht,.int .i64 b.fi,.int .i64 b.t0,.int .i64 b.t1,.int .i64 b.t2,.bool b.t3],.int .i64 q] W λe w'=>e=.returned (.bool (zap a p b q))/\Below W.heap.size W w'):=λW p q=>zh7 a p b q W
 clear hw0 hA hA2;unfold clV;go_enter Tryz.func255,Tryz.ntmps255;go_wp2_with (rw[<- HW0.out])
 go_loopw [5] (λz wr=>∃ q:Int,1<=q/\q<=4/\z=.int .i64 q/\Below w0.heap.size w0 wr/\Hid (∀ k,1<=k->k<q->za5 a b k=false)) (λz _=>4 - (intOf z).toNat)
 case atStart=>exact⟨1,by omega,by omega,rfl,Below.refl _ _,λk h1 h2=>by omega⟩
 case round =>
  obtain⟨q,hq1,hq4,rfl,hB,HZ⟩:=hrel;have HBL:Hid (Below w0.heap.size w0 wr):=hB;by_cases hq3:q<=3
  ·obtain⟨_,d0,d1,d2,d3,d4,d5,d6,d7,d8,d9⟩:=HK.out wr hB;have HHo:Hid (za5 a b q=(decide ((bnd b q).1<(bnd b q).2)&&zay a 1 b q&&zay a 2 b q&&zay a 3 b q)):=rfl;have HNx:Hid (za5 a b q=false->∀ k,1<=k->k<q+1->za5 a b k=false):=λh k h1 h2=>by
    rcases Int.lt_or_le k q with g | g
    ·exact HZ.out k h1 g
    ·obtain rfl:k=q:=by omega
     exact h
   have HYe:Hid (za5 a b q=true->zbh a b=true):=λh=>by
    unfold zbh;have:q=1∨q=2∨q=3:=by omega
    rcases this with rfl | rfl | rfl <;> rw[if_pos (by simp[h])]
   clear hB;go_wp2_with fail
   refine (HBo.out _ _).mono ?_;rintro e w1 ⟨rfl,hb1⟩;have hB1:=zaa HBL.out hb1;have HB1:Hid (Below w0.heap.size w0 w1):=hB1;clear hb1 d0 d1 d2 d3 d4 d5 d6 d7 d8 d9;obtain⟨⟨e0,e1,e2,e3,e4,e5,e6,e7,e8,e9⟩,d0,d1,d2,d3,d4,d5,d6,d7,d8,d9⟩:=HK.out w1 hB1;clear hB1;generalize (bnd b q).1=x at *;generalize (bnd b q).2=y at *;by_cases hxy:x<y
   ·go_wp2_with fail
    refine (HWi.out _ _ _).mono ?_;rintro e w2 ⟨rfl,hb2⟩;have HB2:Hid (Below w0.heap.size w0 w2):=zaa HB1.out hb2;clear hb2 e0 e1 e2 e3 e4 e5 e6 e7 e8 e9 d0 d1 d2 d3 d4 d5 d6 d7 d8 d9;obtain⟨⟨e0,e1,e2,e3,e4,e5,e6,e7,e8,e9⟩,d0,d1,d2,d3,d4,d5,d6,d7,d8,d9⟩:=HK.out w2 HB2.out
    cases hw1:zay a 1 b q with
    | false =>
     have HF:Hid (za5 a b q=false):=by show _=_;rw[HHo.out,hw1];simp
     go_wp2_with fail
     go_roundw
     case rel=>exact⟨q+1,by omega,by omega,by go_num,HB2.out,HNx.out HF.out⟩
     case measure=>simp[intOf];omega
    | true =>
     go_wp2_with fail
     refine (HWi.out _ _ _).mono ?_;rintro e w3 ⟨rfl,hb3⟩;have HB3:Hid (Below w0.heap.size w0 w3):=zaa HB2.out hb3;clear hb3 e0 e1 e2 e3 e4 e5 e6 e7 e8 e9 d0 d1 d2 d3 d4 d5 d6 d7 d8 d9;obtain⟨⟨e0,e1,e2,e3,e4,e5,e6,e7,e8,e9⟩,d0,d1,d2,d3,d4,d5,d6,d7,d8,d9⟩:=HK.out w3 HB3.out
     cases hw2:zay a 2 b q with
     | false =>
      have HF:Hid (za5 a b q=false):=by show _=_;rw[HHo.out,hw2];simp
      go_wp2_with fail
      go_roundw
      case rel=>exact⟨q+1,by omega,by omega,by go_num,HB3.out,HNx.out HF.out⟩
      case measure=>simp[intOf];omega
     | true =>
      go_wp2_with fail
      refine (HWi.out _ _ _).mono ?_;rintro e w4 ⟨rfl,hb4⟩;have HB4:Hid (Below w0.heap.size w0 w4):=zaa HB3.out hb4;clear hb4 e0 e1 e2 e3 e4 e5 e6 e7 e8 e9 d0 d1 d2 d3 d4 d5 d6 d7 d8 d9;obtain⟨⟨e0,e1,e2,e3,e4,e5,e6,e7,e8,e9⟩,d0,d1,d2,d3,d4,d5,d6,d7,d8,d9⟩:=HK.out w4 HB4.out
      cases hw3:zay a 3 b q with
      | false =>
       have HF:Hid (za5 a b q=false):=by show _=_;rw[HHo.out,hw3];simp
       go_wp2_with fail
       go_roundw
       case rel=>exact⟨q+1,by omega,by omega,by go_num,HB4.out,HNx.out HF.out⟩
       case measure=>simp[intOf];omega
      | true =>
       have HT:Hid (zbh a b=true):=HYe.out (by rw[HHo.out,hw1,hw2,hw3,decide_eq_true hxy];rfl)
       go_wp2_with fail
       go_ret;exact⟨zab HT.out.symm,zaa HB0.out HB4.out⟩
   ·have HF:Hid (za5 a b q=false):=by show _=_;rw[HHo.out,decide_eq_false hxy];rfl
    go_wp2_with fail
    go_roundw
    case rel=>exact⟨q+1,by omega,by omega,by go_num,HB1.out,HNx.out HF.out⟩
    case measure=>simp[intOf];omega
  ·have HNo:Hid ((za5 a b 1||za5 a b 2||za5 a b 3)=false):=by
    show _=_;rw[HZ.out 1 (by omega) (by omega),HZ.out 2 (by omega) (by omega),HZ.out 3 (by omega) (by omega)];rfl
   obtain⟨⟨e0,e1,e2,e3,e4,e5,e6,e7,e8,e9⟩,d0,d1,d2,d3,d4,d5,d6,d7,d8,d9⟩:=HK.out wr hB;have HSm:Hid (zeg a b=(decide (a.tf=b.tf)&&decide (a.tt=b.tt))):=rfl;obtain⟨sv,hsv⟩:∃ s,s=zeg a b:=⟨_,rfl⟩;have HSv:Hid (sv=zeg a b):=hsv;have HTt:Hid ((a.tf==b.tf)=true/\(a.tt==b.tt)=sv∨(a.tf==b.tf)=false/\sv=false):=by
    show _∨_;rw[hsv,HSm.out]
    cases h1:(a.tf==b.tf) with
    | true =>
     rw[beq_iff_eq]at h1;rw[decide_eq_true h1];refine .inl ⟨rfl, ?_⟩;rw[Bool.eq_iff_iff];simp
    | false =>
     rw[beq_eq_false_iff_ne]at h1;rw[decide_eq_false h1];exact .inr ⟨rfl,rfl⟩
   clear hB hsv;have HFt:Hid ((za1 a b 1||za1 a b 2||za1 a b 3)=false->zbh a b=true):=λh=>by unfold zbh;rw[if_neg (by rw[HNo.out];decide),h];rfl
   have HFf:Hid (∀ p q,1<=p->p<=3->1<=q->q<=3->zbG a b p q=true->zbh a b=false):=λp q hp1 hp3 hq1 hq3 h=>by
    have hb:za1 a b p=true:=by
     unfold za1;have:q=1∨q=2∨q=3:=by omega
     rcases this with rfl | rfl | rfl <;> simp[h]
    unfold zbh;rw[if_neg (by rw[HNo.out];decide)]
    have:p=1∨p=2∨p=3:=by omega
    rcases this with rfl | rfl | rfl <;> simp[hb]
   obtain⟨h1,h2⟩ | ⟨h1,h2⟩:=HTt.out
   ·cases sv with
    | true =>
     go_wp2_with fail
     obtain⟨wo,rfl⟩:∃ wo,wo=wr:=⟨_,rfl⟩;go_loopw [9] (λz wr=>∃ p:Int,1<=p/\p<=4/\z=.int .i64 p/\Below w0.heap.size w0 wr/\Hid (∀ k,1<=k->k<p->za1 a b k=false)) (λz _=>4 - (intOf z).toNat)
     case atStart=>exact⟨1,by omega,by omega,rfl,HBL.out,λk h1 h2=>by omega⟩
     case round =>
      obtain⟨p,hp1,hp4,rfl,hB,HZp⟩:=hrel;have HBp:Hid (Below w0.heap.size w0 wr):=hB;clear hB;by_cases hp3:p<=3
      ·go_wp2_with fail
       obtain⟨wp,rfl⟩:∃ wp,wp=wr:=⟨_,rfl⟩;go_loopw [10] (λz wr=>∃ q:Int,1<=q/\q<=4/\z=.int .i64 q/\Below w0.heap.size w0 wr/\Hid (∀ k,1<=k->k<q->zbG a b p k=false)) (λz _=>4 - (intOf z).toNat)
       case atStart=>exact⟨1,by omega,by omega,rfl,HBp.out,λk h1 h2=>by omega⟩
       case round =>
        obtain⟨q,hq1,hq4,rfl,hB,HZq⟩:=hrel;have HBq:Hid (Below w0.heap.size w0 wr):=hB;by_cases hq3:q<=3
        ·clear e0 e1 e2 e3 e4 e5 e6 e7 e8 e9 d0 d1 d2 d3 d4 d5 d6 d7 d8 d9;obtain⟨⟨e0,e1,e2,e3,e4,e5,e6,e7,e8,e9⟩,d0,d1,d2,d3,d4,d5,d6,d7,d8,d9⟩:=HK.out wr hB;have HNq:Hid (zbG a b p q=false->∀ k,1<=k->k<q+1->zbG a b p k=false):=λh k h1 h2=>by
          rcases Int.lt_or_le k q with g | g
          ·exact HZq.out k h1 g
          ·obtain rfl:k=q:=by omega
           exact h
         have HBd:Hid (zbG a b p q=(zap a p b q&&!(true&&decide (p=1)&&decide (q=1)))):=by show _=_;rw[HSv.out];rfl
         clear hB;go_wp2_with fail
         refine (HMe.out _ _ _).mono ?_;rintro e w1 ⟨rfl,hb1⟩;have HB1:Hid (Below w0.heap.size w0 w1):=zaa HBq.out hb1;clear hb1
         cases hm:zap a p b q with
         | false =>
          have HF:Hid (zbG a b p q=false):=by show _=_;rw[HBd.out,hm];rfl
          go_wp2_with fail
          go_roundw
          case rel=>exact⟨q+1,by omega,by omega,by go_num,HB1.out,HNq.out HF.out⟩
          case measure=>simp[intOf];omega
         | true =>
          by_cases hpe:p=1
          ·have hpe':(p==1)=true:=by rw[hpe];rfl
           by_cases hqe:q=1
           ·have hqe':(q==1)=true:=by rw[hqe];rfl
            have HF:Hid (zbG a b p q=false):=by show _=_;rw[HBd.out,hm,decide_eq_true hpe,decide_eq_true hqe];rfl
            clear hpe hqe;go_wp2_with fail
            go_roundw
            case rel=>exact⟨q+1,by omega,by omega,by go_num,HB1.out,HNq.out HF.out⟩
            case measure=>simp[intOf];omega
           ·have hqe':(q==1)=false:=by rw[beq_eq_false_iff_ne];exact hqe
            have HT:Hid (zbh a b=false):=HFf.out p q (by omega) (by omega) (by omega) (by omega) (by rw[HBd.out,hm,decide_eq_false hqe];simp)
            clear hpe hqe;go_wp2_with fail
            go_ret;exact⟨zab HT.out.symm,zaa HB0.out HB1.out⟩
          ·have hpe':(p==1)=false:=by rw[beq_eq_false_iff_ne];exact hpe
           have HT:Hid (zbh a b=false):=HFf.out p q (by omega) (by omega) (by omega) (by omega) (by rw[HBd.out,hm,decide_eq_false hpe];simp)
           clear hpe;go_wp2_with fail
           go_ret;exact⟨zab HT.out.symm,zaa HB0.out HB1.out⟩
        ·have HF:Hid (za1 a b p=false):=by
          show _=_;unfold za1;rw[HZq.out 1 (by omega) (by omega),HZq.out 2 (by omega) (by omega),HZq.out 3 (by omega) (by omega)];rfl
         go_wp2_with fail
         go_roundw
         case rel=>exact⟨p+1,by omega,by omega,by go_num,HBq.out,λk h1 h2=>by
          rcases Int.lt_or_le k p with g | g
          ·exact HZp.out k h1 g
          ·obtain rfl:k=p:=by omega
           exact HF.out⟩
         case measure=>simp[intOf];omega
      ·have HT:Hid (zbh a b=true):=HFt.out (by rw[HZp.out 1 (by omega) (by omega),HZp.out 2 (by omega) (by omega),HZp.out 3 (by omega) (by omega)];rfl)
       go_wp2_with fail
       go_ret;exact⟨zab HT.out.symm,zaa HB0.out HBp.out⟩
    | false =>
     go_wp2_with fail
     obtain⟨wo,rfl⟩:∃ wo,wo=wr:=⟨_,rfl⟩;go_loopw [9] (λz wr=>∃ p:Int,1<=p/\p<=4/\z=.int .i64 p/\Below w0.heap.size w0 wr/\Hid (∀ k,1<=k->k<p->za1 a b k=false)) (λz _=>4 - (intOf z).toNat)
     case atStart=>exact⟨1,by omega,by omega,rfl,HBL.out,λk h1 h2=>by omega⟩
     case round =>
      obtain⟨p,hp1,hp4,rfl,hB,HZp⟩:=hrel;have HBp:Hid (Below w0.heap.size w0 wr):=hB;clear hB;by_cases hp3:p<=3
      ·go_wp2_with fail
       obtain⟨wp,rfl⟩:∃ wp,wp=wr:=⟨_,rfl⟩;go_loopw [10] (λz wr=>∃ q:Int,1<=q/\q<=4/\z=.int .i64 q/\Below w0.heap.size w0 wr/\Hid (∀ k,1<=k->k<q->zbG a b p k=false)) (λz _=>4 - (intOf z).toNat)
       case atStart=>exact⟨1,by omega,by omega,rfl,HBp.out,λk h1 h2=>by omega⟩
       case round =>
        obtain⟨q,hq1,hq4,rfl,hB,HZq⟩:=hrel;have HBq:Hid (Below w0.heap.size w0 wr):=hB;by_cases hq3:q<=3
        ·clear e0 e1 e2 e3 e4 e5 e6 e7 e8 e9 d0 d1 d2 d3 d4 d5 d6 d7 d8 d9;obtain⟨⟨e0,e1,e2,e3,e4,e5,e6,e7,e8,e9⟩,d0,d1,d2,d3,d4,d5,d6,d7,d8,d9⟩:=HK.out wr hB;have HNq:Hid (zbG a b p q=false->∀ k,1<=k->k<q+1->zbG a b p k=false):=λh k h1 h2=>by
          rcases Int.lt_or_le k q with g | g
          ·exact HZq.out k h1 g
          ·obtain rfl:k=q:=by omega
           exact h
         have HBd:Hid (zbG a b p q=(zap a p b q&&!(false&&decide (p=1)&&decide (q=1)))):=by show _=_;rw[HSv.out];rfl
         clear hB;go_wp2_with fail
         refine (HMe.out _ _ _).mono ?_;rintro e w1 ⟨rfl,hb1⟩;have HB1:Hid (Below w0.heap.size w0 w1):=zaa HBq.out hb1;clear hb1
         cases hm:zap a p b q with
         | false =>
          have HF:Hid (zbG a b p q=false):=by show _=_;rw[HBd.out,hm];rfl
          go_wp2_with fail
          go_roundw
          case rel=>exact⟨q+1,by omega,by omega,by go_num,HB1.out,HNq.out HF.out⟩
          case measure=>simp[intOf];omega
         | true =>
          have HT:Hid (zbh a b=false):=HFf.out p q (by omega) (by omega) (by omega) (by omega) (by rw[HBd.out,hm];simp[*])
          go_wp2_with fail
          go_ret;exact⟨zab HT.out.symm,zaa HB0.out HB1.out⟩
        ·have HF:Hid (za1 a b p=false):=by
          show _=_;unfold za1;rw[HZq.out 1 (by omega) (by omega),HZq.out 2 (by omega) (by omega),HZq.out 3 (by omega) (by omega)];rfl
         go_wp2_with fail
         go_roundw
         case rel=>exact⟨p+1,by omega,by omega,by go_num,HBq.out,λk h1 h2=>by
          rcases Int.lt_or_le k p with g | g
          ·exact HZp.out k h1 g
          ·obtain rfl:k=p:=by omega
           exact HF.out⟩
         case measure=>simp[intOf];omega
      ·have HT:Hid (zbh a b=true):=HFt.out (by rw[HZp.out 1 (by omega) (by omega),HZp.out 2 (by omega) (by omega),HZp.out 3 (by omega) (by omega)];rfl)
       go_wp2_with fail
       go_ret;exact⟨zab HT.out.symm,zaa HB0.out HBp.out⟩
   ·subst h2;go_wp2_with fail
    obtain⟨wo,rfl⟩:∃ wo,wo=wr:=⟨_,rfl⟩;go_loopw [9] (λz wr=>∃ p:Int,1<=p/\p<=4/\z=.int .i64 p/\Below w0.heap.size w0 wr/\Hid (∀ k,1<=k->k<p->za1 a b k=false)) (λz _=>4 - (intOf z).toNat)
    case atStart=>exact⟨1,by omega,by omega,rfl,HBL.out,λk h1 h2=>by omega⟩
    case round =>
     obtain⟨p,hp1,hp4,rfl,hB,HZp⟩:=hrel;have HBp:Hid (Below w0.heap.size w0 wr):=hB;clear hB;by_cases hp3:p<=3
     ·go_wp2_with fail
      obtain⟨wp,rfl⟩:∃ wp,wp=wr:=⟨_,rfl⟩;go_loopw [10] (λz wr=>∃ q:Int,1<=q/\q<=4/\z=.int .i64 q/\Below w0.heap.size w0 wr/\Hid (∀ k,1<=k->k<q->zbG a b p k=false)) (λz _=>4 - (intOf z).toNat)
      case atStart=>exact⟨1,by omega,by omega,rfl,HBp.out,λk h1 h2=>by omega⟩
      case round =>
       obtain⟨q,hq1,hq4,rfl,hB,HZq⟩:=hrel;have HBq:Hid (Below w0.heap.size w0 wr):=hB;by_cases hq3:q<=3
       ·clear e0 e1 e2 e3 e4 e5 e6 e7 e8 e9 d0 d1 d2 d3 d4 d5 d6 d7 d8 d9;obtain⟨⟨e0,e1,e2,e3,e4,e5,e6,e7,e8,e9⟩,d0,d1,d2,d3,d4,d5,d6,d7,d8,d9⟩:=HK.out wr hB;have HNq:Hid (zbG a b p q=false->∀ k,1<=k->k<q+1->zbG a b p k=false):=λh k h1 h2=>by
         rcases Int.lt_or_le k q with g | g
         ·exact HZq.out k h1 g
         ·obtain rfl:k=q:=by omega
          exact h
        have HBd:Hid (zbG a b p q=(zap a p b q&&!(false&&decide (p=1)&&decide (q=1)))):=by show _=_;rw[HSv.out];rfl
        clear hB;go_wp2_with fail
        refine (HMe.out _ _ _).mono ?_;rintro e w1 ⟨rfl,hb1⟩;have HB1:Hid (Below w0.heap.size w0 w1):=zaa HBq.out hb1;clear hb1
        cases hm:zap a p b q with
        | false =>
         have HF:Hid (zbG a b p q=false):=by show _=_;rw[HBd.out,hm];rfl
         go_wp2_with fail
         go_roundw
         case rel=>exact⟨q+1,by omega,by omega,by go_num,HB1.out,HNq.out HF.out⟩
         case measure=>simp[intOf];omega
        | true =>
         have HT:Hid (zbh a b=false):=HFf.out p q (by omega) (by omega) (by omega) (by omega) (by rw[HBd.out,hm];simp[*])
         go_wp2_with fail
         go_ret;exact⟨zab HT.out.symm,zaa HB0.out HB1.out⟩
       ·have HF:Hid (za1 a b p=false):=by
         show _=_;unfold za1;rw[HZq.out 1 (by omega) (by omega),HZq.out 2 (by omega) (by omega),HZq.out 3 (by omega) (by omega)];rfl
        go_wp2_with fail
        go_roundw
        case rel=>exact⟨p+1,by omega,by omega,by go_num,HBq.out,λk h1 h2=>by
         rcases Int.lt_or_le k p with g | g
         ·exact HZp.out k h1 g
         ·obtain rfl:k=p:=by omega
          exact HF.out⟩
        case measure=>simp[intOf];omega
     ·have HT:Hid (zbh a b=true):=HFt.out (by rw[HZp.out 1 (by omega) (by omega),HZp.out 2 (by omega) (by omega),HZp.out 3 (by omega) (by omega)];rfl)
      go_wp2_with fail
      go_ret;exact⟨zab HT.out.symm,zaa HB0.out HBp.out⟩
theorem zkw (n:Int) (a:Option Addr) (cap:Nat) (w:World) :
 Calls Tryz.prog 247 #[.int .i64 n,.slice a 0 cap] w λe w'=>e=.returned (.tuple #[.int .i64 0,.int .i64 0])/\w'=w:=by
 go_enter Tryz.func247,Tryz.ntmps247;go_wp2;refine wp_loop_rounds 1 ?_;rw[rounds_succ];go_wp2;go_ret2
 exact⟨rfl,rfl⟩
theorem zkb (n:Int) (a:Option Addr) (m cap:Nat) (hm:6<m) (w:World) :
 Calls Tryz.prog 247 #[.int .i64 n,.slice a m cap] w λe w'=>e=.returned (.tuple #[.int .i64 0,.int .i64 4])/\w'=w:=by
 have h:(6:Int)<(m:Int):=by omega
 go_enter Tryz.func247,Tryz.ntmps247;go_wp2;go_ret2
 exact⟨rfl,rfl⟩
theorem zlb {b off cap:Nat} {n:Int} {l:List Cl} {w:World} (hb:b<w.heap.size) (hc:∀ i (hi:i<l.length),El zci w b (off+i * 10) l[i]) (hl:l.length<=6) (hcap:l.length<=cap) (hm:cap<=maxLen) :
 Calls Tryz.prog 247 #[.int .i64 n,.slice (some ⟨b,off,none⟩) l.length cap] w λe w'=>∃ i x,e=.returned (.tuple #[.int .i64 i,.int .i64 x])/\FirstR (zdW n l) l.length i x/\Below w.heap.size w w':=by
 unfold maxLen at hm;have HC:Hid (∀ i (hi:i<l.length),∀ W,Below w.heap.size w W->Ten W b (off+i * 10) l[i]):=λi hi W hW=>((hc i hi).below hW hb).ten
 clear hc;go_enter Tryz.func247,Tryz.ntmps247;go_wp2_with fail
 go_loopw [6] (λz wr=>∃ q:Nat,q<=l.length/\z=.int .i64 q/\Below w.heap.size w wr/\Hid (∀ k,k<q->zdW n l k=0)) (λz _=>l.length - (intOf z).toNat)
 case atStart=>exact⟨0,Nat.zero_le _,rfl,Below.refl _ _,λk hk=>absurd hk (Nat.not_lt_zero _)⟩
 case round =>
  obtain⟨q,hq,rfl,hB,HZ⟩:=hrel;have HBL:Hid (Below w.heap.size w wr):=hB;by_cases hql:q<l.length
  ·obtain⟨c0,c1,c2,c3,c4,c5,c6,c7,c8,c9⟩:=HC.out q hql wr hB;have HQ:Hid (zdW n l q=ztp n (l.take q) l[q]):=zmp n l q hql;have HCq:Hid (∀ W,Below w.heap.size w W->Ten W b (off+q * 10) l[q]):=HC.out q hql;generalize l[q]=c at *;have HAl:Hid (Calls Tryz.prog 254 #[.int .i64 n,.agg #[.int .i64 c.k,.int .i64 c.tf,.int .i64 c.tt,.int .i64 c.hf,.int .i64 c.ht,.int .i64 c.fi,.int .i64 c.t0,.int .i64 c.t1,.int .i64 c.t2,.bool c.t3]] wr λe w'=>e=.returned (.int .i64 (zaV n c))/\Below wr.heap.size wr w'):=zo2 n c wr
   clear hB;go_wp2_with fail
   refine Calls.mono HAl.out ?_;rintro e w1 ⟨rfl,hb1⟩;have HB1:Hid (Below w.heap.size w w1):=zaa HBL.out hb1;clear hb1 HAl c0 c1 c2 c3 c4 c5 c6 c7 c8 c9;by_cases hal:zaV n c=0
   ·have HQ2:Hid (zdW n l q=if ((l.take q).any λx=>!zbh x c)=true then 12 else 0):=by show _=_;rw[HQ.out];unfold ztp;rw[if_pos hal]
    rw[hal];go_wp2_with fail
    obtain⟨wo,rfl⟩:∃ wo,wo=wr:=⟨_,rfl⟩;go_loopw [8] (λz wr=>∃ k:Nat,k<=q/\z=.int .i64 k/\Below w.heap.size w wr/\Hid (((l.take q).take k).any (λx=>!zbh x c)=false)) (λz _=>q - (intOf z).toNat)
    case atStart=>exact⟨0,Nat.zero_le _,rfl,HB1.out,by show _=_;simp⟩
    case round =>
     obtain⟨k,hk,rfl,hB,HZk⟩:=hrel;have HBk:Hid (Below w.heap.size w wr):=hB;by_cases hkq:k<q
     ·have hkl:k<l.length:=by omega
      have hlt:k<(l.take q).length:=by rw[List.length_take];omega
      have hgt:(l.take q)[k]=l[k]:=List.getElem_take;have HN:Hid ((!zbh l[k] c)=false->((l.take q).take (k+1)).any (λx=>!zbh x c)=false):=λh=>zaS hlt HZk.out (by rw[hgt];exact h)
      have HY:Hid ((!zbh l[k] c)=true->(l.take q).any (λx=>!zbh x c)=true):=λh=>List.any_eq_true.2 ⟨_,List.getElem_mem hlt,by rw[hgt];exact h⟩
      have HCk:Hid (∀ W,Below w.heap.size w W->Ten W b (off+k * 10) l[k]):=HC.out k hkl;have hkl':(k:Int)<(l.length:Int):=by omega
      clear hlt hgt;generalize l[k]=a at *;have HS:Hid (∀ W,Below w.heap.size w W->(W.cell? ⟨b,off+k * 10,none⟩=some (.int .i64 a.k)/\W.cell? ⟨b,off+k * 10+1,none⟩=some (.int .i64 a.tf)/\W.cell? ⟨b,off+k * 10+2,none⟩=some (.int .i64 a.tt)/\W.cell? ⟨b,off+k * 10+3,none⟩=some (.int .i64 a.hf)/\W.cell? ⟨b,off+k * 10+4,none⟩=some (.int .i64 a.ht)/\W.cell? ⟨b,off+k * 10+5,none⟩=some (.int .i64 a.fi)/\W.cell? ⟨b,off+k * 10+6,none⟩=some (.int .i64 a.t0)/\W.cell? ⟨b,off+k * 10+7,none⟩=some (.int .i64 a.t1)/\W.cell? ⟨b,off+k * 10+8,none⟩=some (.int .i64 a.t2)/\W.cell? ⟨b,off+k * 10+9,none⟩=some (.bool a.t3))/\(W.cell? ⟨b,off+q * 10,none⟩=some (.int .i64 c.k)/\W.cell? ⟨b,off+q * 10+1,none⟩=some (.int .i64 c.tf)/\W.cell? ⟨b,off+q * 10+2,none⟩=some (.int .i64 c.tt)/\W.cell? ⟨b,off+q * 10+3,none⟩=some (.int .i64 c.hf)/\W.cell? ⟨b,off+q * 10+4,none⟩=some (.int .i64 c.ht)/\W.cell? ⟨b,off+q * 10+5,none⟩=some (.int .i64 c.fi)/\W.cell? ⟨b,off+q * 10+6,none⟩=some (.int .i64 c.t0)/\W.cell? ⟨b,off+q * 10+7,none⟩=some (.int .i64 c.t1)/\W.cell? ⟨b,off+q * 10+8,none⟩=some (.int .i64 c.t2)/\W.cell? ⟨b,off+q * 10+9,none⟩=some (.bool c.t3))):=λW hW=>⟨HCk.out W hW,HCq.out W hW⟩
      obtain⟨⟨a0,a1,a2,a3,a4,a5,a6,a7,a8,a9⟩,c0,c1,c2,c3,c4,c5,c6,c7,c8,c9⟩:=HS.out wr hB;have HFi:Hid (∀ W,Calls Tryz.prog 255 #[.agg #[.int .i64 a.k,.int .i64 a.tf,.int .i64 a.tt,.int .i64 a.hf,.int .i64 a.ht,.int .i64 a.fi,.int .i64 a.t0,.int .i64 a.t1,.int .i64 a.t2,.bool a.t3],.agg #[.int .i64 c.k,.int .i64 c.tf,.int .i64 c.tt,.int .i64 c.hf,.int .i64 c.ht,.int .i64 c.fi,.int .i64 c.t0,.int .i64 c.t1,.int .i64 c.t2,.bool c.t3]] W λe w'=>e=.returned (.bool (zbh a c))/\Below W.heap.size W w'):=λW=>zpb a c W
      clear hB;go_wp2_with fail
      go_region_held3 (λw'=>(w'.cell? ⟨b,off+k * 10,none⟩=some (.int .i64 a.k)/\w'.cell? ⟨b,off+k * 10+1,none⟩=some (.int .i64 a.tf)/\w'.cell? ⟨b,off+k * 10+2,none⟩=some (.int .i64 a.tt)/\w'.cell? ⟨b,off+k * 10+3,none⟩=some (.int .i64 a.hf)/\w'.cell? ⟨b,off+k * 10+4,none⟩=some (.int .i64 a.ht)/\w'.cell? ⟨b,off+k * 10+5,none⟩=some (.int .i64 a.fi)/\w'.cell? ⟨b,off+k * 10+6,none⟩=some (.int .i64 a.t0)/\w'.cell? ⟨b,off+k * 10+7,none⟩=some (.int .i64 a.t1)/\w'.cell? ⟨b,off+k * 10+8,none⟩=some (.int .i64 a.t2)/\w'.cell? ⟨b,off+k * 10+9,none⟩=some (.bool a.t3))/\(w'.cell? ⟨b,off+q * 10,none⟩=some (.int .i64 c.k)/\w'.cell? ⟨b,off+q * 10+1,none⟩=some (.int .i64 c.tf)/\w'.cell? ⟨b,off+q * 10+2,none⟩=some (.int .i64 c.tt)/\w'.cell? ⟨b,off+q * 10+3,none⟩=some (.int .i64 c.hf)/\w'.cell? ⟨b,off+q * 10+4,none⟩=some (.int .i64 c.ht)/\w'.cell? ⟨b,off+q * 10+5,none⟩=some (.int .i64 c.fi)/\w'.cell? ⟨b,off+q * 10+6,none⟩=some (.int .i64 c.t0)/\w'.cell? ⟨b,off+q * 10+7,none⟩=some (.int .i64 c.t1)/\w'.cell? ⟨b,off+q * 10+8,none⟩=some (.int .i64 c.t2)/\w'.cell? ⟨b,off+q * 10+9,none⟩=some (.bool c.t3)))
       (first | (exact HS.out _ (zaa HBk.out (zad _))) | (exact HS.out _ (zaa HBk.out (zaa (zad _) hb2))))
       (first | (go_at_call 255;refine (HFi.out _).mono ?_;rintro e w2 ⟨rfl,hb2⟩))
      rename_i hheld
      clear hheld;have HB2:Hid (Below w.heap.size w w2):=zaa HBk.out (zaa (zad _) hb2);clear hb2 a0 a1 a2 a3 a4 a5 a6 a7 a8 a9 c0 c1 c2 c3 c4 c5 c6 c7 c8 c9
      cases hf:zbh a c with
      | true =>
       have HF:Hid (((l.take q).take (k+1)).any (λx=>!zbh x c)=false):=HN.out (by rw[hf];rfl)
       go_wp2_with fail
       go_roundw
       case rel=>exact⟨k+1,by omega,by go_num,HB2.out,HF.out⟩
       case measure=>simp[intOf];omega
      | false =>
       have HX:Hid (zdW n l q=12):=by show _=_;rw[HQ2.out,if_pos (HY.out (by rw[hf];rfl))]
       go_wp2_with fail
       go_ret2
       exact⟨_,_,rfl,FirstR.hit hql HZ.out 12 HX.out (by decide),HB2.out⟩
     ·have HX:Hid (zdW n l q=0):=by
       show _=_;rw[HQ2.out,if_neg];have:=HZk.out;rw[List.take_of_length_le (by rw[List.length_take];omega)]at this
       rw[this];decide
      go_wp2_with fail
      go_roundw
      case rel=>exact⟨q+1,by omega,by go_num,HBk.out,zhX HZ.out HX.out⟩
      case measure=>simp[intOf];omega
   ·have hal':(zaV n c==0)=false:=by rw[beq_eq_false_iff_ne];exact hal
    have HX:Hid (zdW n l q=zaV n c):=by show _=_;rw[HQ.out];unfold ztp;rw[if_neg hal]
    have HNe:Hid (zaV n c≠0):=hal;generalize zaV n c=x at *;go_wp2_with fail
    go_ret2
    exact⟨_,_,rfl,FirstR.hit hql HZ.out _ HX.out HNe.out,HB1.out⟩
  ·have HF':Hid (∀ k,k<l.length->zdW n l k=0):=λk hk=>HZ.out k (by omega)
   go_wp2;go_ret2
   exact⟨_,_,rfl,FirstR.done HF'.out,HBL.out⟩
theorem zna {v:Value} {l:List Cl} {w:World} (n:Int) (h:Es zci w v l) :
 Calls Tryz.prog 247 #[.int .i64 n,v] w λe w'=>∃ i x,e=.returned (.tuple #[.int .i64 i,.int .i64 x])/\zdd n l i x/\Below w.heap.size w w':=by
 by_cases hne:l=[]
 ·subst hne;obtain⟨a,c,rfl,_,_⟩:=h.shape;refine (zkw n a c w).mono ?_;rintro e w' ⟨rfl,rfl⟩;exact⟨_,_,rfl,by unfold zdd;rw[if_neg (by simp)];exact FirstR.done (λk hk=>absurd hk (Nat.not_lt_zero _)),Below.refl _ _⟩
 ·by_cases h6:6<l.length
  ·obtain⟨a,c,rfl,_,_⟩:=h.shape;refine (zkb n a l.length c h6 w).mono ?_;rintro e w' ⟨rfl,rfl⟩;exact⟨_,_,rfl,by unfold zdd;rw[if_pos h6];exact⟨rfl,rfl⟩,Below.refl _ _⟩
  ·obtain⟨b,off,cap,rfl,h1,h2,hb,hc⟩:=h.parts hne;refine (zlb (n:=n) hb hc (by omega) h1 h2).mono ?_
   rintro e w' ⟨i,x,rfl,hf,hB⟩;exact⟨i,x,rfl,by unfold zdd;rw[if_neg h6];exact hf,hB⟩
theorem zn7 {v:Value} {l:List Cl} {w:World} (n:Int) (h:Es zci w v l) :
 Calls Tryz.prog 227 #[.int .i64 n,v] w λe w'=>∃ r:Bool,e=.returned (.bool r)/\(r=true↔zdD n l)/\Below w.heap.size w w':=by
 have HC:Hid (Calls Tryz.prog 247 #[.int .i64 n,v] w λe w'=>∃ i x,e=.returned (.tuple #[.int .i64 i,.int .i64 x])/\zdd n l i x/\Below w.heap.size w w'):=zna n h
 clear h;go_enter Tryz.func227,Tryz.ntmps227;go_wp2_with fail
 refine Calls.mono HC.out ?_;rintro e w1 ⟨i,x,rfl,hr,hb1⟩;have HR:Hid (x=0↔zdD n l):=ziT hr;clear hr HC;go_wp2_with fail
 go_ret;refine⟨_,rfl, ?_,hb1⟩;rw[<- HR.out];simp
end Go.Proofs.YtkedhjdipnhgdaaGreat
