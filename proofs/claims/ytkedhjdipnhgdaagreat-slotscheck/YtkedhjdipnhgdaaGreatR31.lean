import Derived.Test.YtkedhjdipnhgdaaGreatR27
namespace Go.Proofs.YtkedhjdipnhgdaaGreat
set_option maxHeartbeats 16000000
set_option linter.all false
open RowKit
attribute [local go_sem ↓] wp_at_zero wp_at_succ
theorem zmq {L:List Int} {p:Int->Bool} {f:Int->Int} {i:Nat} (hi:i<L.length):((L.take (i+1)).filter p).map f=((L.take i).filter p).map f ++ (if p L[i]=true then [f L[i]] else []):=by
 rw[List.take_succ_eq_append_getElem hi,List.filter_append,List.map_append]
 congr 1
 cases h:p L[i] <;> simp only[List.filter_cons,List.filter_nil,h] <;> rfl
theorem zn1 {L:List Int} {p:Int->Bool} {f:Int->Int} {i:Nat}:(((L.take i).filter p).map f).length<=L.length:=by
 rw[List.length_map];exact Nat.le_trans (List.length_filter_le _ _) (by rw[List.length_take];omega)
theorem zdY {g:Img} {k:Nat} (h:k<g.fs.length):zc0 g (k:Int)=g.fs[k].st:=by unfold zc0;rw[Int.toNat_natCast,List.getElem?_eq_getElem h]
theorem ze7 {g:Img} {k:Nat} (h:k<g.fs.length):za7 g (k:Int)=g.fs[k].t:=by unfold za7;rw[Int.toNat_natCast,List.getElem?_eq_getElem h]
theorem znQ {g:Img} {k:Nat} (h:k<g.fs.length):zbA g (k:Int)=(!g.fs[k].st&&(decide (g.fs[k].t.1=6)&&decide (g.fs[k].t.2.2.1=0)&&decide (zag g g.fs[k].t.2.1=1))):=by unfold zbA;rw[zdY h,ze7 h]
set_option maxRecDepth 100000 in
theorem zhW {g:Img} {t:Int} {w:World} (hg:Im w g) (hi:imB g=true) :
 Calls Tryz.prog 182 #[imV g,.int .i64 t] w λe w'=>∃ v,e=.returned v/\OwnI w' w.heap.size v (za6 g t)/\Below w.heap.size w w':=by
 obtain⟨w0,hw0⟩:∃ W,W=w.alloc (.cells (imC g) 26):=⟨_,rfl⟩;have HW0:Hid (w0=_):=hw0;obtain⟨hb0,hgb⟩:=GB.made hg hw0;have HB0:Hid (Below w.heap.size w w0):=hb0;have HG:Hid (GB w0 w.heap.size g):=hgb;have HI:Hid (imB g=true):=hi;have hln:=zax hi;have HFl:Hid (Calls Tryz.prog 181 #[.agg (imC g),.int .i64 t] w0 λe w'=>∃ v,e=.returned v/\OwnI w' w0.heap.size v (zbg g t)/\Below w0.heap.size w0 w'):=zcc HG.out.im HI.out
 obtain⟨c0,c1,c2,c3⟩:=hgb.cells;unfold imC at HW0 HFl;clear hw0 hb0 hgb hg hi;unfold imV;go_enter Tryz.func182,Tryz.ntmps182;go_wp2_with (rw[<- HW0.out])
 refine Calls.mono HFl.out ?_;rintro e w1 ⟨fv,rfl,hf,hb1⟩;have HB1:Hid (Below w0.heap.size w0 w1):=hb1;obtain⟨L,hL⟩:∃ X,X=zbg g t:=⟨_,rfl⟩;have HLE:Hid (L=zbg g t):=hL;rw[<- hL]at hf;have hll:=zcA g t;rw[<- hL]at hll;obtain⟨la,lc,hfv,_,hlc⟩:=(show Is w1 fv L from hf.is).shape
 subst hfv;have HOL:=LiF.of hf;obtain⟨len9,h99⟩:∃ n,n=L.length:=⟨_,rfl⟩;rw[<- h99]at HOL;have HOL:Hid (LiF w1 la len9 lc L):=HOL;rw[<- h99];clear hf hb1 c0 c1 c2 c3 hL HFl;go_wp2_with fail
 go_loopw [5,7,8] (λlv z _ wr=>∃ i:Nat,i<=L.length/\z=.int .i64 i/\Hid (OwnI wr w1.heap.size lv (((L.take i).filter (zbA g)).map (λi=>(za7 g i).2.1)))/\Hid (Below w1.heap.size w1 wr)) (λ_ z _ _=>L.length - (intOf z).toNat)
 case atStart=>exact⟨0,Nat.zero_le _,rfl,OwnI.nil _ _,Below.refl _ _⟩
 case round =>
  obtain⟨i,hi2,rfl,HO,HB⟩:=hrel;by_cases hil:i<L.length
  ·have hii:(i:Int)<(len9:Int):=by omega
   obtain⟨A,hA,hAl⟩:=zby (show L[i]∈zbg g t by rw[<- HLE.out];exact List.getElem_mem hil)
   have hAi:(A:Int)<(g.fs.length:Int):=by omega
   have HPT:Hid (((L.take (i+1)).filter (zbA g)).map (λi=>(za7 g i).2.1)=((L.take i).filter (zbA g)).map (λi=>(za7 g i).2.1) ++ (if zbA g L[i]=true then [(za7 g L[i]).2.1] else [])):=zmq hil
   have HPL:Hid ((((L.take i).filter (zbA g)).map (λi=>(za7 g i).2.1)).length<=64):=Nat.le_trans zn1 (by omega)
   rw[hA,znQ hAl,ze7 hAl]at HPT;obtain⟨gl,hgl⟩:=HOL.out.at0 hil;obtain⟨gl2,goff,hgl2,hgb,_,h6,h7,hc⟩:=(show Is wr (.slice la len9 lc) L from Sl.later HOL.out.is HB.out).at hil
   rw[hgl]at hgl2
   cases hgl2
   have cA:=hc i hil;rw[hA,Nat.zero_add]at cA;obtain⟨tb,off,hta,h8,h9,hty⟩:=HG.out.fd (by intro e;rw[e]at hAl;simp at hAl)
   have hB1r:Below w0.heap.size w0 wr:=zaa HB1.out HB.out;have HK:Hid (∀ W,Below wr.heap.size wr W->W.cell? ⟨w.heap.size,0,none⟩=some (.slice g.ta g.ts.length g.tc)/\W.cell? ⟨w.heap.size,1,none⟩=some (.slice (some ⟨tb,off,none⟩) g.fs.length g.fc)/\W.cell? ⟨w.heap.size,2,none⟩=some (.slice g.ma g.ms.length g.mc)/\W.cell? ⟨w.heap.size,3,none⟩=some (.int .i64 g.en)/\W.cell? ⟨gl,i,none⟩=some (.int .i64 A)/\W.cell? ⟨tb,off+A * 7,none⟩=some (.string g.fs[A].nm)/\W.cell? ⟨tb,off+A * 7+1,none⟩=some (.int .i64 g.fs[A].ow)/\W.cell? ⟨tb,off+A * 7+2,none⟩=some (.int .i64 g.fs[A].t.1)/\W.cell? ⟨tb,off+A * 7+3,none⟩=some (.int .i64 g.fs[A].t.2.1)/\W.cell? ⟨tb,off+A * 7+4,none⟩=some (.int .i64 g.fs[A].t.2.2.1)/\W.cell? ⟨tb,off+A * 7+5,none⟩=some (.bool g.fs[A].t.2.2.2)/\W.cell? ⟨tb,off+A * 7+6,none⟩=some (.bool g.fs[A].st)):=λW hW=>by
    have hz:=hty W (zaa hB1r hW);have hq:=(HG.out.later (zaa hB1r hW)).cells;have h1:W.cell? ⟨gl,i,none⟩=some (.int .i64 A):=by rw[<- cA];exact hW.cell (p:=⟨gl,i,none⟩) hgb
    exact⟨hq.1,hz.1,hq.2.2.1,hq.2.2.2,h1,(hz.2 A hAl).cells_F⟩
   have HKn:Hid (∀ W,Below wr.heap.size wr W->Calls Tryz.prog 23 #[.agg #[.slice g.ta g.ts.length g.tc,.slice (some ⟨tb,off,none⟩) g.fs.length g.fc,.slice g.ma g.ms.length g.mc,.int .i64 g.en],.int .i64 g.fs[A].t.2.1] W λe w'=>e=.returned (.int .i64 (zag g g.fs[A].t.2.1))/\Below W.heap.size W w'):=λW hW=>by
    have:=zaF g.fs[A].t.2.1 (HG.out.im.later (zaa hB1r hW)) (FlOk.of HI.out);unfold imV at this;rw[hta]at this;exact this
   unfold maxLen at h7 h9;subst hgl;clear hc hty hta cA hA hB1r;obtain⟨kv,hkv⟩:∃ k,k=zag g g.fs[A].t.2.1:=⟨_,rfl⟩;rw[<- hkv]at HPT HKn;clear hkv;generalize g.fs[A]=x at *;obtain⟨wA,hwA⟩:∃ W,W=(wr.alloc (.cells #[.string x.nm,.int .i64 x.ow,.int .i64 x.t.1,.int .i64 x.t.2.1,.int .i64 x.t.2.2.1,.bool x.t.2.2.2,.bool x.st] 62)).drew:=⟨_,rfl⟩;have hbA:Below wr.heap.size wr wA:=by rw[hwA];exact Below.drewN (zac _ _ _) 1
   have hAA:At wA wr.heap.size #[.string x.nm,.int .i64 x.ow,.int .i64 x.t.1,.int .i64 x.t.2.1,.int .i64 x.t.2.2.1,.bool x.t.2.2.2,.bool x.st] 62:=by rw[hwA];exact At.made _ _ _
   have HBA:Hid (Below wr.heap.size wr wA):=hbA;have HWA:Hid (wA=_):=hwA;have HAA:Hid (∀ W,Below wA.heap.size wA W->At W wr.heap.size #[.string x.nm,.int .i64 x.ow,.int .i64 x.t.1,.int .i64 x.t.2.1,.int .i64 x.t.2.2.1,.bool x.t.2.2.2,.bool x.st] 62):=λW hW=>hAA.later hW
   have a0:=hAA.cell;obtain⟨e0,e1,e2,e3,e4,e5,e6,e7,e8,e9,e10,e11⟩:=HK.out wr (Below.refl _ _);obtain⟨f0,f1,f2,f3,_⟩:=HK.out wA hbA;clear hwA hbA hAA;go_wp2_with fail
   go_region_held3 (λW:World=>W.cell? ⟨w.heap.size,0,none⟩=some (.slice g.ta g.ts.length g.tc)/\W.cell? ⟨w.heap.size,1,none⟩=some (.slice (some ⟨tb,off,none⟩) g.fs.length g.fc)/\W.cell? ⟨w.heap.size,2,none⟩=some (.slice g.ma g.ms.length g.mc)/\W.cell? ⟨w.heap.size,3,none⟩=some (.int .i64 g.en)/\W.cell? ⟨gl,i,none⟩=some (.int .i64 A)/\W.cell? ⟨tb,off+A * 7,none⟩=some (.string x.nm)/\W.cell? ⟨tb,off+A * 7+1,none⟩=some (.int .i64 x.ow)/\W.cell? ⟨tb,off+A * 7+2,none⟩=some (.int .i64 x.t.1)/\W.cell? ⟨tb,off+A * 7+3,none⟩=some (.int .i64 x.t.2.1)/\W.cell? ⟨tb,off+A * 7+4,none⟩=some (.int .i64 x.t.2.2.1)/\W.cell? ⟨tb,off+A * 7+5,none⟩=some (.bool x.t.2.2.2)/\W.cell? ⟨tb,off+A * 7+6,none⟩=some (.bool x.st))
    (first | (exact HK.out _ (zad _)) | (exact HK.out _ (zbN (zad _) _)))
    (fail)
   rename_i hheld
   clear hheld e0 e1 e2 e3 e4 e5 e6 e7 e8 e9 e10 e11;rw[<- HWA.out];have HOA:Hid (OwnI wA w1.heap.size u5 (((L.take i).filter (zbA g)).map (λi=>(za7 g i).2.1))):=OwnI.later HO.out HBA.out
   have HBA1:Hid (Below w1.heap.size w1 wA):=zaa HB.out HBA.out;clear HO
   cases hst:x.st with
   | true =>
    have HP2:Hid (((L.take (i+1)).filter (zbA g)).map (λi=>(za7 g i).2.1)=((L.take i).filter (zbA g)).map (λi=>(za7 g i).2.1)):=by show _=_;rw[HPT.out,hst];simp
    rw[hst]at a0;clear hst HPT;go_wp2_with fail
    go_roundw
    case rel=>exact⟨i+1,by omega,by go_num,by rw[HP2.out];exact HOA.out,HBA1.out⟩
    case measure=>simp[intOf];omega
   | false =>
    rw[hst]at a0 HPT;clear hst;by_cases h6:x.t.1=6
    ·have h6b:(x.t.1==6)=true:=by simpa using h6
     by_cases hd:x.t.2.2.1=0
     ·have hdb:(x.t.2.2.1==0)=true:=by simpa using hd
      have HP1:Hid (((L.take (i+1)).filter (zbA g)).map (λi=>(za7 g i).2.1)=((L.take i).filter (zbA g)).map (λi=>(za7 g i).2.1) ++ (if kv=1 then [x.t.2.1] else [])):=by show _=_;rw[HPT.out,decide_eq_true h6,decide_eq_true hd];simp
      clear h6 hd HPT;go_wp2_with fail
      refine Calls.mono (HKn.out wA HBA.out) ?_;rintro e w3 ⟨rfl,hb3⟩;have HO3:Hid (OwnI w3 w1.heap.size u5 (((L.take i).filter (zbA g)).map (λi=>(za7 g i).2.1))):=OwnI.later HOA.out hb3
      have HB3:Hid (Below w1.heap.size w1 w3):=zaa HBA1.out hb3;have hx3:w3.cell? ⟨wr.heap.size,3,none⟩=some (.int .i64 x.t.2.1):=(HAA.out w3 hb3).cell 3;clear hb3 a0 f0 f1 f2 f3 HOA HBA1 HKn;by_cases hk1:kv=1
      ·subst hk1;have HP2:Hid (((L.take (i+1)).filter (zbA g)).map (λi=>(za7 g i).2.1)=((L.take i).filter (zbA g)).map (λi=>(za7 g i).2.1) ++ [x.t.2.1]):=by show _=_;rw[HP1.out,if_pos rfl]
       clear HP1;go_wp2_with (at_builtin;go_must (refine zas (v:=u5) rfl (.tmp 49) (.tmp 53) rfl w1.heap.size rfl rfl (HO3.out.later (zac _ _ _)) (zbf w3 x.t.2.1 _ rfl) (by have:=HPL.out;omega) (Nat.le_trans HB3.out.size (zac _ _ _).size) ?_;intro v5 w5 ho5 hg5;have hB5:=(zbN HB3.out _).trans (zar (HO3.out.later (zac _ _ _)) hg5 (Nat.le_refl _) (Nat.le_trans HB3.out.size (zac _ _ _).size))))
       go_roundw
       case rel=>exact⟨i+1,by omega,by go_num,by rw[HP2.out];exact ho5,hB5⟩
       case measure=>simp[intOf];omega
      ·have hkb:(kv==1)=false:=by simpa using hk1
       have HP2:Hid (((L.take (i+1)).filter (zbA g)).map (λi=>(za7 g i).2.1)=((L.take i).filter (zbA g)).map (λi=>(za7 g i).2.1)):=by show _=_;rw[HP1.out,if_neg hk1,List.append_nil]
       clear HP1 hk1;go_wp2_with fail
       go_roundw
       case rel=>exact⟨i+1,by omega,by go_num,by rw[HP2.out];exact HO3.out,HB3.out⟩
       case measure=>simp[intOf];omega
     ·have hdb:(x.t.2.2.1==0)=false:=by simpa using hd
      have HP2:Hid (((L.take (i+1)).filter (zbA g)).map (λi=>(za7 g i).2.1)=((L.take i).filter (zbA g)).map (λi=>(za7 g i).2.1)):=by show _=_;rw[HPT.out,decide_eq_false hd];simp
      clear HPT hd;go_wp2_with fail
      go_roundw
      case rel=>exact⟨i+1,by omega,by go_num,by rw[HP2.out];exact HOA.out,HBA1.out⟩
      case measure=>simp[intOf];omega
    ·have h6b:(x.t.1==6)=false:=by simpa using h6
     have HP2:Hid (((L.take (i+1)).filter (zbA g)).map (λi=>(za7 g i).2.1)=((L.take i).filter (zbA g)).map (λi=>(za7 g i).2.1)):=by show _=_;rw[HPT.out,decide_eq_false h6];simp
     clear HPT h6;go_wp2_with fail
     go_roundw
     case rel=>exact⟨i+1,by omega,by go_num,by rw[HP2.out];exact HOA.out,HBA1.out⟩
     case measure=>simp[intOf];omega
  ·have hii:¬ (i:Int)<(len9:Int):=by omega
   have HPE:Hid (((L.take i).filter (zbA g)).map (λi=>(za7 g i).2.1)=za6 g t):=by show _=_;rw[List.take_of_length_le (by omega),HLE.out];rfl
   go_wp2_with fail
   go_ret;exact⟨_,rfl,by rw[<- HPE.out];exact HO.out.mono (Nat.le_trans HB0.out.size HB1.out.size),zaa HB0.out (zaa HB1.out HB.out)⟩
abbrev zul:Oper:=⟨some 24,.move (.tmp 5),3,"ref.go:203",#[],none⟩
abbrev zu2:Oper:=⟨some 25,.binOp .eql 3 (.tmp 24) (.const (.int .i64 3)) 3,4,"ref.go:203",#[⟨0,.data⟩],none⟩
abbrev ztG:Oper:=⟨some 26,.move (.tmp 25),4,"ref.go:203",#[⟨1,.data⟩],none⟩
abbrev zug:Oper:=⟨some 27,.move (.tmp 5),3,"ref.go:203",#[⟨2,.guard⟩],some (2,false)⟩
abbrev ztE:Oper:=⟨some 28,.binOp .eql 3 (.tmp 27) (.const (.int .i64 2)) 3,4,"ref.go:203",#[⟨3,.data⟩,⟨2,.guard⟩],some (2,false)⟩
abbrev zvJ:Oper:=⟨some 29,.move (.tmp 28),4,"ref.go:203",#[⟨4,.data⟩,⟨2,.chain⟩,⟨2,.guard⟩],some (2,false)⟩
abbrev ztH:Oper:=⟨some 30,.fieldAddr 26 (.tmp 2) 1,0,"ref.go:203",#[⟨5,.guard⟩],some (5,true)⟩
abbrev zu0:Oper:=⟨some 31,.load 23 (.tmp 30),23,"ref.go:203",#[⟨6,.data⟩,⟨5,.guard⟩],some (5,true)⟩
abbrev ztF:Oper:=⟨some 32,.move (.tmp 6),40,"ref.go:203",#[⟨5,.guard⟩],some (5,true)⟩
abbrev zvE:Oper:=⟨some 33,.move (.tmp 7),3,"ref.go:203",#[⟨5,.guard⟩],some (5,true)⟩
abbrev zrQ:Oper:=⟨some 34,.indexAddr 40 (.tmp 32) (.tmp 33),0,"ref.go:203",#[⟨8,.data⟩,⟨9,.data⟩,⟨5,.guard⟩],some (5,true)⟩
abbrev zrk:Oper:=⟨some 35,.load 3 (.tmp 34),3,"ref.go:203",#[⟨10,.data⟩,⟨5,.guard⟩],some (5,true)⟩
abbrev zrK:Oper:=⟨some 36,.indexAddr 23 (.tmp 31) (.tmp 35),0,"ref.go:203",#[⟨7,.data⟩,⟨11,.data⟩,⟨5,.guard⟩],some (5,true)⟩
abbrev zrN:Oper:=⟨some 37,.fieldAddr 62 (.tmp 36) 3,0,"ref.go:203",#[⟨12,.data⟩,⟨5,.guard⟩],some (5,true)⟩
abbrev zrC:Oper:=⟨some 38,.load 4 (.tmp 37),4,"ref.go:203",#[⟨13,.data⟩,⟨5,.guard⟩],some (5,true)⟩
abbrev zr5:Oper:=⟨some 39,.unOp .not 4 (.tmp 38),4,"ref.go:203",#[⟨14,.data⟩,⟨5,.guard⟩],some (5,true)⟩
abbrev zrs:Oper:=⟨some 40,.pick (.tmp 29) (.tmp 39) (.const (.bool false)),4,"ref.go:203",#[⟨5,.data⟩,⟨15,.data⟩,⟨2,.guard⟩],some (2,false)⟩
abbrev zrO:Oper:=⟨some 41,.pick (.tmp 26) (.const (.bool true)) (.tmp 40),4,"ref.go:203",#[⟨2,.data⟩,⟨16,.data⟩],none⟩
def Apt (w:World) (lv mv:Value):Prop:=∀ k,mv.ownBlock=some k->k<w.heap.size/\lv.ownBlock≠some k
theorem Apt.later {w w':World} {lv mv:Value} (h:Apt w lv mv) (hb:Below w.heap.size w w'):Apt w' lv mv:=λk hk=>⟨Nat.lt_of_lt_of_le (h k hk).1 hb.size,(h k hk).2⟩
theorem Apt.add {w w3 w5:World} {lv lv5 mv:Value} {X:List Int} {o:Obj} (h:Apt w lv mv) (hi:Is w mv X) (h3:w3=w.alloc o) (hg:w3.grownBy w5 lv.ownBlock) (hp:lv5.ownBlock=lv.ownBlock∨lv5.ownBlock=some w3.heap.size) :
 Is w5 mv X/\Apt w5 lv5 mv:=by
 have s3:w3.heap.size=w.heap.size+1:=by rw[h3];simp
 have s5:=hg.size;refine⟨hi.keep (by omega) (λk hk=>?_),λk hk=>⟨by have:=(h k hk).1;omega, ?_⟩⟩
 ·rw[hg.block k (by have:=(h k hk).1;omega) (λe=>(h k hk).2 e.symm),h3]
  exact heap_alloc_old w _ (h k hk).1
 ·rcases hp with hp | hp
  ·rw[hp];exact (h k hk).2
  ·rw[hp];intro e;simp at e;have:=(h k hk).1;omega
theorem zgI {g:Img} {t x:Int} (h:x∈za6 g t):zam x g.ts.length=true:=by
 unfold za6 at h;obtain⟨i,hi,rfl⟩:=List.mem_map.1 h;have hp:=(List.mem_filter.1 hi).2;unfold zbA at hp;simp only[Bool.and_eq_true,decide_eq_true_iff]at hp;have hk:=hp.2.2;unfold zag at hk
 cases hn:zam (za7 g i).2.1 g.ts.length with
 | true=>rfl
 | false=>rw[hn]at hk;simp at hk
theorem zqU (g:Img) (t:Int):(za6 g t).length<=g.fs.length:=by
 unfold za6;rw[List.length_map];exact Nat.le_trans (List.length_filter_le _ _) (zcA g t)
theorem zoj (g:Img) (t:Int):Nd g.ts.length (za6 g t).length (za6 g t):=⟨λx hx=>zgI hx,by rw[List.drop_length];exact List.nodup_nil⟩
theorem zsI {g:Img} (t:Int) {k:Nat} (hk:(za6 g t).length+g.ts.length<k):(goL g.ts.length (za6 g) k 0 (za6 g t)).contains t=(zau g.ts.length (za6 g) (za6 g t)).contains t:=by
 rw[Bool.eq_iff_iff,List.contains_iff_mem,List.contains_iff_mem,zoP (zoj g t) hk,zcL]
set_option maxRecDepth 100000 in
theorem zhZ {g:Img} {q:Nat} {w:World} (hg:Im w g) (hi:imB g=true) (hq:q<g.ts.length) :
 Calls Tryz.prog 140 #[imV g,.int .i64 q] w λe w'=>e=.returned (.bool (zes g (q:Int)))/\Below w.heap.size w w':=by
 obtain⟨w0,hw0⟩:∃ W,W=w.alloc (.cells (imC g) 26):=⟨_,rfl⟩;have HW0:Hid (w0=_):=hw0;obtain⟨hb0,hgb⟩:=GB.made hg hw0;have HB0:Hid (Below w.heap.size w w0):=hb0;have HG:Hid (GB w0 w.heap.size g):=hgb;have HI:Hid (imB g=true):=hi;have hln:=zax hi;have HKd:Hid (Calls Tryz.prog 23 #[.agg (imC g),.int .i64 q] w0 λe w'=>e=.returned (.int .i64 (zag g (q:Int)))/\Below w0.heap.size w0 w'):=zaF (q:Int) hgb.im (FlOk.of hi)
 have HFl:Hid (∀ W,Below w0.heap.size w0 W->Calls Tryz.prog 181 #[.agg (imC g),.int .i64 q] W λe w'=>∃ v,e=.returned v/\OwnI w' W.heap.size v (zbg g (q:Int))/\Below W.heap.size W w'):=λW hW=>zcc (HG.out.im.later hW) HI.out
 have HPa:Hid (∀ W (t:Int),Below w0.heap.size w0 W->Calls Tryz.prog 182 #[.agg (imC g),.int .i64 t] W λe w'=>∃ v,e=.returned v/\OwnI w' W.heap.size v (za6 g t)/\Below W.heap.size W w'):=λW t hW=>zhW (HG.out.im.later hW) HI.out
 have HC4:Hid (∀ W,Below w0.heap.size w0 W->W.cell? ⟨w.heap.size,0,none⟩=some (.slice g.ta g.ts.length g.tc)/\W.cell? ⟨w.heap.size,1,none⟩=some (.slice g.fa g.fs.length g.fc)/\W.cell? ⟨w.heap.size,2,none⟩=some (.slice g.ma g.ms.length g.mc)/\W.cell? ⟨w.heap.size,3,none⟩=some (.int .i64 g.en)):=λW hW=>(hgb.later hW).cells
 have HR:Hid (zes g (q:Int)=if zag g (q:Int)=2 then (zbg g (q:Int)).all (zc0 g) else if zag g (q:Int)=3 then decide (zbg g (q:Int)=[]) else if zag g (q:Int)=1 then !(zau g.ts.length (za6 g) (za6 g (q:Int))).contains (q:Int) else true):=rfl
 obtain⟨c0,c1,c2,c3⟩:=hgb.cells;unfold imC at HW0 HKd HFl HPa;clear hw0 hb0 hgb hg hi;unfold imV;go_enter Tryz.func140,Tryz.ntmps140;go_wp2_with (rw[<- HW0.out])
 refine Calls.mono HKd.out ?_;rintro e w1 ⟨rfl,hb1⟩;have HB1:Hid (Below w0.heap.size w0 w1):=hb1;clear hb1 c0 c1 c2 c3 HKd;obtain⟨c0,c1,c2,c3⟩:=HC4.out w1 HB1.out;generalize zag g (q:Int)=kv at *;go_wp2_with fail
 refine Calls.mono (HFl.out w1 HB1.out) ?_;rintro e w2 ⟨fv,rfl,hf,hb2⟩;have HB2:Hid (Below w0.heap.size w0 w2):=zaa HB1.out hb2;obtain⟨L,hL⟩:∃ X,X=zbg g (q:Int):=⟨_,rfl⟩;have HLE:Hid (L=zbg g (q:Int)):=hL;rw[<- hL]at hf HR;have hll:=zcA g (q:Int);rw[<- hL]at hll;obtain⟨la,lc,hfv,_,hlc⟩:=(show Is w2 fv L from hf.is).shape
 subst hfv;have HOL:Hid (LiF w2 la L.length lc L):=LiF.of hf;clear hf hb2 c0 c1 c2 c3 hL HFl;go_wp2_with fail
 go_loopw [7] (λz wr=>∃ i:Nat,i<=L.length/\z=.int .i64 i/\Hid (Below w2.heap.size w2 wr)/\Hid ((kv=3->i=0)/\(kv=2->(L.take i).all (zc0 g)=true))) (λz _=>L.length - (intOf z).toNat)
 case atStart=>exact⟨0,Nat.zero_le _,rfl,Below.refl _ _,λ_=>rfl,λ_=>by simp⟩
 case round =>
  obtain⟨i,hi2,rfl,HB,HA⟩:=hrel;by_cases hil:i<L.length
  ·have hii:(i:Int)<(L.length:Int):=by omega
   by_cases hk3:kv=3
   ·subst hk3;have HBad:Hid (zes g (q:Int)=false):=by
     show _=_;rw[HR.out,if_neg (by decide),if_pos rfl,decide_eq_false_iff_not]
     intro e;rw[e]at hil;simp at hil
    clear HA;go_wp2_with fail
    refine wp_region_held_drew (S:=(λW=>True)) (by kernel_rfl) (trivial) (λyb=>?_)
    refine tY 0 zul (.int .i64 3) yb ?_;refine tY 1 zu2 (.bool true) yb ?_;refine tY 2 ztG (.bool true) yb ?_;refine tN 3 zug yb ?_;refine tN 4 ztE yb ?_;refine tN 5 zvJ yb ?_;refine tN 6 ztH yb ?_;refine tN 7 zu0 yb ?_;refine tN 8 ztF yb ?_;refine tN 9 zvE yb ?_;refine tN 10 zrQ yb ?_;refine tN 11 zrk yb ?_;refine tN 12 zrK yb ?_;refine tN 13 zrN yb ?_;refine tN 14 zrC yb ?_;refine tN 15 zr5 yb ?_;refine tN 16 zrs yb ?_;refine tY 17 zrO (.bool true) yb ?_;refine wpAnyH_done (by kernel_rfl) ?_ _
    go_wp2_with fail
    go_ret;exact⟨zab HBad.out.symm,zaa HB0.out (zaa HB2.out (Below.drewN HB.out 1))⟩
   ·by_cases hk2:kv=2
    ·subst hk2;have HRr:Hid (zes g (q:Int)=L.all (zc0 g)):=by show _=_;rw[HR.out,if_pos rfl]
     obtain⟨A,hA,hAl⟩:=zby (show L[i]∈zbg g (q:Int) by rw[<- HLE.out];exact List.getElem_mem hil)
     have hAi:(A:Int)<(g.fs.length:Int):=by omega
     have HYs:Hid (g.fs[A].st=true->(L.take (i+1)).all (zc0 g)=true):=λh=>zbw hil (HA.out.2 rfl) (by rw[hA,zdY hAl];exact h)
     have HNo:Hid (g.fs[A].st=false->L.all (zc0 g)=false):=λh=>zdr hil (by rw[hA,zdY hAl];exact h)
     obtain⟨gl,hgl⟩:=HOL.out.at0 hil;obtain⟨gl2,goff,hgl2,hgb,_,h6,h7,hc⟩:=(show Is wr (.slice la L.length lc) L from Sl.later HOL.out.is HB.out).at hil
     rw[hgl]at hgl2
     cases hgl2
     have cA:=hc i hil;rw[hA,Nat.zero_add]at cA;obtain⟨tb,off,hta,h8,h9,hty⟩:=HG.out.fd (by intro e;rw[e]at hAl;simp at hAl)
     obtain⟨c1,hd⟩:=hty wr (zaa HB2.out HB.out);obtain⟨k0,k1,k2,k3,k4,k5,k6⟩:=(hd A hAl).cells_F;unfold maxLen at h7 h9;subst hgl;clear hc hty hta hA hd HA hk3;generalize g.fs[A].st=sv at *
     cases sv with
     | true =>
      have HA2:Hid _:=HYs.out rfl;clear HYs HNo;go_wp2_with fail
      go_quiet (fail)
      go_wp2_with fail
      go_roundw
      case rel=>exact⟨i+1,by omega,by go_num,Below.drewN HB.out _,λh=>absurd h (by decide),λ_=>HA2.out⟩
      case measure=>simp[intOf];omega
     | false =>
      have HBad:Hid _:=HNo.out rfl;clear HYs HNo;go_wp2_with fail
      go_quiet (fail)
      go_wp2_with fail
      go_ret;exact⟨zab (by rw[HRr.out,HBad.out]),zaa HB0.out (zaa HB2.out (Below.drewN HB.out _))⟩
    ·have h3b:(kv==3)=false:=by simpa using hk3
     have h2b:(kv==2)=false:=by simpa using hk2
     have HK3:Hid (¬ kv=3):=hk3;have HK2:Hid (¬ kv=2):=hk2;clear HA hk3 hk2;go_wp2_with fail
     refine wp_region_held_drew (S:=(λW=>True)) (by kernel_rfl) (trivial) (λyb=>?_)
     refine tY 0 zul (.int .i64 kv) yb ?_;refine tY 1 zu2 (.bool false) yb ?_;refine tY 2 ztG (.bool false) yb ?_;refine tY 3 zug (.int .i64 kv) yb ?_;refine tY 4 ztE (.bool false) yb ?_;refine tY 5 zvJ (.bool false) yb ?_;refine tN 6 ztH yb ?_;refine tN 7 zu0 yb ?_;refine tN 8 ztF yb ?_;refine tN 9 zvE yb ?_;refine tN 10 zrQ yb ?_;refine tN 11 zrk yb ?_;refine tN 12 zrK yb ?_;refine tN 13 zrN yb ?_;refine tN 14 zrC yb ?_;refine tN 15 zr5 yb ?_;refine tY 16 zrs (.bool false) yb ?_;refine tY 17 zrO (.bool false) yb ?_;refine wpAnyH_done (by kernel_rfl) ?_ _
     go_wp2_with fail
     go_roundw
     case rel=>exact⟨i+1,by omega,by go_num,Below.drewN HB.out 1,λh=>absurd h HK3.out,λh=>absurd h HK2.out⟩
     case measure=>simp[intOf];omega
  ·have hii:¬ (i:Int)<(L.length:Int):=by omega
   have HBr:Hid (Below w0.heap.size w0 wr):=zaa HB2.out HB.out;by_cases hk1:kv=1
   ·subst hk1;have HR1:Hid (zes g (q:Int)=!(zau g.ts.length (za6 g) (za6 g (q:Int))).contains (q:Int)):=by show _=_;rw[HR.out,if_neg (by decide),if_neg (by decide),if_pos rfl]
    obtain⟨c0,c1,c2,c3⟩:=HC4.out wr HBr.out;clear HA HB;go_wp2_with fail
    refine Calls.mono (HPa.out wr _ HBr.out) ?_;rintro e w3 ⟨pv,rfl,hp,hb3⟩;have HB3:Hid (Below w0.heap.size w0 w3):=zaa HBr.out hb3;have HP:Hid (OwnI w3 wr.heap.size pv (za6 g (q:Int))):=hp;have hpl:=zqU g (q:Int);clear hp hb3 c0 c1 c2 c3;go_wp2_with (at_builtin;go_must (refine zbv rfl (.tmp 44) (.tmp 47) 40 40 rfl w3.heap.size 3 (.int .i64 0) 8 Tryz.underlying40 Tryz.infoInt7 rfl (v:=.slice none 0 0) (y:=pv) (xs:=[]) rfl rfl (OwnV.nil _ _ _) (Sl.src HP.out.is Tryz.underlying40 (zg8 _)) (by rw[zae];simp;unfold maxLen;omega) (by rw[zae];simp;omega) (Nat.le_refl _) ?_;intro v5 w5 ho5 hg5 hp5 hs5))
    have HO5:Hid (OwnI w5 w3.heap.size v5 (za6 g (q:Int))):=ho5;have HB5:Hid (Below w3.heap.size w3 w5):=zbo hg5;clear ho5 hg5 hp5 hs5;go_loopw [8,9,10,11] (λlv z _ _ wr=>∃ (i:Nat) (M:List Int),i<=M.length/\z=.int .i64 i/\Hid (OwnI wr w3.heap.size lv M)/\Hid (Nd g.ts.length (za6 g (q:Int)).length M)/\Hid (goL g.ts.length (za6 g) ((za6 g (q:Int)).length+g.ts.length+1 - i) i M=goL g.ts.length (za6 g) ((za6 g (q:Int)).length+g.ts.length+1) 0 (za6 g (q:Int)))/\Hid (Below w3.heap.size w3 wr)) (λ_ z _ _ _=>(za6 g (q:Int)).length+g.ts.length+1 - (intOf z).toNat)
    case atStart=>exact⟨0,_,Nat.zero_le _,rfl,HO5.out,zoj _ _,rfl,HB5.out⟩
    case round =>
     obtain⟨i,M,hiM,rfl,HO,HN,HGo,HB⟩:=hrel;have hMl:=HN.out.len;by_cases hil:i<M.length
     ·have hii:(i:Int)<(M.length:Int):=by omega
      obtain⟨gl,capl,hlv,p1,p2,p3,p4,p5⟩:=HO.out.parts (by intro e;rw[e]at hil;simp at hil)
      have cq:=p5 i hil;obtain⟨j,hj,hjl⟩:=zaK (HN.out.1 _ (List.getElem_mem hil));rw[hj]at cq;have HG2:Hid (goL g.ts.length (za6 g) ((za6 g (q:Int)).length+g.ts.length+1 - (i+1)) (i+1) (zaq g.ts.length M (za6 g (j:Int)))=goL g.ts.length (za6 g) ((za6 g (q:Int)).length+g.ts.length+1) 0 (za6 g (q:Int))):=by
       show _=_;rw[<- HGo.out,show (za6 g (q:Int)).length+g.ts.length+1 - i=((za6 g (q:Int)).length+g.ts.length+1 - (i+1))+1 by omega,zdt hil,hj]
      have HBr2:Hid (Below w0.heap.size w0 wr):=zaa HB3.out HB.out;have HK:Hid (∀ W,Below wr.heap.size wr W->W.cell? ⟨w.heap.size,0,none⟩=some (.slice g.ta g.ts.length g.tc)/\W.cell? ⟨w.heap.size,1,none⟩=some (.slice g.fa g.fs.length g.fc)/\W.cell? ⟨w.heap.size,2,none⟩=some (.slice g.ma g.ms.length g.mc)/\W.cell? ⟨w.heap.size,3,none⟩=some (.int .i64 g.en)/\W.cell? ⟨gl,i,none⟩=some (.int .i64 j)):=λW hW=>by
       have h4:=HC4.out W (zaa HBr2.out hW);exact⟨h4.1,h4.2.1,h4.2.2.1,h4.2.2.2,by rw[<- cq];exact hW.cell (p:=⟨gl,i,none⟩) p4⟩
      obtain⟨e0,e1,e2,e3,e4⟩:=HK.out wr (Below.refl _ _);have HPj:Hid (∀ W,Below wr.heap.size wr W->Calls Tryz.prog 182 #[.agg #[.slice g.ta g.ts.length g.tc,.slice g.fa g.fs.length g.fc,.slice g.ma g.ms.length g.mc,.int .i64 g.en],.int .i64 j] W λe w'=>∃ v,e=.returned v/\OwnI w' W.heap.size v (za6 g (j:Int))/\Below W.heap.size W w'):=λW hW=>HPa.out W _ (zaa HBr2.out hW)
      subst hlv;unfold maxLen at p2;clear p5 cq hj HGo;go_wp2_with fail
      go_region_held3 (λW:World=>W.cell? ⟨w.heap.size,0,none⟩=some (.slice g.ta g.ts.length g.tc)/\W.cell? ⟨w.heap.size,1,none⟩=some (.slice g.fa g.fs.length g.fc)/\W.cell? ⟨w.heap.size,2,none⟩=some (.slice g.ma g.ms.length g.mc)/\W.cell? ⟨w.heap.size,3,none⟩=some (.int .i64 g.en)/\W.cell? ⟨gl,i,none⟩=some (.int .i64 j))
       (first | (exact HK.out _ hBc) | (exact HK.out _ (zad _)))
       (first | (go_at_call 182;refine (HPj.out _ (zad _)).mono ?_;rintro e w6 ⟨mv,rfl,hm,hb6⟩;have hBc:Below wr.heap.size wr w6:=zaa (zad _) hb6))
      rename_i hheld
      clear hheld;obtain⟨X,hX⟩:∃ X,X=za6 g (j:Int):=⟨_,rfl⟩;have HXn:Hid (∀ x∈X,zam x g.ts.length=true):=λx hx=>zgI (by rw[<- hX];exact hx)
      rw[<- hX]at hm HG2;have HO6:Hid (OwnI w6 w3.heap.size (.slice (some ⟨gl,0,none⟩) M.length capl) M):=HO.out.later hBc;have HB6:Hid (Below w3.heap.size w3 w6):=zaa HB.out hBc;have hAp:Apt w6 (.slice (some ⟨gl,0,none⟩) M.length capl) mv:=λk hk=>by
       have:=hm.block k hk;refine⟨this.2,λe=>?_⟩
       simp[Value.ownBlock]at e;have:=this.1;simp at this;omega
      obtain⟨ma,mc,hmv,_,hmc⟩:=(show Is w6 mv X from hm.is).shape
      have HMv:Hid (Is w6 mv X/\Apt w6 (.slice (some ⟨gl,0,none⟩) M.length capl) mv):=⟨hm.is,hAp⟩;subst hmv;clear hm hAp hb6 hBc e0 e1 e2 e3 e4 hX HK HPj HO;go_wp2_with fail
      go_loopw [8,11] (λlv z wr=>∃ k:Nat,k<=X.length/\z=.int .i64 k/\Hid (OwnI wr w3.heap.size lv (zaq g.ts.length M (X.take k)))/\Hid (Nd g.ts.length (za6 g (q:Int)).length (zaq g.ts.length M (X.take k)))/\Hid (Is wr (.slice ma X.length mc) X/\Apt wr lv (.slice ma X.length mc))/\Hid (Below w3.heap.size w3 wr)) (λ_ z _=>X.length - (intOf z).toNat)
      case atStart=>exact⟨0,Nat.zero_le _,rfl,HO6.out,HN.out,HMv.out,HB6.out⟩
      case round =>
       clear HN HB;obtain⟨k,hk2,rfl,HO,HN,HM,HB⟩:=hrel;by_cases hkl:k<X.length
       ·have hki:(k:Int)<(X.length:Int):=by omega
        obtain⟨mb,moff,hma,hmb,_,h6,h7,hc⟩:=HM.out.1.at hkl;have cx:=hc k hkl;have HST:Hid (zaq g.ts.length M (X.take (k+1))=zbJ g.ts.length (zaq g.ts.length M (X.take k)) X[k]):=zcB hkl;have HNx:Hid (zam X[k] g.ts.length=true):=HXn.out _ (List.getElem_mem hkl);have HNn:Hid (Nd g.ts.length (za6 g (q:Int)).length (zbJ g.ts.length (zaq g.ts.length M (X.take k)) X[k])):=HN.out.step _;obtain⟨M2,hM2⟩:∃ M2,M2=zaq g.ts.length M (X.take k):=⟨_,rfl⟩;rw[<- hM2]at HO HST HNn HN;have hm2:=HN.out.len;subst hma;unfold maxLen at h7;clear hc hM2;generalize X[k]=x at *;go_wp2_with fail
        refine (zaM HO.out.is x).mono ?_;rintro e wz ⟨rfl,hz⟩;subst wz
        cases hh:M2.contains x with
        | true =>
         have HS2:Hid (zaq g.ts.length M (X.take (k+1))=M2):=by show _=_;rw[HST.out,zb2 hh]
         clear hh cx;go_wp2_with fail
         go_roundw
         case rel=>exact⟨k+1,by omega,by go_num,by rw[HS2.out];exact HO.out,by rw[HS2.out];exact HN.out,HM.out,HB.out⟩
         case measure=>simp[intOf];omega
        | false =>
         have HS2:Hid (zaq g.ts.length M (X.take (k+1))=M2 ++ [x]):=by show _=_;rw[HST.out,zaR HNx.out hh]
         rw[zaR HNx.out hh]at HNn;clear hh;go_wp2_with (at_builtin;go_must (refine zaC (v:=u8) rfl (.tmp 74) (.tmp 79) rfl w3.heap.size rfl rfl (HO.out.later (zac _ _ _)) (zbf wr x _ rfl) (by omega) (Nat.le_trans HB.out.size (zac _ _ _).size) ?_;intro v7 w7 ho7 hg7 hp7;have hB7:=(zbN HB.out _).trans (zar (HO.out.later (zac _ _ _)) hg7 (Nat.le_refl _) (Nat.le_trans HB.out.size (zac _ _ _).size));have hM7:=HM.out.2.add HM.out.1 rfl hg7 hp7))
         go_roundw
         case rel=>exact⟨k+1,by omega,by go_num,by rw[HS2.out];exact ho7,by rw[HS2.out];exact HNn.out,hM7,hB7⟩
         case measure=>simp[intOf];omega
       ·have hki:¬ (k:Int)<(X.length:Int):=by omega
        have HE:Hid (zaq g.ts.length M (X.take k)=zaq g.ts.length M X):=zcG hkl;have hpre:=(zbt g.ts.length (X.take k) M).length_le;go_wp2_with fail
        go_roundw
        case rel=>exact⟨i+1,_,by omega,by go_num,HO.out,HN.out,by rw[HE.out];exact HG2.out,HB.out⟩
        case measure=>simp[intOf];omega
     ·obtain⟨la5,lc5,hlv5,_,_⟩:=(show Is wr u8 M from HO.out.is).shape
      have hii:¬ (i:Int)<(M.length:Int):=by omega
      have HE:Hid (M.contains (q:Int)=(zau g.ts.length (za6 g) (za6 g (q:Int))).contains (q:Int)):=by
       show _=_;rw[<- zsI (q:Int) (show (za6 g (q:Int)).length+g.ts.length<(za6 g (q:Int)).length+g.ts.length+1 by omega),<- HGo.out,zd0 hil]
      have HHs:Hid (Calls Tryz.prog 74 #[u8,.int .i64 q] wr λe w'=>e=.returned (.bool (M.contains (q:Int)))/\w'=wr):=zaM HO.out.is _
      subst hlv5;have HBr2:Hid (Below w0.heap.size w0 wr):=zaa HB3.out HB.out;clear HO HGo;generalize M.contains (q:Int)=r at *;go_wp2_with fail
      refine Calls.mono HHs.out ?_;rintro e wz ⟨rfl,hz⟩;subst wz;go_wp2_with fail
      go_ret;exact⟨zab (by rw[HR1.out,HE.out]),zaa HB0.out HBr2.out⟩
   ·have hkb:(kv != 1)=true:=by simpa using hk1
    have HT:Hid (zes g (q:Int)=true):=by
     show _=_;rw[HR.out];by_cases h2:kv=2
     ·rw[if_pos h2];have:=HA.out.2 h2
      rwa [List.take_of_length_le (by omega)]at this
     ·rw[if_neg h2];by_cases h3:kv=3
      ·rw[if_pos h3,decide_eq_true_iff];have:=HA.out.1 h3;exact List.eq_nil_of_length_eq_zero (by omega)
      ·rw[if_neg h3,if_neg hk1]
    clear HA hk1;go_wp2_with fail
    go_ret;exact⟨zab HT.out.symm,zaa HB0.out HBr.out⟩
end Go.Proofs.YtkedhjdipnhgdaaGreat

namespace Go.Proofs.YtkedhjdipnhgdaaGreat
set_option maxHeartbeats 16000000
set_option linter.all false
open RowKit
theorem ze9 {α β:Type} (a b:α->List β):∀ l:List α,(l.flatMap (λx=>a x ++ b x)).Perm (l.flatMap a ++ l.flatMap b)
 | []=>by simp
 | x :: r=>by
  rw[List.flatMap_cons,List.flatMap_cons,List.flatMap_cons];have ih:=ze9 a b r;have h1:((a x ++ b x) ++ r.flatMap (λx=>a x ++ b x)).Perm ((a x ++ b x) ++ (r.flatMap a ++ r.flatMap b)):=List.Perm.append_left _ ih
  refine h1.trans ?_;rw[List.append_assoc,List.append_assoc];refine List.Perm.append_left _ ?_;rw[<- List.append_assoc,<- List.append_assoc];exact List.Perm.append_right _ List.perm_append_comm
theorem zkE {β:Type} (y:Int) (L:List β):∀ up:List Int,y∉up->up.flatMap (λu=>if y=u then L else [])=[]
 | [],_=>rfl
 | a :: r,h=>by
  rw[List.flatMap_cons,if_neg (λe=>h (by rw[e];exact List.mem_cons_self)),zkE y L r (λh2=>h (List.mem_cons_of_mem _ h2))];rfl
theorem zov {β:Type} (y:Int) (L:List β):∀ up:List Int,up.Nodup->y∈up->up.flatMap (λu=>if y=u then L else [])=L
 | [],_,h=>absurd h (by simp)
 | a :: r,hd,h=>by
  rw[List.flatMap_cons];have hd2:=List.nodup_cons.1 hd;by_cases e:y=a
  ·rw[if_pos e,zkE y L r (by rw[e];exact hd2.1),List.append_nil]
  ·rw[if_neg e,zov y L r hd2.2 (by
    rcases List.mem_cons.1 h with h | h
    ·exact absurd h e
    ·exact h)];rfl
theorem zlr {α β:Type} (own:α->Int) (f:α->List β) {up:List Int} (hd:up.Nodup):∀ l:List α,((l.filter (λx=>up.contains (own x))).flatMap f).Perm (up.flatMap (λu=>(l.filter (λx=>decide (own x=u))).flatMap f))
 | []=>by
  have:up.flatMap (λu=>(([]:List α).filter (λx=>decide (own x=u))).flatMap f)=[]:=by
   simp
  rw[this];simp
 | x :: r=>by
  have ih:=zlr own f hd r;have e:up.flatMap (λu=>((x :: r).filter (λx=>decide (own x=u))).flatMap f)=up.flatMap (λu=>(if own x=u then f x else []) ++ (r.filter (λx=>decide (own x=u))).flatMap f):=by
   refine zcC λu _=>?_
   rw[List.filter_cons];by_cases h:own x=u
   ·simp[h]
   ·simp[h]
  rw[e];refine List.Perm.trans ?_ (ze9 _ _ up).symm;rw[List.filter_cons];by_cases h:own x∈up
  ·rw[if_pos (List.contains_iff_mem.2 h),List.flatMap_cons,zov _ _ _ hd h];exact List.Perm.append_left _ ih
  ·rw[if_neg (λh2=>h (List.contains_iff_mem.1 h2)),zkE _ _ _ h,List.nil_append]
   exact ih
def zfT (g:Img) (up:List Int) (i:Nat):List Ty:=((g.fs.take i).filter (λx=>up.contains x.ow&&!x.st)).flatMap (λx=>zbl g x.t)
theorem zo7 {g:Img} {up:List Int} {i:Nat} (hi:i<g.fs.length):zfT g up (i+1)=zfT g up i ++ (if (up.contains g.fs[i].ow&&!g.fs[i].st)=true then zbl g g.fs[i].t else []):=by
 unfold zfT;rw[List.take_succ_eq_append_getElem hi,List.filter_append,List.flatMap_append]
 congr 1
 cases h:(up.contains g.fs[i].ow&&!g.fs[i].st) <;> simp only[List.filter_cons,h] <;> simp
theorem znR {g:Img} {up:List Int} (i:Nat):(zfT g up i).length<=(zfT g up g.fs.length).length:=by
 unfold zfT;rw[List.take_of_length_le (Nat.le_refl g.fs.length)];have h:g.fs=g.fs.take i ++ g.fs.drop i:=(List.take_append_drop i g.fs).symm;have:(g.fs.filter (λx=>up.contains x.ow&&!x.st)).flatMap (λx=>zbl g x.t)=((g.fs.take i).filter (λx=>up.contains x.ow&&!x.st)).flatMap (λx=>zbl g x.t) ++ ((g.fs.drop i).filter (λx=>up.contains x.ow&&!x.st)).flatMap (λx=>zbl g x.t):=by
  rw[<- List.flatMap_append,<- List.filter_append,<- h]
 rw[this,List.length_append];omega
theorem zsL (g:Img) (u:Int):zde g u=(g.fs.filter (zdf u)).flatMap (λx=>zbl g x.t):=by
 unfold zde zbP;rw[List.flatMap_map]
theorem zqS {g:Img} (t:Int):(zfT g (upL g t) g.fs.length).length=(znm g t).length:=by
 have hnd:(upL g t).Nodup:=by have:=(zcw g t).2;simpa using this
 have h1:=zlr (λx:FD=>x.ow) (λx:FD=>zbl g x.t) hnd (g.fs.filter (λx=>!x.st))
 have h2:(zfT g (upL g t) g.fs.length).length=((upL g t).flatMap (zde g)).length:=by
  unfold zfT;rw[List.take_of_length_le (Nat.le_refl g.fs.length)];rw[List.filter_filter]at h1;refine h1.length_eq.trans ?_
  congr 1
  refine zcC λu _=>?_
  rw[List.filter_filter,zsL];rfl
 rw[h2];unfold znm;exact ((List.reverse_perm (upL g t)).flatMap_right (zde g)).length_eq.symm
end Go.Proofs.YtkedhjdipnhgdaaGreat
