import Derived.Test.YtkedhjdipnhgdaaGreatR18
import Derived.Test.YtkedhjdipnhgdaaGreatR21
namespace Go.Proofs.YtkedhjdipnhgdaaGreat
set_option maxHeartbeats 16000000
set_option linter.all false
open RowKit
attribute [local go_sem ↓] wp_at_zero wp_at_succ
theorem Tryz.info10N:(Tryz.prog.info? 3).map (λi=>(i.zero,i.size,i.bytes))=some (some (.int .i64 0),1,8):=by kernel_rfl
theorem Tryz.info10Y:(Tryz.prog.info? 47).map (λi=>(i.zero,i.size,i.bytes))=some (some (.agg #[.int .i64 0,.int .i64 0,.int .i64 0,.bool false]),4,32):=by kernel_rfl
theorem Tryz.info10I:(Tryz.prog.info? 65).map (λi=>(i.zero,i.size,i.bytes))=some (some (.agg #[.int .i64 0,.int .i64 0,.int .i64 0,.int .i64 0,.int .i64 0,.bool false]),6,48):=by kernel_rfl
theorem Tryz.info10C:(Tryz.prog.info? 85).map (λi=>(i.zero,i.size,i.bytes))=some (some (.agg #[.int .i64 0,.int .i64 0,.int .i64 0,.int .i64 0,.int .i64 0,.int .i64 0,.int .i64 0,.int .i64 0,.int .i64 0,.bool false]),10,80):=by kernel_rfl
theorem Tryz.info10T:(Tryz.prog.info? 44).map (λi=>(i.zero,i.size,i.bytes))=some (some (.agg #[.string ByteArray.empty,.int .i64 0,.int .i64 0,.slice none 0 0]),4,56):=by kernel_rfl
theorem Tryz.info10F:(Tryz.prog.info? 62).map (λi=>(i.zero,i.size,i.bytes))=some (some (.agg #[.string ByteArray.empty,.int .i64 0,.int .i64 0,.int .i64 0,.int .i64 0,.bool false,.bool false]),7,64):=by kernel_rfl
theorem Tryz.info10M:(Tryz.prog.info? 51).map (λi=>(i.zero,i.size,i.bytes))=some (some (.agg #[.string ByteArray.empty,.int .i64 0,.int .i64 0,.slice none 0 0,.int .i64 0,.int .i64 0,.int .i64 0,.bool false,.slice none 0 0,.int .i64 0,.slice none 0 0,.slice none 0 0]),12,168):=by kernel_rfl
structure CT (w:World) (base:Nat) (ts:List TD) (n:Nat) (v:Value) (xs:List TD):Prop where
 row:OwnE tdE w base 44 v xs
 len:xs.length=n
 like:∀ i (h1:i<xs.length) (h2:i<ts.length),(ts[i]).like xs[i]
 own:∀ x∈xs,OwnE zch w base 3 (.slice x.fa x.fs.length x.fc) x.fs
theorem CT.nil (w:World) (base:Nat) (ts:List TD):CT w base ts 0 (.slice none 0 0) []:=⟨OwnE.nil tdE w base _,rfl,λi h=>by simp at h,λx hx=>by simp at hx⟩
theorem CT.keep {w w':World} {base n:Nat} {ts xs:List TD} {v:Value} (h:CT w base ts n v xs) (k1:KeepT 44 w w') (k2:KeepT 3 w w'):CT w' base ts n v xs:=
 ⟨h.row.keep k1,h.len,h.like,λx hx=>(h.own x hx).keep k2⟩
theorem CT.step {w w':World} {base n:Nat} {ts xs:List TD} {v v':Value} {x:TD} (h:CT w base ts n v xs) (hr:OwnE tdE w' base 44 v' (xs ++ [x])) (k2:KeepT 3 w w') (hx:OwnE zch w' base 3 (.slice x.fa x.fs.length x.fc) x.fs) (hn:n<ts.length) (hl:(ts[n]).like x):CT w' base ts (n+1) v' (xs ++ [x]):=by
 refine⟨hr,by simp[h.len],λi h1 h2=>?_,λy hy=>?_⟩
 ·rcases Nat.lt_or_ge i xs.length with g | g
  ·rw[List.getElem_append_left g];exact h.like i g h2
  ·have hi:i=n:=by simp at h1;have:=h.len;omega
   subst hi;rw[List.getElem_append_right (by have:=h.len;omega)]
   simpa using hl
 ·simp only[List.mem_append,List.mem_singleton]at hy
  rcases hy with hy | rfl
  ·exact (h.own y hy).keep k2
  ·exact hx
def MOwn (w:World) (base:Nat) (x:MD):Prop:=OwnE tyE w base 47 (.slice x.pa x.ps.length x.pc) x.ps/\OwnE tyE w base 47 (.slice x.la x.ls.length x.lc) x.ls/\OwnE zcv w base 65 (.slice x.ca x.co.length x.cc) x.co/\OwnE zci w base 85 (.slice x.ka x.cl.length x.kc) x.cl
theorem MOwn.keep {w w':World} {base:Nat} {x:MD} (h:MOwn w base x) (k1:KeepT 47 w w') (k2:KeepT 65 w w') (k3:KeepT 85 w w'):MOwn w' base x:=⟨h.1.keep k1,h.2.1.keep k1,h.2.2.1.keep k2,h.2.2.2.keep k3⟩
structure CM (w:World) (base:Nat) (ts:List MD) (n:Nat) (v:Value) (xs:List MD):Prop where
 row:OwnE mdE w base 51 v xs
 len:xs.length=n
 like:∀ i (h1:i<xs.length) (h2:i<ts.length),(ts[i]).like xs[i]
 own:∀ x∈xs,MOwn w base x
theorem CM.nil (w:World) (base:Nat) (ts:List MD):CM w base ts 0 (.slice none 0 0) []:=⟨OwnE.nil mdE w base _,rfl,λi h=>by simp at h,λx hx=>by simp at hx⟩
theorem CM.keep {w w':World} {base n:Nat} {ts xs:List MD} {v:Value} (h:CM w base ts n v xs) (k0:KeepT 51 w w') (k1:KeepT 47 w w') (k2:KeepT 65 w w') (k3:KeepT 85 w w'):CM w' base ts n v xs:=
 ⟨h.row.keep k0,h.len,h.like,λx hx=>(h.own x hx).keep k1 k2 k3⟩
theorem CM.step {w w':World} {base n:Nat} {ts xs:List MD} {v v':Value} {x:MD} (h:CM w base ts n v xs) (hr:OwnE mdE w' base 51 v' (xs ++ [x])) (k1:KeepT 47 w w') (k2:KeepT 65 w w') (k3:KeepT 85 w w') (hx:MOwn w' base x) (hn:n<ts.length) (hl:(ts[n]).like x):CM w' base ts (n+1) v' (xs ++ [x]):=by
 refine⟨hr,by simp[h.len],λi h1 h2=>?_,λy hy=>?_⟩
 ·rcases Nat.lt_or_ge i xs.length with g | g
  ·rw[List.getElem_append_left g];exact h.like i g h2
  ·have hi:i=n:=by simp at h1;have:=h.len;omega
   subst hi;rw[List.getElem_append_right (by have:=h.len;omega)]
   simpa using hl
 ·simp only[List.mem_append,List.mem_singleton]at hy
  rcases hy with hy | rfl
  ·exact (h.own y hy).keep k1 k2 k3
  ·exact hx
set_option maxRecDepth 100000 in
theorem zh3 {g:Img} {w:World} (hg:Im w g) (hl:zcb g=false) :
 Calls Tryz.prog 6 #[imV g] w λe w'=>∃ h,e=.returned (imV h)/\Im w' h/\g.like h/\Below w.heap.size w w':=by
 have hz:g.ts.length<=40/\g.fs.length<=80/\g.ms.length<=80/\(∀ x∈g.ts,zem x=false)/\(∀ x∈g.ms,zcO x=false):=by
  unfold zcb at hl;simp only[Bool.or_eq_false_iff,decide_eq_false_iff_not,List.any_eq_false]at hl;obtain⟨⟨⟨h1,h2⟩,h3⟩,h4,h5⟩:=hl;exact⟨by omega,by omega,by omega,λx hx=>by simpa using h4 x hx,λx hx=>by simpa using h5 x hx⟩
 obtain⟨z1,z2,z3,z4,z5⟩:=hz;have HLt:Hid (∀ x∈g.ts,x.fs.length<=20):=λx hx=>by
  have:=z4 x hx;unfold zem at this;simp only[Bool.or_eq_false_iff,decide_eq_false_iff_not]at this;omega
 have HLm:Hid (∀ x∈g.ms,x.ps.length<=30/\x.ls.length<=30/\x.co.length<=200/\x.cl.length<=20):=λx hx=>by
  have:=z5 x hx;unfold zcO at this;simp only[Bool.or_eq_false_iff,decide_eq_false_iff_not]at this;omega
 obtain⟨w0,hw0⟩:∃ W,W=((w.alloc (.cells #[.slice g.ta g.ts.length g.tc,.slice g.fa g.fs.length g.fc,.slice g.ma g.ms.length g.mc,.int .i64 g.en] 26)).alloc (.cells #[.slice none 0 0,.slice none 0 0,.slice none 0 0,.int .i64 0] 26)).alloc (.cells #[.slice none 0 0,.slice none 0 0,.slice none 0 0,.int .i64 g.en] 26):=⟨_,rfl⟩;have HW0:Hid (w0=_):=hw0;have hb0:Below w.heap.size w w0:=by rw[hw0];exact zbN (zbN (zac _ _ _) _) _
 have HB0:Hid (Below w.heap.size w w0):=hb0;have hA0:At w0 w.heap.size #[.slice g.ta g.ts.length g.tc,.slice g.fa g.fs.length g.fc,.slice g.ma g.ms.length g.mc,.int .i64 g.en] 26:=by rw[hw0];exact ((At.made _ _ _).next _).next _
 have hA1:At w0 (w.heap.size+1) #[.slice none 0 0,.slice none 0 0,.slice none 0 0,.int .i64 0] 26:=by
  rw[hw0];have:=(At.made (w.alloc (.cells #[.slice g.ta g.ts.length g.tc,.slice g.fa g.fs.length g.fc,.slice g.ma g.ms.length g.mc,.int .i64 g.en] 26)) #[.slice none 0 0,.slice none 0 0,.slice none 0 0,.int .i64 0] 26).next (.cells #[.slice none 0 0,.slice none 0 0,.slice none 0 0,.int .i64 g.en] 26)
  simpa using this
 have hA2:At w0 (w.heap.size+1+1) #[.slice none 0 0,.slice none 0 0,.slice none 0 0,.int .i64 g.en] 26:=by
  rw[hw0];have:=At.made ((w.alloc (.cells #[.slice g.ta g.ts.length g.tc,.slice g.fa g.fs.length g.fc,.slice g.ma g.ms.length g.mc,.int .i64 g.en] 26)).alloc (.cells #[.slice none 0 0,.slice none 0 0,.slice none 0 0,.int .i64 0] 26)) #[.slice none 0 0,.slice none 0 0,.slice none 0 0,.int .i64 g.en] 26;simpa using this
 have hs0:w.heap.size+1+1+1<=w0.heap.size:=by rw[hw0];simp
 have HS0:Hid (w.heap.size+1+1+1<=w0.heap.size):=hs0;have HA0:Hid (At w0 w.heap.size #[.slice g.ta g.ts.length g.tc,.slice g.fa g.fs.length g.fc,.slice g.ma g.ms.length g.mc,.int .i64 g.en] 26/\At w0 (w.heap.size+1) #[.slice none 0 0,.slice none 0 0,.slice none 0 0,.int .i64 0] 26/\At w0 (w.heap.size+1+1) #[.slice none 0 0,.slice none 0 0,.slice none 0 0,.int .i64 g.en] 26):=⟨hA0,hA1,hA2⟩;have HG:Hid (∀ W,Below w.heap.size w W->Im W g):=λW hW=>hg.later hW
 have HCT0:Hid (CT w0 (w.heap.size+1+1+1) g.ts 0 (.slice none 0 0) []):=CT.nil _ _ _;clear hw0 hb0 hA0 hA1 hA2 hg hl z4 z5 hs0;unfold imV;go_enter Tryz.func6,Tryz.ntmps6;go_wp2_with (rw[<- HW0.out])
 go_loopw [4] (λz wr=>∃ (q:Nat) (a:Option Addr) (c:Nat) (xs:List TD),q<=g.ts.length/\z=.int .i64 q/\Below w.heap.size w wr/\Hid (CT wr (w.heap.size+1+1+1) g.ts q (.slice a xs.length c) xs/\w.heap.size+1+1+1<=wr.heap.size)/\At wr w.heap.size #[.slice g.ta g.ts.length g.tc,.slice g.fa g.fs.length g.fc,.slice g.ma g.ms.length g.mc,.int .i64 g.en] 26/\At wr (w.heap.size+1) #[.slice none 0 0,.slice none 0 0,.slice none 0 0,.int .i64 0] 26/\At wr (w.heap.size+1+1) #[.slice a xs.length c,.slice none 0 0,.slice none 0 0,.int .i64 g.en] 26) (λz _=>g.ts.length - (intOf z).toNat)
 case atStart=>exact⟨0,none,0,[],Nat.zero_le _,rfl,HB0.out,⟨HCT0.out,HS0.out⟩,HA0.out.1,HA0.out.2.1,HA0.out.2.2⟩
 case round =>
  obtain⟨q,va,vc,xs,hq,rfl,hB,HCT,hI0,hI1,hI2⟩:=hrel;have HBr:Hid (Below w.heap.size w wr):=hB;have HI0:Hid (At wr w.heap.size #[.slice g.ta g.ts.length g.tc,.slice g.fa g.fs.length g.fc,.slice g.ma g.ms.length g.mc,.int .i64 g.en] 26/\At wr (w.heap.size+1) #[.slice none 0 0,.slice none 0 0,.slice none 0 0,.int .i64 0] 26/\At wr (w.heap.size+1+1) #[.slice va xs.length vc,.slice none 0 0,.slice none 0 0,.int .i64 g.en] 26):=⟨hI0,hI1,hI2⟩;have c0:=hI0.cell;by_cases hql:q<g.ts.length
  ·obtain⟨b,off,hfa,hb,h6,h7,hc⟩:=((HG.out wr hB).ts).at hql;obtain⟨k0,k1,k2,k3⟩:=(show El tdE wr b (off+q * 4) g.ts[q] from hc q hql).cells_T
   have HXf:Hid (Es zch wr (.slice g.ts[q].fa g.ts[q].fs.length g.ts[q].fc) g.ts[q].fs):=(HG.out wr hB).tok _ (List.getElem_mem hql);have hxl:=HLt.out _ (List.getElem_mem hql);have HLk:Hid (∀ x:TD,x.nm=g.ts[q].nm->x.fl=g.ts[q].fl->x.ex=g.ts[q].ex->x.fs=g.ts[q].fs->(g.ts[q]).like x):=λx e1 e2 e3 e4=>⟨e1.symm,e2.symm,e3.symm,e4.symm⟩
   have HSt:Hid (∀ (W:World) (v':Value) (x:TD),OwnE tdE W (w.heap.size+1+1+1) 44 v' (xs ++ [x])->KeepT 3 wr W->OwnE zch W (w.heap.size+1+1+1) 3 (.slice x.fa x.fs.length x.fc) x.fs->(g.ts[q]).like x->CT W (w.heap.size+1+1+1) g.ts (q+1) v' (xs ++ [x])):=λW v' x o1 o2 o3 o4=>HCT.out.1.step o1 o2 o3 hql o4
   generalize g.ts[q]=y at *;obtain⟨yn,yf,ye,ya,yc,ys⟩:=y;dsimp only at k0 k1 k2 k3 HXf hxl HLk;unfold maxLen at h7;rw[hfa]at c0;obtain⟨wA,hwA⟩:∃ W,W=wr.alloc (.cells #[.string yn,.int .i64 yf,.int .i64 ye,.slice ya ys.length yc] 44):=⟨_,rfl⟩;have HWA:Hid (wA=_):=hwA;have hbA:Below wr.heap.size wr wA:=by rw[hwA];exact zac _ _ _
   have HbA:Hid (Below wr.heap.size wr wA):=hbA;have hAA:At wA wr.heap.size #[.string yn,.int .i64 yf,.int .i64 ye,.slice ya ys.length yc] 44:=by rw[hwA];exact At.made _ _ _
   have HAA:Hid (At wA wr.heap.size #[.string yn,.int .i64 yf,.int .i64 ye,.slice ya ys.length yc] 44):=hAA;have HN:Hid (OwnE zch wA (w.heap.size+1+1+1) 3 (.slice none 0 0) []):=OwnE.nil zch wA _ _;have HV:Hid (Es zch wA (.slice ya ys.length yc) ys):=HXf.out.later hbA;have HL1:Hid (([]:List Int).length+ys.length<=maxLen):=by show _<=_;simp only[List.length_nil];unfold maxLen;omega
   have HL2:Hid (((([]:List Int).length+ys.length)+(([]:List Int).length+ys.length) / 4+192) * 8<=281474976710656):=by show _<=_;simp only[List.length_nil];omega
   have HSA:Hid (w.heap.size+1+1+1<=wA.heap.size):=Nat.le_trans HCT.out.2 hbA.size;have cA:=hAA.cell;clear hfa hc hwA hbA hAA hB hI0 hI1 hI2;go_wp2_with (first | rw[<- HWA.out] | (at_builtin;go_must (refine zal zch rfl (.tmp 28) (.tmp 30) 40 rfl (w.heap.size+1+1+1) 3 _ 8 Tryz.underlying40 Tryz.info10N rfl rfl rfl HN.out HV.out HL1.out HL2.out HSA.out ?_)))
   intro v5 w5 ho5 hg5;have hb5:Below wA.heap.size wA w5:=zbo hg5;have ho5':OwnE zch w5 (w.heap.size+1+1+1) 3 v5 ys:=by simpa using ho5
   obtain⟨a5,q5,hv5,_,_⟩:=ho5'.shape;subst hv5;obtain⟨hI0,hI1,hI2⟩:=HI0.out;have hbr5:Below wr.heap.size wr w5:=zaa HbA.out hb5;have hA5:=HAA.out.later hb5;obtain⟨w6,hw6⟩:∃ W,W=w5.setCell ⟨wr.heap.size,3,none⟩ (.slice a5 ys.length q5):=⟨_,rfl⟩;have HW6:Hid (w6=_):=hw6;have hA6:At w6 wr.heap.size #[.string yn,.int .i64 yf,.int .i64 ye,.slice a5 ys.length q5] 44:=by
    rw[hw6];have:=hA5.set 3 (.slice a5 ys.length q5);simpa using this
   have hlt:w.heap.size+1+1<wr.heap.size:=by have:=HCT.out.2;omega
   have hJ0:At w6 w.heap.size #[.slice g.ta g.ts.length g.tc,.slice g.fa g.fs.length g.fc,.slice g.ma g.ms.length g.mc,.int .i64 g.en] 26:=by rw[hw6];exact (hI0.later hbr5).other (by omega) _
   have hJ1:At w6 (w.heap.size+1) #[.slice none 0 0,.slice none 0 0,.slice none 0 0,.int .i64 0] 26:=by rw[hw6];exact (hI1.later hbr5).other (by omega) _
   have hJ2:At w6 (w.heap.size+1+1) #[.slice va xs.length vc,.slice none 0 0,.slice none 0 0,.int .i64 g.en] 26:=by rw[hw6];exact (hI2.later hbr5).other (by omega) _
   have k6:KeepT 3 w5 w6:=by rw[hw6];exact KeepT.set hA5 (by decide) _
   have hrow6:OwnE tdE w6 (w.heap.size+1+1+1) 44 (.slice va xs.length vc) xs:=by
    rw[hw6];refine (HCT.out.1.row.later hbr5).of_block λk hk _=>?_
    have:=(HCT.out.1.row.block k hk).2;exact Below.heap_setCell _ _ _ _ (show k≠wr.heap.size by omega)
   have hs6:w6.heap.size=w5.heap.size:=by rw[hw6];simp
   obtain⟨w7,hw7⟩:∃ W,W=w6.alloc (.cells #[.string yn,.int .i64 yf,.int .i64 ye,.slice a5 ys.length q5] 44):=⟨_,rfl⟩;have HW7:Hid (w7=_):=hw7;have hb7:Below w6.heap.size w6 w7:=by rw[hw7];exact zac _ _ _
   have hbs:w.heap.size+1+1+1<=w6.heap.size:=by rw[hs6];exact Nat.le_trans HSA.out hb5.size
   have HLit:Hid (Es tdE w7 (.slice (some ⟨w6.heap.size,0,none⟩) 1 1) [⟨yn,yf,ye,a5,q5,ys⟩]):=by
    show Es _ _ _ _;rw[hw7];exact (OwnE.lit tdE w6 (w.heap.size+1+1+1) 44 [⟨yn,yf,ye,a5,q5,ys⟩] _ 1 hbs rfl rfl (by simp[maxLen])).es
   have HRow7:Hid (OwnE tdE w7 (w.heap.size+1+1+1) 44 (.slice va xs.length vc) xs):=hrow6.later hb7;have hxq:=HCT.out.1.len;have HM1:Hid (xs.length+([⟨yn,yf,ye,a5,q5,ys⟩]:List TD).length<=maxLen):=by show _<=_;simp only[List.length_singleton];unfold maxLen;omega
   have HM2:Hid (((xs.length+([⟨yn,yf,ye,a5,q5,ys⟩]:List TD).length)+(xs.length+([⟨yn,yf,ye,a5,q5,ys⟩]:List TD).length) / 4+192) * 56<=281474976710656):=by show _<=_;simp only[List.length_singleton];omega
   have HS7:Hid (w.heap.size+1+1+1<=w7.heap.size):=Nat.le_trans hbs hb7.size;have HB7:Hid (Below w.heap.size w w7):=by
    have h5:Below w.heap.size w w5:=zaa HBr.out hbr5;have h6:Below w.heap.size w w6:=by rw[hw6];exact h5.setCell (show w.heap.size<=wr.heap.size by omega) _
    exact zaa h6 hb7
   have HKi:Hid (KeepT 3 wr w7):=((KeepT.below hbr5).trans k6).trans (KeepT.below hb7);have HOi:Hid (OwnE zch w7 (w.heap.size+1+1+1) 3 (.slice a5 ys.length q5) ys):=(ho5'.keep k6).keep (KeepT.below hb7);have HJ:Hid (At w7 w.heap.size #[.slice g.ta g.ts.length g.tc,.slice g.fa g.fs.length g.fc,.slice g.ma g.ms.length g.mc,.int .i64 g.en] 26/\At w7 (w.heap.size+1) #[.slice none 0 0,.slice none 0 0,.slice none 0 0,.int .i64 0] 26/\At w7 (w.heap.size+1+1) #[.slice va xs.length vc,.slice none 0 0,.slice none 0 0,.int .i64 g.en] 26):=⟨hJ0.later hb7,hJ1.later hb7,hJ2.later hb7⟩;have m5:=hA5.melt;have t5:=hA5.cell;have d2:=hJ2.cell;have d6:=hA6.cell;clear hxq hI0 hI1 hI2 hbr5 hA5 hw6 hA6 hlt hJ0 hJ1 hJ2 k6 hrow6 hs6 hw7 hb7 hbs hb5 ho5 ho5' hg5 c0 k0 k1 k2 k3 cA;go_wp2_with (first | rw[<- HW6.out] | rw[<- HW7.out] | (at_builtin;go_must (refine zal tdE rfl (.tmp 35) (.tmp 37) 22 rfl (w.heap.size+1+1+1) 44 _ 56 Tryz.underlying22 Tryz.info10T rfl rfl rfl HRow7.out HLit.out HM1.out HM2.out HS7.out ?_)))
   intro v8 w8 ho8 hg8;obtain⟨a8,q8,hv8,_,_⟩:=ho8.shape;subst hv8;obtain⟨zs,hzs⟩:∃ zs,zs=xs ++ [⟨yn,yf,ye,a5,q5,ys⟩]:=⟨_,rfl⟩;rw[<- hzs]at ho8 ⊢;obtain⟨hJ0,hJ1,hJ2⟩:=HJ.out;have hK0:=hJ0.grownE HRow7.out (by decide) hg8
   have hK1:=hJ1.grownE HRow7.out (by decide) hg8
   have hK2:=hJ2.grownE HRow7.out (by decide) hg8
   obtain⟨w9,hw9⟩:∃ W,W=w8.setCell ⟨w.heap.size+1+1,0,none⟩ (.slice a8 zs.length q8):=⟨_,rfl⟩;have HW9:Hid (w9=_):=hw9;have k9:KeepT 3 w7 w9:=by rw[hw9];exact (KeepT.grown HRow7.out (by decide) hg8).trans (KeepT.set hK2 (by decide) _)
   have hB8:Below w.heap.size w w8:=HB7.out.trans (zaE HRow7.out hg8 (by omega) (by have:=HS7.out;omega))
   have HB9:Hid (Below w.heap.size w w9):=by show Below _ _ _;rw[hw9];exact hB8.setCell (show w.heap.size<=w.heap.size+1+1 by omega) _
   have hs9:w8.heap.size=w9.heap.size:=by rw[hw9];simp
   have HC9:Hid (CT w9 (w.heap.size+1+1+1) g.ts (q+1) (.slice a8 zs.length q8) zs/\w.heap.size+1+1+1<=w9.heap.size):=by
    refine⟨?_,by rw[<- hs9];exact Nat.le_trans HS7.out hg8.size⟩
    have hr9:OwnE tdE w9 (w.heap.size+1+1+1) 44 (.slice a8 zs.length q8) zs:=by
     rw[hw9];exact ho8.keep (KeepT.set hK2 (by decide) _)
    subst hzs;exact HSt.out w9 _ _ hr9 (HKi.out.trans k9) (HOi.out.keep k9) (HLk.out _ rfl rfl rfl rfl)
   have HL0:Hid (At w9 w.heap.size #[.slice g.ta g.ts.length g.tc,.slice g.fa g.fs.length g.fc,.slice g.ma g.ms.length g.mc,.int .i64 g.en] 26):=by show At _ _ _ _;rw[hw9];exact hK0.other (by omega) _
   have HL9:Hid (At w9 (w.heap.size+1) #[.slice none 0 0,.slice none 0 0,.slice none 0 0,.int .i64 0] 26):=by show At _ _ _ _;rw[hw9];exact hK1.other (by omega) _
   have HL2':Hid (At w9 (w.heap.size+1+1) #[.slice a8 zs.length q8,.slice none 0 0,.slice none 0 0,.int .i64 g.en] 26):=by
    show At _ _ _ _;rw[hw9];have:=hK2.set 0 (.slice a8 zs.length q8);simpa using this
   have m8:=hK2.melt;have t8:=hK2.cell;clear hJ0 hJ1 hJ2 hK0 hK1 hK2 hw9 k9 hB8 hs9 hzs ho8 hg8 m5 t5 d2 d6;go_wp2_with (rw[<- HW9.out])
   go_roundw
   case rel=>exact⟨q+1,a8,q8,zs,by omega,by go_num,HB9.out,HC9.out,HL0.out,HL9.out,HL2'.out⟩
   case measure=>simp[intOf];omega
  ·-- SECOND HALF
   have HCTx:Hid (CT wr (w.heap.size+1+1+1) g.ts q (.slice va xs.length vc) xs/\(w.heap.size+1+1+1)<=wr.heap.size):=HCT;have HQ:Hid (q=g.ts.length):=by show _=_;omega
   have HNf:Hid (OwnE fdE wr (w.heap.size+1+1+1) 62 (.slice none 0 0) []):=OwnE.nil fdE wr _ _;have HVf:Hid (Es fdE wr (.slice g.fa g.fs.length g.fc) g.fs):=(HG.out wr hB).fs;have HL1:Hid (([]:List FD).length+g.fs.length<=maxLen):=by show _<=_;simp only[List.length_nil];unfold maxLen;omega
   have HL2:Hid ((((([]:List FD).length+g.fs.length)+(([]:List FD).length+g.fs.length) / 4+192)) * 64<=281474976710656):=by show _<=_;simp only[List.length_nil];omega
   have HSr:Hid ((w.heap.size+1+1+1)<=wr.heap.size):=HCT.out.2;have c2:=hI2.cell;have m2:=hI2.melt;clear hB hI0 hI1 hI2;go_wp2_with (at_builtin;go_must (refine zal fdE rfl (.tmp 41) (.tmp 43) 23 rfl (w.heap.size+1+1+1) 62 _ 64 Tryz.underlying23 Tryz.info10F rfl rfl rfl HNf.out HVf.out HL1.out HL2.out HSr.out ?_))
   intro v5 w5 ho5 hg5;have hb5:Below wr.heap.size wr w5:=zbo hg5;have ho5':OwnE fdE w5 (w.heap.size+1+1+1) 62 v5 g.fs:=by simpa using ho5
   obtain⟨fa,fc,hv5,_,_⟩:=ho5'.shape;subst hv5;obtain⟨hI0,hI1,hI2⟩:=HI0.out;obtain⟨w6,hw6⟩:∃ W,W=w5.setCell ⟨w.heap.size+1+1,1,none⟩ (.slice fa g.fs.length fc):=⟨_,rfl⟩;have HW6:Hid (w6=_):=hw6;have h2a:=hI2.later hb5;have HB6:Hid (Below w.heap.size w w6):=by show Below _ _ _;rw[hw6];exact (zaa HBr.out hb5).setCell (show w.heap.size<=w.heap.size+1+1 by omega) _
   have hs6:w6.heap.size=w5.heap.size:=by rw[hw6];simp
   have HC6:Hid (CT w6 (w.heap.size+1+1+1) g.ts q (.slice va xs.length vc) xs):=by
    show CT _ _ _ _ _ _;rw[hw6];exact (HCT.out.1.keep (KeepT.below hb5) (KeepT.below hb5)).keep (KeepT.set h2a (by decide) _) (KeepT.set h2a (by decide) _)
   have HF6:Hid (OwnE fdE w6 (w.heap.size+1+1+1) 62 (.slice fa g.fs.length fc) g.fs):=by show OwnE _ _ _ _ _ _;rw[hw6];exact ho5'.keep (KeepT.set h2a (by decide) _)
   have HS6:Hid ((w.heap.size+1+1+1)<=w6.heap.size):=by show _<=_;rw[hs6];exact Nat.le_trans HSr.out hb5.size
   have HX0:Hid (At w6 w.heap.size #[.slice g.ta g.ts.length g.tc,.slice g.fa g.fs.length g.fc,.slice g.ma g.ms.length g.mc,.int .i64 g.en] 26):=by show At _ _ _ _;rw[hw6];exact (hI0.later hb5).other (by omega) _
   have HX1:Hid (At w6 (w.heap.size+1) #[.slice none 0 0,.slice none 0 0,.slice none 0 0,.int .i64 0] 26):=by show At _ _ _ _;rw[hw6];exact (hI1.later hb5).other (by omega) _
   have HX2:Hid (At w6 (w.heap.size+1+1) #[.slice va xs.length vc,.slice fa g.fs.length fc,.slice none 0 0,.int .i64 g.en] 26):=by
    show At _ _ _ _;rw[hw6];have:=h2a.set 1 (.slice fa g.fs.length fc);simpa using this
   have HM0:Hid (CM w6 (w.heap.size+1+1+1) g.ms 0 (.slice none 0 0) []):=CM.nil _ _ _;have c2:=h2a.cell;have m2:=h2a.melt;clear hI0 hI1 hI2 hw6 h2a hs6 hb5 ho5 ho5' hg5;go_wp2_with (rw[<- HW6.out])
   clear c2 m2;go_loopw [7] (λz wr2=>∃ (q2:Nat) (ma:Option Addr) (mc:Nat) (ms:List MD),q2<=g.ms.length/\z=.int .i64 q2/\Below w.heap.size w wr2/\Hid (CT wr2 (w.heap.size+1+1+1) g.ts q (.slice va xs.length vc) xs/\OwnE fdE wr2 (w.heap.size+1+1+1) 62 (.slice fa g.fs.length fc) g.fs/\CM wr2 (w.heap.size+1+1+1) g.ms q2 (.slice ma ms.length mc) ms/\(w.heap.size+1+1+1)<=wr2.heap.size)/\At wr2 w.heap.size #[.slice g.ta g.ts.length g.tc,.slice g.fa g.fs.length g.fc,.slice g.ma g.ms.length g.mc,.int .i64 g.en] 26/\At wr2 (w.heap.size+1) #[.slice none 0 0,.slice none 0 0,.slice none 0 0,.int .i64 0] 26/\At wr2 (w.heap.size+1+1) #[.slice va xs.length vc,.slice fa g.fs.length fc,.slice ma ms.length mc,.int .i64 g.en] 26) (λz _=>g.ms.length - (intOf z).toNat)
   case atStart=>exact⟨0,none,0,[],Nat.zero_le _,rfl,HB6.out,⟨HC6.out,HF6.out,HM0.out,HS6.out⟩,HX0.out,HX1.out,HX2.out⟩
   case round =>
    clear HX0 HX1 HX2 HM0 HC6 HF6 HS6 HB6 HW6 HI0 HCT HCTx HBr HSr HL1 HL2 HNf HVf;obtain⟨q2,ma,mc,ms,hq2,rfl,hB,HCM,hI0,hI1,hI2⟩:=hrel;have HBr:Hid (Below w.heap.size w wr):=hB;have HI0:Hid (At wr w.heap.size #[.slice g.ta g.ts.length g.tc,.slice g.fa g.fs.length g.fc,.slice g.ma g.ms.length g.mc,.int .i64 g.en] 26/\At wr (w.heap.size+1) #[.slice none 0 0,.slice none 0 0,.slice none 0 0,.int .i64 0] 26/\At wr (w.heap.size+1+1) #[.slice va xs.length vc,.slice fa g.fs.length fc,.slice ma ms.length mc,.int .i64 g.en] 26):=⟨hI0,hI1,hI2⟩;have c0:=hI0.cell;by_cases hql2:q2<g.ms.length
    ·obtain⟨b,off,hfa,hb,h6,h7,hc⟩:=((HG.out wr hB).ms).at hql2;have hcm:=(show El mdE wr b (off+q2 * 12) g.ms[q2] from hc q2 hql2).cells_M
     have HXo:Hid ((g.ms[q2]).ok wr):=(HG.out wr hB).mok _ (List.getElem_mem hql2);have hxl:=HLm.out _ (List.getElem_mem hql2);have HLk:Hid (∀ x:MD,x.nm=g.ms[q2].nm->x.ow=g.ms[q2].ow->x.fl=g.ms[q2].fl->x.ps=g.ms[q2].ps->x.rt=g.ms[q2].rt->x.ls=g.ms[q2].ls->x.mx=g.ms[q2].mx->x.co=g.ms[q2].co->x.cl=g.ms[q2].cl->(g.ms[q2]).like x):=λx e1 e2 e3 e4 e5 e6 e7 e8 e9=>⟨e1.symm,e2.symm,e3.symm,e4.symm,e5.symm,e6.symm,e7.symm,e8.symm,e9.symm⟩
     have HSt:Hid (∀ (W:World) (v':Value) (x:MD),OwnE mdE W (w.heap.size+1+1+1) 51 v' (ms ++ [x])->KeepT 47 wr W->KeepT 65 wr W->KeepT 85 wr W->MOwn W (w.heap.size+1+1+1) x->(g.ms[q2]).like x->CM W (w.heap.size+1+1+1) g.ms (q2+1) v' (ms ++ [x])):=λW v' x o1 o2 o3 o4 o5 o6=>HCM.out.2.2.1.step o1 o2 o3 o4 o5 hql2 o6
     have hlen:=HCM.out.2.2.1.len;generalize g.ms[q2]=y at *;obtain⟨yn,yo,yf,pa0,pc0,yps,yr,la0,lc0,yls,yx,ca0,cc0,yco,ka0,kc0,ycl⟩:=y;obtain⟨k0,k1,k2,k3,k4,k5,k6,k7,k8,k9,k10,k11⟩:=hcm;obtain⟨n1,n2,n3,n4⟩:=hxl;obtain⟨x1,x2,x3,x4⟩:=HXo.out;dsimp only at k0 k1 k2 k3 k4 k5 k6 k7 k8 k9 k10 k11 HLk n1 n2 n3 n4 x1 x2 x3 x4;have HO1:Hid (Es tyE wr (.slice pa0 yps.length pc0) yps):=x1;have HO2:Hid (Es tyE wr (.slice la0 yls.length lc0) yls):=x2;have HO3:Hid (Es zcv wr (.slice ca0 yco.length cc0) yco):=x3;have HO4:Hid (Es zci wr (.slice ka0 ycl.length kc0) ycl):=x4;unfold maxLen at h7;rw[hfa]at c0;obtain⟨W0,hW0⟩:∃ W,W=wr.alloc (.cells #[.string yn,.int .i64 yo,.int .i64 yf,.slice pa0 yps.length pc0,.int .i64 yr.1,.int .i64 yr.2.1,.int .i64 yr.2.2.1,.bool yr.2.2.2,.slice la0 yls.length lc0,.int .i64 yx,.slice ca0 yco.length cc0,.slice ka0 ycl.length kc0] 51):=⟨_,rfl⟩;have HN0:Hid (W0=_):=hW0;have HB0x:Hid (Below wr.heap.size wr W0):=by show Below _ _ _;rw[hW0];exact zac _ _ _
     have HT0:Hid (At W0 wr.heap.size #[.string yn,.int .i64 yo,.int .i64 yf,.slice pa0 yps.length pc0,.int .i64 yr.1,.int .i64 yr.2.1,.int .i64 yr.2.2.1,.bool yr.2.2.2,.slice la0 yls.length lc0,.int .i64 yx,.slice ca0 yco.length cc0,.slice ka0 ycl.length kc0] 51):=by show At _ _ _ _;rw[hW0];exact At.made _ _ _
     have HSr:Hid ((w.heap.size+1+1+1)<=wr.heap.size):=HCM.out.2.2.2;have t0:=HT0.out.cell;clear hfa hc hW0 hB hI0 hI1 hI2 x1 x2 x3 x4 HXo hlen;have HE1:Hid (OwnE tyE W0 (w.heap.size+1+1+1) 47 (.slice none 0 0) []):=OwnE.nil tyE W0 _ _;have HV1:Hid (Es tyE W0 (.slice pa0 yps.length pc0) yps):=HO1.out.later HB0x.out;have HL1a:Hid (([]:List Ty).length+yps.length<=maxLen):=by show _<=_;simp only[List.length_nil];unfold maxLen;omega
     have HL1b:Hid ((((([]:List Ty).length+yps.length)+(([]:List Ty).length+yps.length) / 4+192)) * 32<=281474976710656):=by show _<=_;simp only[List.length_nil];omega
     have HSz1:Hid ((w.heap.size+1+1+1)<=W0.heap.size):=Nat.le_trans HSr.out HB0x.out.size;go_wp2_with (first | rw[<- HN0.out] | (at_builtin;go_must (refine zal tyE rfl (.tmp 58) (.tmp 60) 45 rfl (w.heap.size+1+1+1) 47 _ 32 Tryz.underlying45 Tryz.info10Y rfl rfl rfl HE1.out HV1.out HL1a.out HL1b.out HSz1.out ?_)))
     intro v1 u1 ho1 hg1;have hb1:Below W0.heap.size W0 u1:=zbo hg1;have hp1:OwnE tyE u1 (w.heap.size+1+1+1) 47 v1 yps:=by simpa using ho1
     obtain⟨pa1,pc1,hv1,_,_⟩:=hp1.shape;subst hv1;have hT1:=HT0.out.later hb1;obtain⟨W1,hW1⟩:∃ W,W=u1.setCell ⟨wr.heap.size,3,none⟩ (.slice pa1 yps.length pc1):=⟨_,rfl⟩;have HN1:Hid (W1=_):=hW1;have HB1x:Hid (Below wr.heap.size wr W1):=by show Below _ _ _;rw[hW1];exact (zaa HB0x.out hb1).setCell (Nat.le_refl _) _
     have HT1:Hid (At W1 wr.heap.size #[.string yn,.int .i64 yo,.int .i64 yf,.slice pa1 yps.length pc1,.int .i64 yr.1,.int .i64 yr.2.1,.int .i64 yr.2.2.1,.bool yr.2.2.2,.slice la0 yls.length lc0,.int .i64 yx,.slice ca0 yco.length cc0,.slice ka0 ycl.length kc0] 51):=by
      show At _ _ _ _;rw[hW1];have:=hT1.set 3 (.slice pa1 yps.length pc1);simpa using this
     have HP1_1:Hid (OwnE tyE W1 (w.heap.size+1+1+1) 47 (.slice pa1 yps.length pc1) yps):=by show OwnE _ _ _ _ _ _;rw[hW1];exact hp1.keep (KeepT.set hT1 (by decide) _)
     have s1:=hT1.cell;have r1:=hT1.melt;clear hb1 ho1 hg1 hp1 hT1 hW1 c0 k0 k1 k2 k3 k4 k5 k6 k7 k8 k9 k10 k11 t0;have t1:=HT1.out.cell;have HE2:Hid (OwnE tyE W1 (w.heap.size+1+1+1) 47 (.slice none 0 0) []):=OwnE.nil tyE W1 _ _;have HV2:Hid (Es tyE W1 (.slice la0 yls.length lc0) yls):=HO2.out.later HB1x.out;have HL2a:Hid (([]:List Ty).length+yls.length<=maxLen):=by show _<=_;simp only[List.length_nil];unfold maxLen;omega
     have HL2b:Hid ((((([]:List Ty).length+yls.length)+(([]:List Ty).length+yls.length) / 4+192)) * 32<=281474976710656):=by show _<=_;simp only[List.length_nil];omega
     have HSz2:Hid ((w.heap.size+1+1+1)<=W1.heap.size):=Nat.le_trans HSr.out HB1x.out.size;go_wp2_with (first | rw[<- HN1.out] | (at_builtin;go_must (refine zal tyE rfl (.tmp 64) (.tmp 66) 45 rfl (w.heap.size+1+1+1) 47 _ 32 Tryz.underlying45 Tryz.info10Y rfl rfl rfl HE2.out HV2.out HL2a.out HL2b.out HSz2.out ?_)))
     intro v2 u2 ho2 hg2;have hb2:Below W1.heap.size W1 u2:=zbo hg2;have hp2:OwnE tyE u2 (w.heap.size+1+1+1) 47 v2 yls:=by simpa using ho2
     obtain⟨la2,lc2,hv2,_,_⟩:=hp2.shape;subst hv2;have hT2:=HT1.out.later hb2;obtain⟨W2,hW2⟩:∃ W,W=u2.setCell ⟨wr.heap.size,8,none⟩ (.slice la2 yls.length lc2):=⟨_,rfl⟩;have HN2:Hid (W2=_):=hW2;have HB2x:Hid (Below wr.heap.size wr W2):=by show Below _ _ _;rw[hW2];exact (zaa HB1x.out hb2).setCell (Nat.le_refl _) _
     have HT2:Hid (At W2 wr.heap.size #[.string yn,.int .i64 yo,.int .i64 yf,.slice pa1 yps.length pc1,.int .i64 yr.1,.int .i64 yr.2.1,.int .i64 yr.2.2.1,.bool yr.2.2.2,.slice la2 yls.length lc2,.int .i64 yx,.slice ca0 yco.length cc0,.slice ka0 ycl.length kc0] 51):=by
      show At _ _ _ _;rw[hW2];have:=hT2.set 8 (.slice la2 yls.length lc2);simpa using this
     have HP2_2:Hid (OwnE tyE W2 (w.heap.size+1+1+1) 47 (.slice la2 yls.length lc2) yls):=by show OwnE _ _ _ _ _ _;rw[hW2];exact hp2.keep (KeepT.set hT2 (by decide) _)
     have HP1_2:Hid (OwnE tyE W2 (w.heap.size+1+1+1) 47 (.slice pa1 yps.length pc1) yps):=by show OwnE _ _ _ _ _ _;rw[hW2];exact (HP1_1.out.keep (KeepT.below hb2)).keep (KeepT.set hT2 (by decide) _)
     have s2:=hT2.cell;have r2:=hT2.melt;clear hb2 ho2 hg2 hp2 hT2 hW2 s1 r1 t1;have t2:=HT2.out.cell;have HE3:Hid (OwnE zcv W2 (w.heap.size+1+1+1) 65 (.slice none 0 0) []):=OwnE.nil zcv W2 _ _;have HV3:Hid (Es zcv W2 (.slice ca0 yco.length cc0) yco):=HO3.out.later HB2x.out;have HL3a:Hid (([]:List Ins).length+yco.length<=maxLen):=by show _<=_;simp only[List.length_nil];unfold maxLen;omega
     have HL3b:Hid ((((([]:List Ins).length+yco.length)+(([]:List Ins).length+yco.length) / 4+192)) * 48<=281474976710656):=by show _<=_;simp only[List.length_nil];omega
     have HSz3:Hid ((w.heap.size+1+1+1)<=W2.heap.size):=Nat.le_trans HSr.out HB2x.out.size;go_wp2_with (first | rw[<- HN2.out] | (at_builtin;go_must (refine zal zcv rfl (.tmp 70) (.tmp 72) 48 rfl (w.heap.size+1+1+1) 65 _ 48 Tryz.underlying48 Tryz.info10I rfl rfl rfl HE3.out HV3.out HL3a.out HL3b.out HSz3.out ?_)))
     intro v3 u3 ho3 hg3;have hb3:Below W2.heap.size W2 u3:=zbo hg3;have hp3:OwnE zcv u3 (w.heap.size+1+1+1) 65 v3 yco:=by simpa using ho3
     obtain⟨ca3,cc3,hv3,_,_⟩:=hp3.shape;subst hv3;have hT3:=HT2.out.later hb3;obtain⟨W3,hW3⟩:∃ W,W=u3.setCell ⟨wr.heap.size,10,none⟩ (.slice ca3 yco.length cc3):=⟨_,rfl⟩;have HN3:Hid (W3=_):=hW3;have HB3x:Hid (Below wr.heap.size wr W3):=by show Below _ _ _;rw[hW3];exact (zaa HB2x.out hb3).setCell (Nat.le_refl _) _
     have HT3:Hid (At W3 wr.heap.size #[.string yn,.int .i64 yo,.int .i64 yf,.slice pa1 yps.length pc1,.int .i64 yr.1,.int .i64 yr.2.1,.int .i64 yr.2.2.1,.bool yr.2.2.2,.slice la2 yls.length lc2,.int .i64 yx,.slice ca3 yco.length cc3,.slice ka0 ycl.length kc0] 51):=by
      show At _ _ _ _;rw[hW3];have:=hT3.set 10 (.slice ca3 yco.length cc3);simpa using this
     have HP3_3:Hid (OwnE zcv W3 (w.heap.size+1+1+1) 65 (.slice ca3 yco.length cc3) yco):=by show OwnE _ _ _ _ _ _;rw[hW3];exact hp3.keep (KeepT.set hT3 (by decide) _)
     have HP1_3:Hid (OwnE tyE W3 (w.heap.size+1+1+1) 47 (.slice pa1 yps.length pc1) yps):=by show OwnE _ _ _ _ _ _;rw[hW3];exact (HP1_2.out.keep (KeepT.below hb3)).keep (KeepT.set hT3 (by decide) _)
     have HP2_3:Hid (OwnE tyE W3 (w.heap.size+1+1+1) 47 (.slice la2 yls.length lc2) yls):=by show OwnE _ _ _ _ _ _;rw[hW3];exact (HP2_2.out.keep (KeepT.below hb3)).keep (KeepT.set hT3 (by decide) _)
     have s3:=hT3.cell;have r3:=hT3.melt;clear hb3 ho3 hg3 hp3 hT3 hW3 s2 r2 t2;have t3:=HT3.out.cell;have HE4:Hid (OwnE zci W3 (w.heap.size+1+1+1) 85 (.slice none 0 0) []):=OwnE.nil zci W3 _ _;have HV4:Hid (Es zci W3 (.slice ka0 ycl.length kc0) ycl):=HO4.out.later HB3x.out;have HL4a:Hid (([]:List Cl).length+ycl.length<=maxLen):=by show _<=_;simp only[List.length_nil];unfold maxLen;omega
     have HL4b:Hid ((((([]:List Cl).length+ycl.length)+(([]:List Cl).length+ycl.length) / 4+192)) * 80<=281474976710656):=by show _<=_;simp only[List.length_nil];omega
     have HSz4:Hid ((w.heap.size+1+1+1)<=W3.heap.size):=Nat.le_trans HSr.out HB3x.out.size;go_wp2_with (first | rw[<- HN3.out] | (at_builtin;go_must (refine zal zci rfl (.tmp 76) (.tmp 78) 49 rfl (w.heap.size+1+1+1) 85 _ 80 Tryz.underlying49 Tryz.info10C rfl rfl rfl HE4.out HV4.out HL4a.out HL4b.out HSz4.out ?_)))
     intro v4 u4 ho4 hg4;have hb4:Below W3.heap.size W3 u4:=zbo hg4;have hp4:OwnE zci u4 (w.heap.size+1+1+1) 85 v4 ycl:=by simpa using ho4
     obtain⟨ka4,kc4,hv4,_,_⟩:=hp4.shape;subst hv4;have hT4:=HT3.out.later hb4;obtain⟨W4,hW4⟩:∃ W,W=u4.setCell ⟨wr.heap.size,11,none⟩ (.slice ka4 ycl.length kc4):=⟨_,rfl⟩;have HN4:Hid (W4=_):=hW4;have HB4x:Hid (Below wr.heap.size wr W4):=by show Below _ _ _;rw[hW4];exact (zaa HB3x.out hb4).setCell (Nat.le_refl _) _
     have HT4:Hid (At W4 wr.heap.size #[.string yn,.int .i64 yo,.int .i64 yf,.slice pa1 yps.length pc1,.int .i64 yr.1,.int .i64 yr.2.1,.int .i64 yr.2.2.1,.bool yr.2.2.2,.slice la2 yls.length lc2,.int .i64 yx,.slice ca3 yco.length cc3,.slice ka4 ycl.length kc4] 51):=by
      show At _ _ _ _;rw[hW4];have:=hT4.set 11 (.slice ka4 ycl.length kc4);simpa using this
     have HP4_4:Hid (OwnE zci W4 (w.heap.size+1+1+1) 85 (.slice ka4 ycl.length kc4) ycl):=by show OwnE _ _ _ _ _ _;rw[hW4];exact hp4.keep (KeepT.set hT4 (by decide) _)
     have HP1_4:Hid (OwnE tyE W4 (w.heap.size+1+1+1) 47 (.slice pa1 yps.length pc1) yps):=by show OwnE _ _ _ _ _ _;rw[hW4];exact (HP1_3.out.keep (KeepT.below hb4)).keep (KeepT.set hT4 (by decide) _)
     have HP2_4:Hid (OwnE tyE W4 (w.heap.size+1+1+1) 47 (.slice la2 yls.length lc2) yls):=by show OwnE _ _ _ _ _ _;rw[hW4];exact (HP2_3.out.keep (KeepT.below hb4)).keep (KeepT.set hT4 (by decide) _)
     have HP3_4:Hid (OwnE zcv W4 (w.heap.size+1+1+1) 65 (.slice ca3 yco.length cc3) yco):=by show OwnE _ _ _ _ _ _;rw[hW4];exact (HP3_3.out.keep (KeepT.below hb4)).keep (KeepT.set hT4 (by decide) _)
     have s4:=hT4.cell;have r4:=hT4.melt;clear hb4 ho4 hg4 hp4 hT4 hW4 s3 r3 t3;have t4:=HT4.out.cell;obtain⟨hI0,hI1,hI2⟩:=HI0.out;have d2:=(hI2.later HB4x.out).cell;obtain⟨w7,hw7⟩:∃ W,W=W4.alloc (.cells #[.string yn,.int .i64 yo,.int .i64 yf,.slice pa1 yps.length pc1,.int .i64 yr.1,.int .i64 yr.2.1,.int .i64 yr.2.2.1,.bool yr.2.2.2,.slice la2 yls.length lc2,.int .i64 yx,.slice ca3 yco.length cc3,.slice ka4 ycl.length kc4] 51):=⟨_,rfl⟩;have HW7:Hid (w7=_):=hw7;have hb7:Below W4.heap.size W4 w7:=by rw[hw7];exact zac _ _ _
     have hr7:Below wr.heap.size wr w7:=zaa HB4x.out hb7;have hbs:(w.heap.size+1+1+1)<=W4.heap.size:=Nat.le_trans HSr.out HB4x.out.size;have HLit:Hid (Es mdE w7 (.slice (some ⟨W4.heap.size,0,none⟩) 1 1) [⟨yn,yo,yf,pa1,pc1,yps,yr,la2,lc2,yls,yx,ca3,cc3,yco,ka4,kc4,ycl⟩]):=by
      show Es _ _ _ _;rw[hw7];exact (OwnE.lit mdE W4 (w.heap.size+1+1+1) 51 [⟨yn,yo,yf,pa1,pc1,yps,yr,la2,lc2,yls,yx,ca3,cc3,yco,ka4,kc4,ycl⟩] _ 1 hbs rfl rfl (by simp[maxLen])).es
     have HRow7:Hid (OwnE mdE w7 (w.heap.size+1+1+1) 51 (.slice ma ms.length mc) ms):=HCM.out.2.2.1.row.later hr7;have hlen:=HCM.out.2.2.1.len;have HM1:Hid (ms.length+([⟨yn,yo,yf,pa1,pc1,yps,yr,la2,lc2,yls,yx,ca3,cc3,yco,ka4,kc4,ycl⟩]:List MD).length<=maxLen):=by show _<=_;simp only[List.length_singleton];unfold maxLen;omega
     have HM2:Hid (((ms.length+([⟨yn,yo,yf,pa1,pc1,yps,yr,la2,lc2,yls,yx,ca3,cc3,yco,ka4,kc4,ycl⟩]:List MD).length)+(ms.length+([⟨yn,yo,yf,pa1,pc1,yps,yr,la2,lc2,yls,yx,ca3,cc3,yco,ka4,kc4,ycl⟩]:List MD).length) / 4+192) * 168<=281474976710656):=by show _<=_;simp only[List.length_singleton];omega
     have HS7:Hid ((w.heap.size+1+1+1)<=w7.heap.size):=Nat.le_trans hbs hb7.size;have HB7:Hid (Below w.heap.size w w7):=zaa HBr.out hr7;have HR7:Hid (Below wr.heap.size wr w7):=hr7;have HMo:Hid (MOwn w7 (w.heap.size+1+1+1) ⟨yn,yo,yf,pa1,pc1,yps,yr,la2,lc2,yls,yx,ca3,cc3,yco,ka4,kc4,ycl⟩):=⟨HP1_4.out.keep (KeepT.below hb7),HP2_4.out.keep (KeepT.below hb7),HP3_4.out.keep (KeepT.below hb7),HP4_4.out.keep (KeepT.below hb7)⟩;clear hI0 hI1 hI2 hw7 hb7 hr7 hbs hlen;go_wp2_with (first | rw[<- HN4.out] | rw[<- HW7.out] | (at_builtin;go_must (refine zal mdE rfl (.tmp 83) (.tmp 85) 24 rfl (w.heap.size+1+1+1) 51 _ 168 Tryz.underlying24 Tryz.info10M rfl rfl rfl HRow7.out HLit.out HM1.out HM2.out HS7.out ?_)))
     intro v8 w8 ho8 hg8;obtain⟨a8,q8,hv8,_,_⟩:=ho8.shape;subst hv8;obtain⟨zs,hzs⟩:∃ zs,zs=ms ++ [⟨yn,yo,yf,pa1,pc1,yps,yr,la2,lc2,yls,yx,ca3,cc3,yco,ka4,kc4,ycl⟩]:=⟨_,rfl⟩;rw[<- hzs]at ho8 ⊢;obtain⟨hI0,hI1,hI2⟩:=HI0.out;have hK0:=(hI0.later HR7.out).grownE HRow7.out (by decide) hg8
     have hK1:=(hI1.later HR7.out).grownE HRow7.out (by decide) hg8
     have hK2:=(hI2.later HR7.out).grownE HRow7.out (by decide) hg8
     obtain⟨w9,hw9⟩:∃ W,W=w8.setCell ⟨w.heap.size+1+1,2,none⟩ (.slice a8 zs.length q8):=⟨_,rfl⟩;have HW9:Hid (w9=_):=hw9;have kk:∀ t:TypeId,t≠51->26≠t->KeepT t w7 w9:=λt e1 e2=>by rw[hw9];exact (KeepT.grown HRow7.out e1 hg8).trans (KeepT.set hK2 e2 _)
     have kr:∀ t:TypeId,KeepT t wr w7:=λt=>KeepT.below HR7.out
     have hB8:Below w.heap.size w w8:=HB7.out.trans (zaE HRow7.out hg8 (by omega) (by have:=HS7.out;omega))
     have HB9:Hid (Below w.heap.size w w9):=by show Below _ _ _;rw[hw9];exact hB8.setCell (show w.heap.size<=w.heap.size+1+1 by omega) _
     have hs9:w8.heap.size=w9.heap.size:=by rw[hw9];simp
     have HC9:Hid (CT w9 (w.heap.size+1+1+1) g.ts q (.slice va xs.length vc) xs/\OwnE fdE w9 (w.heap.size+1+1+1) 62 (.slice fa g.fs.length fc) g.fs/\CM w9 (w.heap.size+1+1+1) g.ms (q2+1) (.slice a8 zs.length q8) zs/\(w.heap.size+1+1+1)<=w9.heap.size):=by
      obtain⟨o1,o2,o3,o4⟩:=HCM.out;refine⟨(o1.keep (kr _) (kr _)).keep (kk _ (by decide) (by decide)) (kk _ (by decide) (by decide)),(o2.keep (kr _)).keep (kk _ (by decide) (by decide)), ?_,by rw[<- hs9];exact Nat.le_trans HS7.out hg8.size⟩
      have hr9:OwnE mdE w9 (w.heap.size+1+1+1) 51 (.slice a8 zs.length q8) zs:=by
       rw[hw9];exact ho8.keep (KeepT.set hK2 (by decide) _)
      subst hzs;exact HSt.out w9 _ _ hr9 ((kr _).trans (kk _ (by decide) (by decide))) ((kr _).trans (kk _ (by decide) (by decide))) ((kr _).trans (kk _ (by decide) (by decide))) (HMo.out.keep (kk _ (by decide) (by decide)) (kk _ (by decide) (by decide)) (kk _ (by decide) (by decide))) (HLk.out _ rfl rfl rfl rfl rfl rfl rfl rfl rfl)
     have HL0:Hid (At w9 w.heap.size #[.slice g.ta g.ts.length g.tc,.slice g.fa g.fs.length g.fc,.slice g.ma g.ms.length g.mc,.int .i64 g.en] 26):=by show At _ _ _ _;rw[hw9];exact hK0.other (by omega) _
     have HL9:Hid (At w9 (w.heap.size+1) #[.slice none 0 0,.slice none 0 0,.slice none 0 0,.int .i64 0] 26):=by show At _ _ _ _;rw[hw9];exact hK1.other (by omega) _
     have HLx:Hid (At w9 (w.heap.size+1+1) #[.slice va xs.length vc,.slice fa g.fs.length fc,.slice a8 zs.length q8,.int .i64 g.en] 26):=by
      show At _ _ _ _;rw[hw9];have:=hK2.set 2 (.slice a8 zs.length q8);simpa using this
     have m8:=hK2.melt;have t8:=hK2.cell;clear hI0 hI1 hI2 hK0 hK1 hK2 hw9 kk kr hB8 hs9 hzs ho8 hg8 s4 r4 t4 d2;go_wp2_with (rw[<- HW9.out])
     go_roundw
     case rel=>exact⟨q2+1,a8,q8,zs,by omega,by go_num,HB9.out,HC9.out,HL0.out,HL9.out,HLx.out⟩
     case measure=>simp[intOf];omega
    ·have hqm:q2=g.ms.length:=by omega
     obtain⟨o1,o2,o3,o4⟩:=HCM.out;have c1:=hI1.cell;have m1:=hI1.melt;have c2:=hI2.cell;have HBf:Hid (Below w.heap.size w ((((wr.setCell ⟨w.heap.size+1,0,none⟩ (.slice va xs.length vc)).setCell ⟨w.heap.size+1,1,none⟩ (.slice fa g.fs.length fc)).setCell ⟨w.heap.size+1,2,none⟩ (.slice ma ms.length mc)).setCell ⟨w.heap.size+1,3,none⟩ (.int .i64 g.en))):=zdN hB (Nat.le_succ _) _ _ _ _;have HFc:=(hI1.set4 (.slice va xs.length vc) (.slice fa g.fs.length fc) (.slice ma ms.length mc) (.int .i64 g.en)).cell;have ks:∀ t:TypeId,26≠t->KeepT t wr ((((wr.setCell ⟨w.heap.size+1,0,none⟩ (.slice va xs.length vc)).setCell ⟨w.heap.size+1,1,none⟩ (.slice fa g.fs.length fc)).setCell ⟨w.heap.size+1,2,none⟩ (.slice ma ms.length mc)).setCell ⟨w.heap.size+1,3,none⟩ (.int .i64 g.en)):=λt e=>(((KeepT.set hI1 e _).trans (KeepT.set (hI1.set 0 _) e _)).trans (KeepT.set ((hI1.set 0 _).set 1 _) e _)).trans (KeepT.set (((hI1.set 0 _).set 1 _).set 2 _) e _)
     have HIm:Hid (Im ((((wr.setCell ⟨w.heap.size+1,0,none⟩ (.slice va xs.length vc)).setCell ⟨w.heap.size+1,1,none⟩ (.slice fa g.fs.length fc)).setCell ⟨w.heap.size+1,2,none⟩ (.slice ma ms.length mc)).setCell ⟨w.heap.size+1,3,none⟩ (.int .i64 g.en)) ⟨va,vc,xs,fa,fc,g.fs,ma,mc,ms,g.en⟩):=by
      have p1:=o1.keep (ks _ (by decide)) (ks _ (by decide))
      have p2:=o2.keep (ks _ (by decide))
      have p3:=o3.keep (ks _ (by decide)) (ks _ (by decide)) (ks _ (by decide)) (ks _ (by decide))
      exact⟨p1.row.es,λx hx=>(p1.own x hx).es,p2.es,p3.row.es,λx hx=>⟨(p3.own x hx).1.es,(p3.own x hx).2.1.es,(p3.own x hx).2.2.1.es,(p3.own x hx).2.2.2.es⟩⟩
     have HLi:Hid (g.like ⟨va,vc,xs,fa,fc,g.fs,ma,mc,ms,g.en⟩):=by
      have hq:=HQ.out;exact⟨by rw[o1.len,hq],λi h1 h2=>o1.like i h2 h1,rfl,by rw[o3.len,hqm],λi h1 h2=>o3.like i h2 h1,rfl⟩
     clear o1 o2 o3 o4 hB hI0 hI1 hI2 ks hqm;go_wp2_with fail
     exact bodyPost_ret (v:=imV ⟨va,vc,xs,fa,fc,g.fs,ma,mc,ms,g.en⟩) (by simp[results,Tryz.results6,go_sem,HFc,imV]) rfl ⟨_,rfl,HIm.out,HLi.out,HBf.out⟩
end Go.Proofs.YtkedhjdipnhgdaaGreat
