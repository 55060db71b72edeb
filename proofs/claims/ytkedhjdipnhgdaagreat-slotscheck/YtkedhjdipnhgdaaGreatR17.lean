import Derived.Test.YtkedhjdipnhgdaaGreatR16
namespace Go.Proofs.YtkedhjdipnhgdaaGreat
set_option maxHeartbeats 16000000
set_option linter.all false
open RowKit
attribute [local go_sem ↓] wp_at_zero wp_at_succ
theorem zlJ {l:List Int} {k:Nat} (hk:k+1<l.length) (h:l[k+1]<l[k]):zdH l=false:=by
 cases hr:zdH l with
 | false=>rfl
 | true=>have:=(zeO l).1 hr k hk;omega
theorem zmg {l:List Int} {k:Nat} (hk:k+1<l.length) (h:¬ l[k+1]<l[k]) (hz:∀ j (hj:j+1<l.length),k+1<=j->l[j]<=l[j+1]):∀ j (hj:j+1<l.length),k<=j->l[j]<=l[j+1]:=λj hj hk'=>by
 rcases Nat.lt_or_ge k j with g | g
 ·exact hz j hj g
 ·obtain rfl:j=k:=by omega
  omega
theorem zi9 {b off cap:Nat} {l:List FD} {w:World} (hb:b<w.heap.size) (hc:∀ i (hi:i<l.length),El fdE w b (off+i * 7) l[i]) (hl:l.length<=maxLen) :
 Calls Tryz.prog 106 #[.slice (some ⟨b,off,none⟩) l.length cap,.func (.func 107) #[] #[]] w λe w'=>e=.returned (.bool (zdH (l.map (·.ow))))/\Below w.heap.size w w':=by
 unfold maxLen at hl;have HC:Hid (∀ i (hi:i<l.length),El fdE w b (off+i * 7) l[i]):=hc;clear hc;go_enter Tryz.func106,Tryz.ntmps106;go_wp2_with fail
 go_loopw [5] (λz wr=>∃ q:Nat,q<=l.length/\z=.int .i64 ((q:Int) - 1)/\Below w.heap.size w wr/\Hid (∀ j (hj:j+1<(l.map (·.ow)).length),q<=j+1->(l.map (·.ow))[j]'(by omega)<=(l.map (·.ow))[j+1])) (λz _=>(intOf z+1).toNat)
 case atStart=>exact⟨l.length,Nat.le_refl _,rfl,Below.refl _ _,λj hj h=>absurd hj (by simp;omega)⟩
 case round =>
  obtain⟨q,hq,rfl,hB,HZ⟩:=hrel;have HBL:Hid (Below w.heap.size w wr):=hB;by_cases hq2:2<=q
  ·obtain⟨k,m,hk,hm⟩:∃ k m,q=m+1/\m=k+1:=⟨q - 2,q - 1,by omega,by omega⟩
   have e1:((q:Int) - 1)=(m:Int):=by omega
   have e2:IntKind.i64.wrap ((m:Int) - 1)=(k:Int):=by rw[IntKind.wrap_i64];omega
   have h1:m<l.length:=by omega
   have h2:k<l.length:=by omega
   have h0:(0:Int)<(m:Int):=by omega
   have HL:Hid (k+1<(l.map (·.ow)).length):=by show _<_;simp;omega
   have HZ2:Hid (l[m].ow<l[k].ow->zdH (l.map (·.ow))=false):=λh=>zlJ (k:=k) HL.out (by subst hm;simpa using h)
   have HM:Hid (m=k+1):=hm;have HZ3:Hid (l[k].ow<=l[m].ow->∀ j (hj:j+1<(l.map (·.ow)).length),m<=j+1->(l.map (·.ow))[j]'(by omega)<=(l.map (·.ow))[j+1]):=λh j hj hjm=>zmg HL.out (by subst hm;simp;omega) (λj' hj' h'=>HZ.out j' hj' (by omega)) j hj (by omega)
   obtain⟨x,hx⟩:∃ x,x=l[m]:=⟨_,rfl⟩;obtain⟨y,hy⟩:∃ y,y=l[k]:=⟨_,rfl⟩;have HK:Hid (∀ W,Below wr.heap.size wr W->(W.cell? ⟨b,off+m * 7,none⟩=some (.string x.nm)/\W.cell? ⟨b,off+m * 7+1,none⟩=some (.int .i64 x.ow)/\W.cell? ⟨b,off+m * 7+2,none⟩=some (.int .i64 x.t.1)/\W.cell? ⟨b,off+m * 7+3,none⟩=some (.int .i64 x.t.2.1)/\W.cell? ⟨b,off+m * 7+4,none⟩=some (.int .i64 x.t.2.2.1)/\W.cell? ⟨b,off+m * 7+5,none⟩=some (.bool x.t.2.2.2)/\W.cell? ⟨b,off+m * 7+6,none⟩=some (.bool x.st))/\(W.cell? ⟨b,off+k * 7,none⟩=some (.string y.nm)/\W.cell? ⟨b,off+k * 7+1,none⟩=some (.int .i64 y.ow)/\W.cell? ⟨b,off+k * 7+2,none⟩=some (.int .i64 y.t.1)/\W.cell? ⟨b,off+k * 7+3,none⟩=some (.int .i64 y.t.2.1)/\W.cell? ⟨b,off+k * 7+4,none⟩=some (.int .i64 y.t.2.2.1)/\W.cell? ⟨b,off+k * 7+5,none⟩=some (.bool y.t.2.2.2)/\W.cell? ⟨b,off+k * 7+6,none⟩=some (.bool y.st))):=λW hW=>by
    subst hx hy;exact⟨((HC.out m h1).below (zaa hB hW) hb).cells_F,((HC.out k h2).below (zaa hB hW) hb).cells_F⟩
   rw[<- hx,<- hy]at HZ2 HZ3;have HCm:Hid (∀ W,Calls Tryz.prog 107 #[.agg #[.string x.nm,.int .i64 x.ow,.int .i64 x.t.1,.int .i64 x.t.2.1,.int .i64 x.t.2.2.1,.bool x.t.2.2.2,.bool x.st],.agg #[.string y.nm,.int .i64 y.ow,.int .i64 y.t.1,.int .i64 y.t.2.1,.int .i64 y.t.2.2.1,.bool y.t.2.2.2,.bool y.st]] W λe w'=>e=.returned (.int .i64 (zlP x.ow y.ow))/\Below W.heap.size W w'):=λW=>zen x y W
   rw[e1];clear e1 hk hm hx hy hq2 hq HZ HL HC hB;go_wp2_with fail
   go_region_held3 (λW=>(W.cell? ⟨b,off+m * 7,none⟩=some (.string x.nm)/\W.cell? ⟨b,off+m * 7+1,none⟩=some (.int .i64 x.ow)/\W.cell? ⟨b,off+m * 7+2,none⟩=some (.int .i64 x.t.1)/\W.cell? ⟨b,off+m * 7+3,none⟩=some (.int .i64 x.t.2.1)/\W.cell? ⟨b,off+m * 7+4,none⟩=some (.int .i64 x.t.2.2.1)/\W.cell? ⟨b,off+m * 7+5,none⟩=some (.bool x.t.2.2.2)/\W.cell? ⟨b,off+m * 7+6,none⟩=some (.bool x.st))/\(W.cell? ⟨b,off+k * 7,none⟩=some (.string y.nm)/\W.cell? ⟨b,off+k * 7+1,none⟩=some (.int .i64 y.ow)/\W.cell? ⟨b,off+k * 7+2,none⟩=some (.int .i64 y.t.1)/\W.cell? ⟨b,off+k * 7+3,none⟩=some (.int .i64 y.t.2.1)/\W.cell? ⟨b,off+k * 7+4,none⟩=some (.int .i64 y.t.2.2.1)/\W.cell? ⟨b,off+k * 7+5,none⟩=some (.bool y.t.2.2.2)/\W.cell? ⟨b,off+k * 7+6,none⟩=some (.bool y.st)))
    (first | (exact HK.out _ (zad _)) | (exact HK.out _ (zaa (zad _) hb1)))
    (first | (go_at_call 107;refine (HCm.out _).mono ?_;rintro e w1 ⟨rfl,hb1⟩))
   rename_i hheld
   clear hheld;have HB1:Hid (Below w.heap.size w w1):=zaa HBL.out (zaa (zad _) hb1);clear hb1;by_cases hlt:x.ow<y.ow
   ·have hcm:zlP x.ow y.ow = -1:=by unfold zlP;rw[if_pos hlt]
    rw[hcm];go_wp2_with fail
    go_ret;exact⟨zab (HZ2.out hlt).symm,HB1.out⟩
   ·have hcm:¬ zlP x.ow y.ow<0:=by unfold zlP;rw[if_neg hlt];split <;> omega
    go_wp2_with fail
    go_roundw
    case rel=>exact⟨m,by omega,by have:=HM.out;congr 1;omega,HB1.out,HZ3.out (by omega)⟩
    case measure=>have:=HM.out;simp[intOf];omega
  ·have h0:¬ (0:Int)<(q:Int) - 1:=by omega
   have HR:Hid (zdH (l.map (·.ow))=true):=(zeO _).2 λj hj=>HZ.out j hj (by omega)
   clear HZ HC;go_wp2_with fail
   go_ret;exact⟨zab HR.out.symm,hB⟩
theorem zke {v:Value} {l:List FD} {w:World} (h:Es fdE w v l) :
 Calls Tryz.prog 106 #[v,.func (.func 107) #[] #[]] w λe w'=>e=.returned (.bool (zdH (l.map (·.ow))))/\Below w.heap.size w w':=by
 by_cases hne:l=[]
 ·subst hne;obtain⟨a,c,rfl,_,_⟩:=h.shape;go_enter Tryz.func106,Tryz.ntmps106;go_wp2;refine wp_loop_rounds 1 ?_;rw[rounds_succ];go_wp2;go_ret;exact⟨rfl,Below.refl _ _⟩
 ·have hl:=h.len;obtain⟨b,off,cap,rfl,h1,h2,hb,hc⟩:=h.parts hne;exact zi9 hb hc hl
theorem zie {b off cap:Nat} {l:List MD} {w:World} (hb:b<w.heap.size) (hc:∀ i (hi:i<l.length),El mdE w b (off+i * 12) l[i]) (hl:l.length<=maxLen) :
 Calls Tryz.prog 110 #[.slice (some ⟨b,off,none⟩) l.length cap,.func (.func 111) #[] #[]] w λe w'=>e=.returned (.bool (zdH (l.map (·.ow))))/\Below w.heap.size w w':=by
 unfold maxLen at hl;have HC:Hid (∀ i (hi:i<l.length),El mdE w b (off+i * 12) l[i]):=hc;clear hc;go_enter Tryz.func110,Tryz.ntmps110;go_wp2_with fail
 go_loopw [5] (λz wr=>∃ q:Nat,q<=l.length/\z=.int .i64 ((q:Int) - 1)/\Below w.heap.size w wr/\Hid (∀ j (hj:j+1<(l.map (·.ow)).length),q<=j+1->(l.map (·.ow))[j]'(by omega)<=(l.map (·.ow))[j+1])) (λz _=>(intOf z+1).toNat)
 case atStart=>exact⟨l.length,Nat.le_refl _,rfl,Below.refl _ _,λj hj h=>absurd hj (by simp;omega)⟩
 case round =>
  obtain⟨q,hq,rfl,hB,HZ⟩:=hrel;have HBL:Hid (Below w.heap.size w wr):=hB;by_cases hq2:2<=q
  ·obtain⟨k,m,hk,hm⟩:∃ k m,q=m+1/\m=k+1:=⟨q - 2,q - 1,by omega,by omega⟩
   have e1:((q:Int) - 1)=(m:Int):=by omega
   have e2:IntKind.i64.wrap ((m:Int) - 1)=(k:Int):=by rw[IntKind.wrap_i64];omega
   have h1:m<l.length:=by omega
   have h2:k<l.length:=by omega
   have h0:(0:Int)<(m:Int):=by omega
   have HL:Hid (k+1<(l.map (·.ow)).length):=by show _<_;simp;omega
   have HZ2:Hid (l[m].ow<l[k].ow->zdH (l.map (·.ow))=false):=λh=>zlJ (k:=k) HL.out (by subst hm;simpa using h)
   have HM:Hid (m=k+1):=hm;have HZ3:Hid (l[k].ow<=l[m].ow->∀ j (hj:j+1<(l.map (·.ow)).length),m<=j+1->(l.map (·.ow))[j]'(by omega)<=(l.map (·.ow))[j+1]):=λh j hj hjm=>zmg HL.out (by subst hm;simp;omega) (λj' hj' h'=>HZ.out j' hj' (by omega)) j hj (by omega)
   obtain⟨x,hx⟩:∃ x,x=l[m]:=⟨_,rfl⟩;obtain⟨y,hy⟩:∃ y,y=l[k]:=⟨_,rfl⟩;have HK:Hid (∀ W,Below wr.heap.size wr W->(W.cell? ⟨b,off+m * 12,none⟩=some (.string x.nm)/\W.cell? ⟨b,off+m * 12+1,none⟩=some (.int .i64 x.ow)/\W.cell? ⟨b,off+m * 12+2,none⟩=some (.int .i64 x.fl)/\W.cell? ⟨b,off+m * 12+3,none⟩=some (.slice x.pa x.ps.length x.pc)/\W.cell? ⟨b,off+m * 12+4,none⟩=some (.int .i64 x.rt.1)/\W.cell? ⟨b,off+m * 12+5,none⟩=some (.int .i64 x.rt.2.1)/\W.cell? ⟨b,off+m * 12+6,none⟩=some (.int .i64 x.rt.2.2.1)/\W.cell? ⟨b,off+m * 12+7,none⟩=some (.bool x.rt.2.2.2)/\W.cell? ⟨b,off+m * 12+8,none⟩=some (.slice x.la x.ls.length x.lc)/\W.cell? ⟨b,off+m * 12+9,none⟩=some (.int .i64 x.mx)/\W.cell? ⟨b,off+m * 12+10,none⟩=some (.slice x.ca x.co.length x.cc)/\W.cell? ⟨b,off+m * 12+11,none⟩=some (.slice x.ka x.cl.length x.kc))/\(W.cell? ⟨b,off+k * 12,none⟩=some (.string y.nm)/\W.cell? ⟨b,off+k * 12+1,none⟩=some (.int .i64 y.ow)/\W.cell? ⟨b,off+k * 12+2,none⟩=some (.int .i64 y.fl)/\W.cell? ⟨b,off+k * 12+3,none⟩=some (.slice y.pa y.ps.length y.pc)/\W.cell? ⟨b,off+k * 12+4,none⟩=some (.int .i64 y.rt.1)/\W.cell? ⟨b,off+k * 12+5,none⟩=some (.int .i64 y.rt.2.1)/\W.cell? ⟨b,off+k * 12+6,none⟩=some (.int .i64 y.rt.2.2.1)/\W.cell? ⟨b,off+k * 12+7,none⟩=some (.bool y.rt.2.2.2)/\W.cell? ⟨b,off+k * 12+8,none⟩=some (.slice y.la y.ls.length y.lc)/\W.cell? ⟨b,off+k * 12+9,none⟩=some (.int .i64 y.mx)/\W.cell? ⟨b,off+k * 12+10,none⟩=some (.slice y.ca y.co.length y.cc)/\W.cell? ⟨b,off+k * 12+11,none⟩=some (.slice y.ka y.cl.length y.kc))):=λW hW=>by
    subst hx hy;exact⟨((HC.out m h1).below (zaa hB hW) hb).cells_M,((HC.out k h2).below (zaa hB hW) hb).cells_M⟩
   rw[<- hx,<- hy]at HZ2 HZ3;have HCm:Hid (∀ W,Calls Tryz.prog 111 #[.agg #[.string x.nm,.int .i64 x.ow,.int .i64 x.fl,.slice x.pa x.ps.length x.pc,.int .i64 x.rt.1,.int .i64 x.rt.2.1,.int .i64 x.rt.2.2.1,.bool x.rt.2.2.2,.slice x.la x.ls.length x.lc,.int .i64 x.mx,.slice x.ca x.co.length x.cc,.slice x.ka x.cl.length x.kc],.agg #[.string y.nm,.int .i64 y.ow,.int .i64 y.fl,.slice y.pa y.ps.length y.pc,.int .i64 y.rt.1,.int .i64 y.rt.2.1,.int .i64 y.rt.2.2.1,.bool y.rt.2.2.2,.slice y.la y.ls.length y.lc,.int .i64 y.mx,.slice y.ca y.co.length y.cc,.slice y.ka y.cl.length y.kc]] W λe w'=>e=.returned (.int .i64 (zlP x.ow y.ow))/\Below W.heap.size W w'):=λW=>zdK x y W
   rw[e1];clear e1 hk hm hx hy hq2 hq HZ HL HC hB;go_wp2_with fail
   go_region_held3 (λW=>(W.cell? ⟨b,off+m * 12,none⟩=some (.string x.nm)/\W.cell? ⟨b,off+m * 12+1,none⟩=some (.int .i64 x.ow)/\W.cell? ⟨b,off+m * 12+2,none⟩=some (.int .i64 x.fl)/\W.cell? ⟨b,off+m * 12+3,none⟩=some (.slice x.pa x.ps.length x.pc)/\W.cell? ⟨b,off+m * 12+4,none⟩=some (.int .i64 x.rt.1)/\W.cell? ⟨b,off+m * 12+5,none⟩=some (.int .i64 x.rt.2.1)/\W.cell? ⟨b,off+m * 12+6,none⟩=some (.int .i64 x.rt.2.2.1)/\W.cell? ⟨b,off+m * 12+7,none⟩=some (.bool x.rt.2.2.2)/\W.cell? ⟨b,off+m * 12+8,none⟩=some (.slice x.la x.ls.length x.lc)/\W.cell? ⟨b,off+m * 12+9,none⟩=some (.int .i64 x.mx)/\W.cell? ⟨b,off+m * 12+10,none⟩=some (.slice x.ca x.co.length x.cc)/\W.cell? ⟨b,off+m * 12+11,none⟩=some (.slice x.ka x.cl.length x.kc))/\(W.cell? ⟨b,off+k * 12,none⟩=some (.string y.nm)/\W.cell? ⟨b,off+k * 12+1,none⟩=some (.int .i64 y.ow)/\W.cell? ⟨b,off+k * 12+2,none⟩=some (.int .i64 y.fl)/\W.cell? ⟨b,off+k * 12+3,none⟩=some (.slice y.pa y.ps.length y.pc)/\W.cell? ⟨b,off+k * 12+4,none⟩=some (.int .i64 y.rt.1)/\W.cell? ⟨b,off+k * 12+5,none⟩=some (.int .i64 y.rt.2.1)/\W.cell? ⟨b,off+k * 12+6,none⟩=some (.int .i64 y.rt.2.2.1)/\W.cell? ⟨b,off+k * 12+7,none⟩=some (.bool y.rt.2.2.2)/\W.cell? ⟨b,off+k * 12+8,none⟩=some (.slice y.la y.ls.length y.lc)/\W.cell? ⟨b,off+k * 12+9,none⟩=some (.int .i64 y.mx)/\W.cell? ⟨b,off+k * 12+10,none⟩=some (.slice y.ca y.co.length y.cc)/\W.cell? ⟨b,off+k * 12+11,none⟩=some (.slice y.ka y.cl.length y.kc)))
    (first | (exact HK.out _ (zad _)) | (exact HK.out _ (zaa (zad _) hb1)))
    (first | (go_at_call 111;refine (HCm.out _).mono ?_;rintro e w1 ⟨rfl,hb1⟩))
   rename_i hheld
   clear hheld;have HB1:Hid (Below w.heap.size w w1):=zaa HBL.out (zaa (zad _) hb1);clear hb1;by_cases hlt:x.ow<y.ow
   ·have hcm:zlP x.ow y.ow = -1:=by unfold zlP;rw[if_pos hlt]
    rw[hcm];go_wp2_with fail
    go_ret;exact⟨zab (HZ2.out hlt).symm,HB1.out⟩
   ·have hcm:¬ zlP x.ow y.ow<0:=by unfold zlP;rw[if_neg hlt];split <;> omega
    go_wp2_with fail
    go_roundw
    case rel=>exact⟨m,by omega,by have:=HM.out;congr 1;omega,HB1.out,HZ3.out (by omega)⟩
    case measure=>have:=HM.out;simp[intOf];omega
  ·have h0:¬ (0:Int)<(q:Int) - 1:=by omega
   have HR:Hid (zdH (l.map (·.ow))=true):=(zeO _).2 λj hj=>HZ.out j hj (by omega)
   clear HZ HC;go_wp2_with fail
   go_ret;exact⟨zab HR.out.symm,hB⟩
theorem zk1 {v:Value} {l:List MD} {w:World} (h:Es mdE w v l) :
 Calls Tryz.prog 110 #[v,.func (.func 111) #[] #[]] w λe w'=>e=.returned (.bool (zdH (l.map (·.ow))))/\Below w.heap.size w w':=by
 by_cases hne:l=[]
 ·subst hne;obtain⟨a,c,rfl,_,_⟩:=h.shape;go_enter Tryz.func110,Tryz.ntmps110;go_wp2;refine wp_loop_rounds 1 ?_;rw[rounds_succ];go_wp2;go_ret;exact⟨rfl,Below.refl _ _⟩
 ·have hl:=h.len;obtain⟨b,off,cap,rfl,h1,h2,hb,hc⟩:=h.parts hne;exact zie hb hc hl
end Go.Proofs.YtkedhjdipnhgdaaGreat
