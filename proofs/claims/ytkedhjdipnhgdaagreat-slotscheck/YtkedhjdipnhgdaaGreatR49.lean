import Derived.Test.YtkedhjdipnhgdaaGreatR45
namespace Go.Proofs.YtkedhjdipnhgdaaGreat
set_option maxHeartbeats 16000000
set_option linter.all false
open RowKit
attribute [local go_sem ↓] wp_at_zero wp_at_succ
abbrev zxw:Oper:=⟨some 23,.load 26 (.tmp 2),26,"ref.go:131",#[],none⟩
abbrev zwQ:Oper:=⟨some 24,.fieldAddr 51 (.tmp 3) 3,0,"ref.go:131",#[],none⟩
abbrev zw5:Oper:=⟨some 25,.load 45 (.tmp 24),45,"ref.go:131",#[⟨1,.data⟩],none⟩
abbrev zwI:Oper:=⟨some 26,.move (.tmp 5),3,"ref.go:131",#[],none⟩
abbrev zwM:Oper:=⟨some 27,.indexAddr 45 (.tmp 25) (.tmp 26),0,"ref.go:131",#[⟨2,.data⟩,⟨3,.data⟩],none⟩
abbrev zwo:Oper:=⟨some 28,.load 47 (.tmp 27),47,"ref.go:131",#[⟨4,.data⟩],none⟩
abbrev zwx:Oper:=⟨some 29,.call ⟨.value (.func 47),#[.tmp 23,.tmp 28],#[26,47]⟩,4,"ref.go:131",#[⟨0,.data⟩,⟨5,.data⟩],none⟩
abbrev zwz:Oper:=⟨some 30,.unOp .not 4 (.tmp 29),4,"ref.go:131",#[⟨6,.data⟩],none⟩
abbrev zwd:Oper:=⟨some 38,.load 26 (.tmp 2),26,"ref.go:136",#[],none⟩
abbrev zxI:Oper:=⟨some 39,.fieldAddr 51 (.tmp 3) 5,0,"ref.go:136",#[],none⟩
abbrev zwc:Oper:=⟨some 40,.load 45 (.tmp 39),45,"ref.go:136",#[⟨1,.data⟩],none⟩
abbrev zxP:Oper:=⟨some 41,.move (.tmp 6),3,"ref.go:136",#[],none⟩
abbrev zwl:Oper:=⟨some 42,.indexAddr 45 (.tmp 40) (.tmp 41),0,"ref.go:136",#[⟨2,.data⟩,⟨3,.data⟩],none⟩
abbrev zwh:Oper:=⟨some 43,.load 47 (.tmp 42),47,"ref.go:136",#[⟨4,.data⟩],none⟩
abbrev zxE:Oper:=⟨some 44,.call ⟨.value (.func 47),#[.tmp 38,.tmp 43],#[26,47]⟩,4,"ref.go:136",#[⟨0,.data⟩,⟨5,.data⟩],none⟩
abbrev zwU:Oper:=⟨some 45,.unOp .not 4 (.tmp 44),4,"ref.go:136",#[⟨6,.data⟩],none⟩
abbrev zu5:Oper:=⟨some 63,.fieldAddr 81 (.tmp 8) 1,0,"ref.go:142",#[],none⟩
abbrev zt9:Oper:=⟨some 64,.load 3 (.tmp 63),3,"ref.go:142",#[⟨0,.data⟩],none⟩
abbrev zui:Oper:=⟨some 65,.binOp .eql 3 (.tmp 64) (.const (.int .i64 8)) 3,4,"ref.go:142",#[⟨1,.data⟩],none⟩
abbrev zvA:Oper:=⟨some 66,.move (.tmp 65),4,"ref.go:142",#[⟨2,.data⟩],none⟩
abbrev zvu:Oper:=⟨some 67,.load 26 (.tmp 2),26,"ref.go:142",#[⟨3,.guard⟩],some (3,true)⟩
abbrev zuV:Oper:=⟨some 68,.fieldAddr 51 (.tmp 3) 7,0,"ref.go:142",#[⟨3,.guard⟩],some (3,true)⟩
abbrev zuE:Oper:=⟨some 69,.load 48 (.tmp 68),48,"ref.go:142",#[⟨5,.data⟩,⟨3,.guard⟩],some (3,true)⟩
abbrev zuT:Oper:=⟨some 70,.move (.tmp 7),3,"ref.go:142",#[⟨3,.guard⟩],some (3,true)⟩
abbrev ztT:Oper:=⟨some 71,.indexAddr 48 (.tmp 69) (.tmp 70),0,"ref.go:142",#[⟨6,.data⟩,⟨7,.data⟩,⟨3,.guard⟩],some (3,true)⟩
abbrev zvz:Oper:=⟨some 72,.fieldAddr 65 (.tmp 71) 2,0,"ref.go:142",#[⟨8,.data⟩,⟨3,.guard⟩],some (3,true)⟩
abbrev zrI:Oper:=⟨some 73,.load 47 (.tmp 72),47,"ref.go:142",#[⟨9,.data⟩,⟨3,.guard⟩],some (3,true)⟩
abbrev zsm:Oper:=⟨some 74,.call ⟨.value (.func 47),#[.tmp 67,.tmp 73],#[26,47]⟩,4,"ref.go:142",#[⟨4,.data⟩,⟨10,.data⟩,⟨3,.chain⟩,⟨3,.guard⟩],some (3,true)⟩
abbrev zri:Oper:=⟨some 75,.unOp .not 4 (.tmp 74),4,"ref.go:142",#[⟨11,.data⟩,⟨3,.guard⟩],some (3,true)⟩
abbrev zrx:Oper:=⟨some 76,.pick (.tmp 66) (.tmp 75) (.const (.bool false)),4,"ref.go:142",#[⟨3,.data⟩,⟨12,.data⟩],none⟩
abbrev zuM:Oper:=⟨some 84,.fieldAddr 51 (.tmp 3) 8,0,"ref.go:147",#[],none⟩
abbrev zux:Oper:=⟨some 85,.load 49 (.tmp 84),49,"ref.go:147",#[⟨0,.data⟩],none⟩
abbrev zt2:Oper:=⟨some 86,.move (.tmp 10),3,"ref.go:147",#[],none⟩
abbrev zuA:Oper:=⟨some 87,.indexAddr 49 (.tmp 85) (.tmp 86),0,"ref.go:147",#[⟨1,.data⟩,⟨2,.data⟩],none⟩
abbrev zuQ:Oper:=⟨some 88,.fieldAddr 85 (.tmp 87) 0,0,"ref.go:147",#[⟨3,.data⟩],none⟩
abbrev zuj:Oper:=⟨some 89,.load 3 (.tmp 88),3,"ref.go:147",#[⟨4,.data⟩],none⟩
abbrev ztQ:Oper:=⟨some 90,.binOp .eql 3 (.tmp 89) (.const (.int .i64 1)) 3,4,"ref.go:147",#[⟨5,.data⟩],none⟩
abbrev ztJ:Oper:=⟨some 91,.move (.tmp 90),4,"ref.go:147",#[⟨6,.data⟩],none⟩
abbrev zvh:Oper:=⟨some 92,.load 26 (.tmp 2),26,"ref.go:147",#[⟨7,.guard⟩],some (7,true)⟩
abbrev zvH:Oper:=⟨some 93,.fieldAddr 51 (.tmp 3) 8,0,"ref.go:147",#[⟨7,.guard⟩],some (7,true)⟩
abbrev zro:Oper:=⟨some 94,.load 49 (.tmp 93),49,"ref.go:147",#[⟨9,.data⟩,⟨7,.guard⟩],some (7,true)⟩
abbrev zrR:Oper:=⟨some 95,.move (.tmp 10),3,"ref.go:147",#[⟨7,.guard⟩],some (7,true)⟩
abbrev zsj:Oper:=⟨some 96,.indexAddr 49 (.tmp 94) (.tmp 95),0,"ref.go:147",#[⟨10,.data⟩,⟨11,.data⟩,⟨7,.guard⟩],some (7,true)⟩
abbrev zr3:Oper:=⟨some 97,.fieldAddr 85 (.tmp 96) 6,0,"ref.go:147",#[⟨12,.data⟩,⟨7,.guard⟩],some (7,true)⟩
abbrev zre:Oper:=⟨some 98,.load 47 (.tmp 97),47,"ref.go:147",#[⟨13,.data⟩,⟨7,.guard⟩],some (7,true)⟩
abbrev zsd:Oper:=⟨some 99,.call ⟨.value (.func 47),#[.tmp 92,.tmp 98],#[26,47]⟩,4,"ref.go:147",#[⟨8,.data⟩,⟨14,.data⟩,⟨7,.chain⟩,⟨7,.guard⟩],some (7,true)⟩
abbrev zrq:Oper:=⟨some 100,.unOp .not 4 (.tmp 99),4,"ref.go:147",#[⟨15,.data⟩,⟨7,.guard⟩],some (7,true)⟩
abbrev zsb:Oper:=⟨some 101,.pick (.tmp 91) (.tmp 100) (.const (.bool false)),4,"ref.go:147",#[⟨7,.data⟩,⟨16,.data⟩],none⟩
theorem zfK {g:Img} {x:MD} {w:World} (hg:Im w g) (hi:imB g=true) (hx:x.ok w) (hl:MdLen x) (ho:zpW x):Ans 22 #[zao g,mdV x] w (.bool (ziM g x)):=by
 obtain⟨w0,HW0,HB0,HC,HI⟩:=zc6 hg x;have HPs:Hid (∀ W,Below w0.heap.size w0 W->Es tyE W (.slice x.pa x.ps.length x.pc) x.ps):=λW hW=>(hx.ps.later HB0.out).later hW
 have HLs:Hid (∀ W,Below w0.heap.size w0 W->Es tyE W (.slice x.la x.ls.length x.lc) x.ls):=λW hW=>(hx.ls.later HB0.out).later hW
 have HCo:Hid (∀ W,Below w0.heap.size w0 W->Es zcv W (.slice x.ca x.co.length x.cc) x.co):=λW hW=>(hx.co.later HB0.out).later hW
 have HCl:Hid (∀ W,Below w0.heap.size w0 W->Es zci W (.slice x.ka x.cl.length x.kc) x.cl):=λW hW=>(hx.cl.later HB0.out).later hW
 have HOp:Hid (∀ y∈x.co,1<=y.1/\y.1<=75):=ho;have HUs:Hid (∀ W t,Below w0.heap.size w0 W->Ans 47 #[zao g,.agg #[.int .i64 t.1,.int .i64 t.2.1,.int .i64 t.2.2.1,.bool t.2.2.2]] W (.bool (zaw g t))):=λW t hW=>zfn t (HI.out W hW) hi
 have HBad:Hid (∀ t∈zfN x,zaw g t=false->ziM g x=false):=λt ht hb=>by
  unfold ziM;rw[List.all_eq_false];exact⟨t,ht,by rw[hb];decide⟩
 have HAll:Hid ((∀ t∈zfN x,zaw g t=true)->ziM g x=true):=λh=>by
  unfold ziM;rw[List.all_eq_true];exact h
 have HTy:Hid (zfN x=[x.rt] ++ x.ps ++ x.ls ++ zdC x.co ++ zez x.cl):=rfl;have HC1:=HC.out w0 (Below.refl _ _);obtain⟨⟨b0,b1,b2,b3⟩,c0,c1,c2,c3,c4,c5,c6,c7,c8,c9,c10,c11⟩:=HC1;have h1:=hx.ps.len;have h2:=hx.ls.len;have h3:=hx.co.len;have h4:=hx.cl.len;unfold maxLen at h1 h2 h3 h4;unfold zao at HUs ⊢;unfold Im4 Mt at HC;clear hg hi hx hl ho HI;generalize ziM g x=R at *;unfold mdV;generalize x.pa=pa at *;generalize x.la=la at *;generalize x.ca=ca at *;generalize x.ka=ka at *;go_enter Tryz.func22,Tryz.ntmps22;have HUr:Hid (Ans 47 _ w0 (.bool (zaw g x.rt))):=HUs.out w0 x.rt (Below.refl _ _);go_wp2_with (rw[<- HW0.out])
 refine Calls.mono HUr.out ?_;rintro e w1 ⟨rfl,hb1⟩;have HB1:Hid (Below w0.heap.size w0 w1):=hb1;have HBr:Hid (zaw g x.rt=false->R=false):=λh=>HBad.out _ (by rw[HTy.out];simp) h
 cases hur:zaw g x.rt with
 | false =>
  have HF:Hid (R=false):=HBr.out hur;clear hb1 hur b0 b1 b2 b3 c0 c1 c2 c3 c4 c5 c6 c7 c8 c9 c10 c11;go_wp2_with fail
  go_ret;exact⟨zab HF.out.symm,zaa HB0.out HB1.out⟩
 | true =>
  have HA0:Hid (zaw g x.rt=true):=hur;clear hb1 hur HUr HBr b0 b1 b2 b3 c0 c1 c2 c3 c4 c5 c6 c7 c8 c9 c10 c11;go_wp2_with fail
  obtain⟨wops,hwops⟩:∃ W,W=w1:=⟨_,rfl⟩;subst hwops;go_loopw [5] (λz wr=>∃ i:Nat,i<=x.ps.length/\z=.int .i64 i/\Hid (Below w0.heap.size w0 wr)/\Hid (∀ t∈x.ps.take i,zaw g t=true)) (λz _=>x.ps.length - (intOf z).toNat)
  case atStart=>exact⟨0,Nat.zero_le _,rfl,HB1.out,(show ∀ t∈_,_ from by simp)⟩
  case round =>
   obtain⟨i,hil0,rfl,HB,HA⟩:=hrel;obtain⟨⟨b0,b1,b2,b3⟩,c0,c1,c2,c3,c4,c5,c6,c7,c8,c9,c10,c11⟩:=HC.out wr HB.out;by_cases hil:i<x.ps.length
   ·have hii:(i:Int)<(x.ps.length:Int):=by omega
    obtain⟨lb,lo,hla,hcm,hel⟩:=(HPs.out w0 (Below.refl _ _)).elAll (by intro e;rw[e]at hil;simp at hil)
    have HEl:Hid (∀ W,Below w0.heap.size w0 W->El tyE W lb (lo+i * 4) x.ps[i]):=λW hW=>hel W hW i hil
    have HBd:Hid (zaw g x.ps[i]=false->R=false):=λh=>HBad.out _ (by rw[HTy.out];simp) h
    have HGd:Hid (zaw g x.ps[i]=true->∀ t∈x.ps.take (i+1),zaw g t=true):=λh t ht=>by
     rw[List.take_succ_eq_append_getElem hil]at ht
     rcases List.mem_append.1 ht with ht | ht
     ·exact HA.out t ht
     ·simp at ht;subst ht;exact h
    have HUi:Hid _:=λ (W:World) (hW:Below w0.heap.size w0 W)=>HUs.out W x.ps[i] hW
    have HKi:Hid (∀ W,Below w0.heap.size w0 W->(W.cell? ⟨w.heap.size,0,none⟩=some (.slice g.ta g.ts.length g.tc)/\W.cell? ⟨w.heap.size,1,none⟩=some (.slice g.fa g.fs.length g.fc)/\W.cell? ⟨w.heap.size,2,none⟩=some (.slice g.ma g.ms.length g.mc)/\W.cell? ⟨w.heap.size,3,none⟩=some (.int .i64 g.en))/\W.cell? ⟨w.heap.size+1,3,none⟩=some (.slice pa x.ps.length x.pc)/\W.cell? ⟨lb,lo+i * 4,none⟩=some (.int .i64 x.ps[i].1)/\W.cell? ⟨lb,lo+i * 4+1,none⟩=some (.int .i64 x.ps[i].2.1)/\W.cell? ⟨lb,lo+i * 4+2,none⟩=some (.int .i64 x.ps[i].2.2.1)/\W.cell? ⟨lb,lo+i * 4+3,none⟩=some (.bool x.ps[i].2.2.2)):=λW hW=>by
     obtain⟨hc4,_,_,_,d3,_,_,_,_,d8,_⟩:=HC.out W hW;exact⟨hc4,d3,(HEl.out W hW).cells_Y⟩
    subst hla;unfold maxLen at hcm;clear hel HA;generalize zaw g x.ps[i]=ub at *;generalize hy:x.ps[i]=y at *;clear hy;go_wp2_with fail
    clear b0 b1 b2 b3 c0 c1 c2 c3 c4 c5 c6 c7 c8 c9 c10 c11;refine wp_region_held_drew (S:=(λW=>(W.cell? ⟨w.heap.size,0,none⟩=some (.slice g.ta g.ts.length g.tc)/\W.cell? ⟨w.heap.size,1,none⟩=some (.slice g.fa g.fs.length g.fc)/\W.cell? ⟨w.heap.size,2,none⟩=some (.slice g.ma g.ms.length g.mc)/\W.cell? ⟨w.heap.size,3,none⟩=some (.int .i64 g.en))/\W.cell? ⟨w.heap.size+1,3,none⟩=some (.slice (some ⟨lb,lo,none⟩) x.ps.length x.pc)/\W.cell? ⟨lb,lo+i * 4,none⟩=some (.int .i64 y.1)/\W.cell? ⟨lb,lo+i * 4+1,none⟩=some (.int .i64 y.2.1)/\W.cell? ⟨lb,lo+i * 4+2,none⟩=some (.int .i64 y.2.2.1)/\W.cell? ⟨lb,lo+i * 4+3,none⟩=some (.bool y.2.2.2))) (by kernel_rfl) (HKi.out _ (zaa HB.out (zad _))) (λyb=>?_)
    refine tY 0 zxw (.agg #[.slice g.ta g.ts.length g.tc,.slice g.fa g.fs.length g.fc,.slice g.ma g.ms.length g.mc,.int .i64 g.en]) yb ?_;refine tY 1 zwQ (.pointer (some ⟨w.heap.size+1,3,none⟩)) yb ?_;refine tY 2 zw5 (.slice (some ⟨lb,lo,none⟩) x.ps.length x.pc) yb ?_;refine tY 3 zwI (.int .i64 (i:Int)) yb ?_;refine tY 4 zwM (.pointer (some ⟨lb,lo+i * 4,none⟩)) yb ?_;refine tY 5 zwo (.agg #[.int .i64 y.1,.int .i64 y.2.1,.int .i64 y.2.2.1,.bool y.2.2.2]) yb ?_;refine wpAnyH_ready (rs:=[6]) (by kernel_rfl) (by simp) ?_
    refine AllReadyH.cons (o:=zwx) rfl (λK hK=>?_) AllReadyH.nil
    go_simp
    refine (HUi.out _ (zaa HB.out (zad _))).mono ?_;rintro e w3 ⟨rfl,hz3⟩;have hB3:Below w0.heap.size w0 w3:=zaa (zaa HB.out (zad _)) hz3
    try go_wp2_with fail
    refine hK.out _ _ (HKi.out _ hB3) (λyb=>?_)
    clear hK K
    try simp only[Act.put,sA,s0,sS]
    refine tY 7 zwz (.bool (!ub)) yb ?_;refine wpAnyH_done (by kernel_rfl) ?_ _
    have HB3:Hid (Below w0.heap.size w0 w3):=hB3;clear hz3 hB3
    cases ub with
    | false =>
     have HF:Hid (R=false):=HBd.out (by trivial)
     go_wp2_with fail
     go_ret;exact⟨zab HF.out.symm,zaa HB0.out HB3.out⟩
    | true =>
     have HA2:Hid _:=HGd.out (by trivial)
     go_wp2_with fail
     go_roundw
     case rel=>exact⟨i+1,by omega,by go_num,HB3.out,HA2.out⟩
     case measure=>simp[intOf] <;> omega
   ·have hii:¬ (i:Int)<(x.ps.length:Int):=by omega
    have HAp:Hid (∀ t∈x.ps,zaw g t=true):=λt ht=>HA.out t (by rw[List.take_of_length_le (by omega)];exact ht)
    have HBp:Hid (Below w0.heap.size w0 wr):=HB.out;clear HA HB;go_wp2_with fail
    clear b0 b1 b2 b3 c0 c1 c2 c3 c4 c5 c6 c7 c8 c9 c10 c11;obtain⟨wols,hwols⟩:∃ W,W=wr:=⟨_,rfl⟩;subst hwols;go_loopw [6] (λz wr=>∃ i:Nat,i<=x.ls.length/\z=.int .i64 i/\Hid (Below w0.heap.size w0 wr)/\Hid (∀ t∈x.ls.take i,zaw g t=true)) (λz _=>x.ls.length - (intOf z).toNat)
    case atStart=>exact⟨0,Nat.zero_le _,rfl,HBp.out,(show ∀ t∈_,_ from by simp)⟩
    case round =>
     obtain⟨i,hil0,rfl,HB,HA⟩:=hrel;obtain⟨⟨b0,b1,b2,b3⟩,c0,c1,c2,c3,c4,c5,c6,c7,c8,c9,c10,c11⟩:=HC.out wr HB.out;by_cases hil:i<x.ls.length
     ·have hii:(i:Int)<(x.ls.length:Int):=by omega
      obtain⟨lb,lo,hla,hcm,hel⟩:=(HLs.out w0 (Below.refl _ _)).elAll (by intro e;rw[e]at hil;simp at hil)
      have HEl:Hid (∀ W,Below w0.heap.size w0 W->El tyE W lb (lo+i * 4) x.ls[i]):=λW hW=>hel W hW i hil
      have HBd:Hid (zaw g x.ls[i]=false->R=false):=λh=>HBad.out _ (by rw[HTy.out];simp) h
      have HGd:Hid (zaw g x.ls[i]=true->∀ t∈x.ls.take (i+1),zaw g t=true):=λh t ht=>by
       rw[List.take_succ_eq_append_getElem hil]at ht
       rcases List.mem_append.1 ht with ht | ht
       ·exact HA.out t ht
       ·simp at ht;subst ht;exact h
      have HUi:Hid _:=λ (W:World) (hW:Below w0.heap.size w0 W)=>HUs.out W x.ls[i] hW
      have HKi:Hid (∀ W,Below w0.heap.size w0 W->(W.cell? ⟨w.heap.size,0,none⟩=some (.slice g.ta g.ts.length g.tc)/\W.cell? ⟨w.heap.size,1,none⟩=some (.slice g.fa g.fs.length g.fc)/\W.cell? ⟨w.heap.size,2,none⟩=some (.slice g.ma g.ms.length g.mc)/\W.cell? ⟨w.heap.size,3,none⟩=some (.int .i64 g.en))/\W.cell? ⟨w.heap.size+1,8,none⟩=some (.slice la x.ls.length x.lc)/\W.cell? ⟨lb,lo+i * 4,none⟩=some (.int .i64 x.ls[i].1)/\W.cell? ⟨lb,lo+i * 4+1,none⟩=some (.int .i64 x.ls[i].2.1)/\W.cell? ⟨lb,lo+i * 4+2,none⟩=some (.int .i64 x.ls[i].2.2.1)/\W.cell? ⟨lb,lo+i * 4+3,none⟩=some (.bool x.ls[i].2.2.2)):=λW hW=>by
       obtain⟨hc4,_,_,_,d3,_,_,_,_,d8,_⟩:=HC.out W hW;exact⟨hc4,d8,(HEl.out W hW).cells_Y⟩
      subst hla;unfold maxLen at hcm;clear hel HA;generalize zaw g x.ls[i]=ub at *;generalize hy:x.ls[i]=y at *;clear hy;go_wp2_with fail
      clear b0 b1 b2 b3 c0 c1 c2 c3 c4 c5 c6 c7 c8 c9 c10 c11;refine wp_region_held_drew (S:=(λW=>(W.cell? ⟨w.heap.size,0,none⟩=some (.slice g.ta g.ts.length g.tc)/\W.cell? ⟨w.heap.size,1,none⟩=some (.slice g.fa g.fs.length g.fc)/\W.cell? ⟨w.heap.size,2,none⟩=some (.slice g.ma g.ms.length g.mc)/\W.cell? ⟨w.heap.size,3,none⟩=some (.int .i64 g.en))/\W.cell? ⟨w.heap.size+1,8,none⟩=some (.slice (some ⟨lb,lo,none⟩) x.ls.length x.lc)/\W.cell? ⟨lb,lo+i * 4,none⟩=some (.int .i64 y.1)/\W.cell? ⟨lb,lo+i * 4+1,none⟩=some (.int .i64 y.2.1)/\W.cell? ⟨lb,lo+i * 4+2,none⟩=some (.int .i64 y.2.2.1)/\W.cell? ⟨lb,lo+i * 4+3,none⟩=some (.bool y.2.2.2))) (by kernel_rfl) (HKi.out _ (zaa HB.out (zad _))) (λyb=>?_)
      refine tY 0 zwd (.agg #[.slice g.ta g.ts.length g.tc,.slice g.fa g.fs.length g.fc,.slice g.ma g.ms.length g.mc,.int .i64 g.en]) yb ?_;refine tY 1 zxI (.pointer (some ⟨w.heap.size+1,8,none⟩)) yb ?_;refine tY 2 zwc (.slice (some ⟨lb,lo,none⟩) x.ls.length x.lc) yb ?_;refine tY 3 zxP (.int .i64 (i:Int)) yb ?_;refine tY 4 zwl (.pointer (some ⟨lb,lo+i * 4,none⟩)) yb ?_;refine tY 5 zwh (.agg #[.int .i64 y.1,.int .i64 y.2.1,.int .i64 y.2.2.1,.bool y.2.2.2]) yb ?_;refine wpAnyH_ready (rs:=[6]) (by kernel_rfl) (by simp) ?_
      refine AllReadyH.cons (o:=zxE) rfl (λK hK=>?_) AllReadyH.nil
      go_simp
      refine (HUi.out _ (zaa HB.out (zad _))).mono ?_;rintro e w3 ⟨rfl,hz3⟩;have hB3:Below w0.heap.size w0 w3:=zaa (zaa HB.out (zad _)) hz3
      try go_wp2_with fail
      refine hK.out _ _ (HKi.out _ hB3) (λyb=>?_)
      clear hK K
      try simp only[Act.put,sA,s0,sS]
      refine tY 7 zwU (.bool (!ub)) yb ?_;refine wpAnyH_done (by kernel_rfl) ?_ _
      have HB3:Hid (Below w0.heap.size w0 w3):=hB3;clear hz3 hB3
      cases ub with
      | false =>
       have HF:Hid (R=false):=HBd.out (by trivial)
       go_wp2_with fail
       go_ret;exact⟨zab HF.out.symm,zaa HB0.out HB3.out⟩
      | true =>
       have HA2:Hid _:=HGd.out (by trivial)
       go_wp2_with fail
       go_roundw
       case rel=>exact⟨i+1,by omega,by go_num,HB3.out,HA2.out⟩
       case measure=>simp[intOf] <;> omega
     ·have hii:¬ (i:Int)<(x.ls.length:Int):=by omega
      have HAl:Hid (∀ t∈x.ls,zaw g t=true):=λt ht=>HA.out t (by rw[List.take_of_length_le (by omega)];exact ht)
      have HBl:Hid (Below w0.heap.size w0 wr):=HB.out;clear HA HB;go_wp2_with fail
      clear b0 b1 b2 b3 c0 c1 c2 c3 c4 c5 c6 c7 c8 c9 c10 c11;obtain⟨wo3,hwo3⟩:∃ W,W=wr:=⟨_,rfl⟩;subst hwo3;go_loopw [7,8,9] (λz _ _ wr=>∃ i:Nat,i<=x.co.length/\z=.int .i64 i/\Hid (Below w0.heap.size w0 wr)/\Hid (∀ t∈zdC (x.co.take i),zaw g t=true)) (λz _ _ _=>x.co.length - (intOf z).toNat)
      case atStart=>exact⟨0,Nat.zero_le _,rfl,HBl.out,(show ∀ t∈zdC (x.co.take 0),_ from λt ht=>absurd ht (by simp[zdC]))⟩
      case round =>
       obtain⟨i,hil0,rfl,HB,HA⟩:=hrel;obtain⟨⟨b0,b1,b2,b3⟩,c0,c1,c2,c3,c4,c5,c6,c7,c8,c9,c10,c11⟩:=HC.out wr HB.out;by_cases hil:i<x.co.length
       ·have hii:(i:Int)<(x.co.length:Int):=by omega
        obtain⟨lb,lo,hla,hcm,hel⟩:=(HCo.out w0 (Below.refl _ _)).elAll (by intro e;rw[e]at hil;simp at hil)
        have HEl:Hid (∀ W,Below w0.heap.size w0 W->El zcv W lb (lo+i * 6) x.co[i]):=λW hW=>hel W hW i hil
        have HBd:Hid (opP x.co[i].1=8->zaw g x.co[i].2.2=false->R=false):=λh8 h=>HBad.out x.co[i].2.2 (by
         rw[HTy.out];have:x.co[i].2.2∈zdC x.co:=by
          unfold zdC;exact List.mem_map.2 ⟨x.co[i],List.mem_filter.2 ⟨List.getElem_mem hil,decide_eq_true h8⟩,rfl⟩
         simp[this]) h
        have HGd:Hid ((opP x.co[i].1=8->zaw g x.co[i].2.2=true)->∀ t∈zdC (x.co.take (i+1)),zaw g t=true):=λh t ht=>by
         rw[zlu hil]at ht
         rcases List.mem_append.1 ht with ht | ht
         ·exact HA.out t ht
         ·by_cases h8:opP x.co[i].1=8
          ·rw[if_pos h8]at ht;simp at ht;subst ht;exact h h8
          ·rw[if_neg h8]at ht;simp at ht
        have HUi:Hid _:=λ (W:World) (hW:Below w0.heap.size w0 W)=>HUs.out W x.co[i].2.2 hW
        have HKi:Hid (∀ W,Below w0.heap.size w0 W->(W.cell? ⟨w.heap.size,0,none⟩=some (.slice g.ta g.ts.length g.tc)/\W.cell? ⟨w.heap.size,1,none⟩=some (.slice g.fa g.fs.length g.fc)/\W.cell? ⟨w.heap.size,2,none⟩=some (.slice g.ma g.ms.length g.mc)/\W.cell? ⟨w.heap.size,3,none⟩=some (.int .i64 g.en))/\W.cell? ⟨w.heap.size+1,10,none⟩=some (.slice ca x.co.length x.cc)/\W.cell? ⟨lb,lo+i * 6+2,none⟩=some (.int .i64 x.co[i].2.2.1)/\W.cell? ⟨lb,lo+i * 6+2+1,none⟩=some (.int .i64 x.co[i].2.2.2.1)/\W.cell? ⟨lb,lo+i * 6+2+2,none⟩=some (.int .i64 x.co[i].2.2.2.2.1)/\W.cell? ⟨lb,lo+i * 6+2+3,none⟩=some (.bool x.co[i].2.2.2.2.2)):=λW hW=>by
         obtain⟨hc4,_,_,_,_,_,_,_,_,_,_,d10,_⟩:=HC.out W hW;obtain⟨_,_,e2,e3,e4,e5⟩:=(HEl.out W hW).cells_I;exact⟨hc4,d10,e2,e3,e4,e5⟩
        obtain⟨k0,_⟩:=(HEl.out wr HB.out).cells_I;obtain⟨hr1,hr2⟩:=HOp.out _ (List.getElem_mem hil);have HOf:Hid _:=zgw x.co[i].1 hr1 hr2 wr;subst hla;unfold maxLen at hcm;clear hel HA hr1 hr2 HEl;generalize zaw g x.co[i].2.2=ub at *;generalize hy:x.co[i]=y at *;clear hy;generalize opP y.1=op at *;generalize opS y.1=os at *;generalize opW y.1=ow at *;go_wp2_with fail
        refine Calls.mono HOf.out ?_;rintro e w5 ⟨rfl,hb5⟩;obtain⟨wI,hwI⟩:∃ W,W=w5.alloc (.cells #[.string os,.int .i64 op,.int .i64 ow] 81):=⟨_,rfl⟩;have HWI:Hid (wI=_):=hwI;have hbI:Below w5.heap.size w5 wI:=by rw[hwI];exact zac _ _ _
        have hAI:At wI w5.heap.size #[.string os,.int .i64 op,.int .i64 ow] 81:=by rw[hwI];exact At.made _ _ _
        have HAI:Hid (∀ W,Below wI.heap.size wI W->W.cell? ⟨w5.heap.size,1,none⟩=some (.int .i64 op)):=λW hW=>(hAI.later hW).cell 1
        have HBI:Hid (Below w0.heap.size w0 wI):=zaa HB.out (zaa hb5 hbI);clear hwI hbI hAI hb5 b0 b1 b2 b3 c0 c1 c2 c3 c4 c5 c6 c7 c8 c9 c10 c11 k0 HOf HB;go_wp2_with (rw[<- HWI.out])
        have HKj:Hid (∀ W,Below wI.heap.size wI W->((W.cell? ⟨w.heap.size,0,none⟩=some (.slice g.ta g.ts.length g.tc)/\W.cell? ⟨w.heap.size,1,none⟩=some (.slice g.fa g.fs.length g.fc)/\W.cell? ⟨w.heap.size,2,none⟩=some (.slice g.ma g.ms.length g.mc)/\W.cell? ⟨w.heap.size,3,none⟩=some (.int .i64 g.en))/\W.cell? ⟨w.heap.size+1,10,none⟩=some (.slice (some ⟨lb,lo,none⟩) x.co.length x.cc)/\W.cell? ⟨lb,lo+i * 6+2,none⟩=some (.int .i64 y.2.2.1)/\W.cell? ⟨lb,lo+i * 6+2+1,none⟩=some (.int .i64 y.2.2.2.1)/\W.cell? ⟨lb,lo+i * 6+2+2,none⟩=some (.int .i64 y.2.2.2.2.1)/\W.cell? ⟨lb,lo+i * 6+2+3,none⟩=some (.bool y.2.2.2.2.2))/\W.cell? ⟨w5.heap.size,1,none⟩=some (.int .i64 op)):=λW hW=>⟨HKi.out W (zaa HBI.out hW),HAI.out W hW⟩
        clear HKi HAI;by_cases h8:op=8
        ·have H8:Hid (op=8):=h8;subst h8;refine wp_region_held_drew (S:=(λW=>((W.cell? ⟨w.heap.size,0,none⟩=some (.slice g.ta g.ts.length g.tc)/\W.cell? ⟨w.heap.size,1,none⟩=some (.slice g.fa g.fs.length g.fc)/\W.cell? ⟨w.heap.size,2,none⟩=some (.slice g.ma g.ms.length g.mc)/\W.cell? ⟨w.heap.size,3,none⟩=some (.int .i64 g.en))/\W.cell? ⟨w.heap.size+1,10,none⟩=some (.slice (some ⟨lb,lo,none⟩) x.co.length x.cc)/\W.cell? ⟨lb,lo+i * 6+2,none⟩=some (.int .i64 y.2.2.1)/\W.cell? ⟨lb,lo+i * 6+2+1,none⟩=some (.int .i64 y.2.2.2.1)/\W.cell? ⟨lb,lo+i * 6+2+2,none⟩=some (.int .i64 y.2.2.2.2.1)/\W.cell? ⟨lb,lo+i * 6+2+3,none⟩=some (.bool y.2.2.2.2.2))/\W.cell? ⟨w5.heap.size,1,none⟩=some (.int .i64 8))) (by kernel_rfl) (HKj.out _ (zad _)) (λyb=>?_)
         refine tY 0 zu5 (.pointer (some ⟨w5.heap.size,1,none⟩)) yb ?_;refine tY 1 zt9 (.int .i64 8) yb ?_;refine tY 2 zui (.bool true) yb ?_;refine tY 3 zvA (.bool true) yb ?_;refine tY 4 zvu (.agg #[.slice g.ta g.ts.length g.tc,.slice g.fa g.fs.length g.fc,.slice g.ma g.ms.length g.mc,.int .i64 g.en]) yb ?_;refine tY 5 zuV (.pointer (some ⟨w.heap.size+1,10,none⟩)) yb ?_;refine tY 6 zuE (.slice (some ⟨lb,lo,none⟩) x.co.length x.cc) yb ?_;refine tY 7 zuT (.int .i64 (i:Int)) yb ?_;refine tY 8 ztT (.pointer (some ⟨lb,lo+i * 6,none⟩)) yb ?_;refine tY 9 zvz (.pointer (some ⟨lb,lo+i * 6+2,none⟩)) yb ?_;refine tY 10 zrI (.agg #[.int .i64 y.2.2.1,.int .i64 y.2.2.2.1,.int .i64 y.2.2.2.2.1,.bool y.2.2.2.2.2]) yb ?_;refine wpAnyH_ready (rs:=[11]) (by kernel_rfl) (by simp) ?_
         refine AllReadyH.cons (o:=zsm) rfl (λK hK=>?_) AllReadyH.nil
         go_simp
         refine (HUi.out _ (zaa HBI.out (zad _))).mono ?_;rintro e w3 ⟨rfl,hz3⟩;have hB3:Below wI.heap.size wI w3:=zaa (zad _) hz3
         try go_wp2_with fail
         refine hK.out _ _ (HKj.out _ hB3) (λyb=>?_)
         clear hK K
         try simp only[Act.put,sA,s0,sS]
         refine tY 12 zri (.bool (!ub)) yb ?_;refine tY 13 zrx (.bool (!ub)) yb ?_;refine wpAnyH_done (by kernel_rfl) ?_ _
         have HB3:Hid (Below w0.heap.size w0 w3):=zaa HBI.out hB3;clear hz3 hB3
         cases ub with
         | false =>
          have HF:Hid (R=false):=HBd.out (by trivial) (by trivial)
          go_wp2_with fail
          go_ret;exact⟨zab HF.out.symm,zaa HB0.out HB3.out⟩
         | true =>
          have HA2:Hid _:=HGd.out (λ_=>by trivial)
          go_wp2_with fail
          go_roundw
          case rel=>exact⟨i+1,by omega,by go_num,HB3.out,HA2.out⟩
          case measure=>simp[intOf] <;> omega
        ·have e8:(op==8)=false:=by simpa using h8
         have HA2:Hid _:=HGd.out (λh=>absurd h h8)
         clear h8;refine wp_region_held_drew (S:=(λW=>((W.cell? ⟨w.heap.size,0,none⟩=some (.slice g.ta g.ts.length g.tc)/\W.cell? ⟨w.heap.size,1,none⟩=some (.slice g.fa g.fs.length g.fc)/\W.cell? ⟨w.heap.size,2,none⟩=some (.slice g.ma g.ms.length g.mc)/\W.cell? ⟨w.heap.size,3,none⟩=some (.int .i64 g.en))/\W.cell? ⟨w.heap.size+1,10,none⟩=some (.slice (some ⟨lb,lo,none⟩) x.co.length x.cc)/\W.cell? ⟨lb,lo+i * 6+2,none⟩=some (.int .i64 y.2.2.1)/\W.cell? ⟨lb,lo+i * 6+2+1,none⟩=some (.int .i64 y.2.2.2.1)/\W.cell? ⟨lb,lo+i * 6+2+2,none⟩=some (.int .i64 y.2.2.2.2.1)/\W.cell? ⟨lb,lo+i * 6+2+3,none⟩=some (.bool y.2.2.2.2.2))/\W.cell? ⟨w5.heap.size,1,none⟩=some (.int .i64 op))) (by kernel_rfl) (HKj.out _ (zad _)) (λyb=>?_)
         refine tY 0 zu5 (.pointer (some ⟨w5.heap.size,1,none⟩)) yb ?_;refine tY 1 zt9 (.int .i64 op) yb ?_;refine tY 2 zui (.bool false) yb ?_;refine tY 3 zvA (.bool false) yb ?_;refine tN 4 zvu yb ?_;refine tN 5 zuV yb ?_;refine tN 6 zuE yb ?_;refine tN 7 zuT yb ?_;refine tN 8 ztT yb ?_;refine tN 9 zvz yb ?_;refine tN 10 zrI yb ?_;refine tN 11 zsm yb ?_;refine tN 12 zri yb ?_;refine tY 13 zrx (.bool false) yb ?_;refine wpAnyH_done (by kernel_rfl) ?_ _
         have HB3:Hid (Below w0.heap.size w0 wI.drew):=zaa HBI.out (zad _);go_wp2_with fail
         go_roundw
         case rel=>exact⟨i+1,by omega,by go_num,HB3.out,HA2.out⟩
         case measure=>simp[intOf] <;> omega
       ·have hii:¬ (i:Int)<(x.co.length:Int):=by omega
        have HAi:Hid (∀ t∈zdC x.co,zaw g t=true):=λt ht=>HA.out t (by rw[List.take_of_length_le (by omega)];exact ht)
        have HBi:Hid (Below w0.heap.size w0 wr):=HB.out;clear HA HB;go_wp2_with fail
        clear b0 b1 b2 b3 c0 c1 c2 c3 c4 c5 c6 c7 c8 c9 c10 c11;obtain⟨wo4,hwo4⟩:∃ W,W=wr:=⟨_,rfl⟩;subst hwo4;go_loopw [10] (λz wr=>∃ i:Nat,i<=x.cl.length/\z=.int .i64 i/\Hid (Below w0.heap.size w0 wr)/\Hid (∀ t∈zez (x.cl.take i),zaw g t=true)) (λz _=>x.cl.length - (intOf z).toNat)
        case atStart=>exact⟨0,Nat.zero_le _,rfl,HBi.out,(show ∀ t∈zez (x.cl.take 0),_ from λt ht=>absurd ht (by simp[zez]))⟩
        case round =>
         obtain⟨i,hil0,rfl,HB,HA⟩:=hrel;obtain⟨⟨b0,b1,b2,b3⟩,c0,c1,c2,c3,c4,c5,c6,c7,c8,c9,c10,c11⟩:=HC.out wr HB.out;by_cases hil:i<x.cl.length
         ·have hii:(i:Int)<(x.cl.length:Int):=by omega
          obtain⟨lb,lo,hla,hcm,hel⟩:=(HCl.out w0 (Below.refl _ _)).elAll (by intro e;rw[e]at hil;simp at hil)
          have HEl:Hid (∀ W,Below w0.heap.size w0 W->El zci W lb (lo+i * 10) x.cl[i]):=λW hW=>hel W hW i hil
          have HBd:Hid (x.cl[i].k=1->zaw g (x.cl[i].t0,x.cl[i].t1,x.cl[i].t2,x.cl[i].t3)=false->R=false):=λh8 h=>HBad.out (x.cl[i].t0,x.cl[i].t1,x.cl[i].t2,x.cl[i].t3) (by
           rw[HTy.out];have:(x.cl[i].t0,x.cl[i].t1,x.cl[i].t2,x.cl[i].t3)∈zez x.cl:=by
            unfold zez;exact List.mem_map.2 ⟨x.cl[i],List.mem_filter.2 ⟨List.getElem_mem hil,decide_eq_true h8⟩,rfl⟩
           simp[this]) h
          have HGd:Hid ((x.cl[i].k=1->zaw g (x.cl[i].t0,x.cl[i].t1,x.cl[i].t2,x.cl[i].t3)=true)->∀ t∈zez (x.cl.take (i+1)),zaw g t=true):=λh t ht=>by
           rw[zlW hil]at ht
           rcases List.mem_append.1 ht with ht | ht
           ·exact HA.out t ht
           ·by_cases h8:x.cl[i].k=1
            ·rw[if_pos h8]at ht;simp at ht;subst ht;exact h h8
            ·rw[if_neg h8]at ht;simp at ht
          have HUi:Hid _:=λ (W:World) (hW:Below w0.heap.size w0 W)=>HUs.out W (x.cl[i].t0,x.cl[i].t1,x.cl[i].t2,x.cl[i].t3) hW
          have HKi:Hid (∀ W,Below w0.heap.size w0 W->(W.cell? ⟨w.heap.size,0,none⟩=some (.slice g.ta g.ts.length g.tc)/\W.cell? ⟨w.heap.size,1,none⟩=some (.slice g.fa g.fs.length g.fc)/\W.cell? ⟨w.heap.size,2,none⟩=some (.slice g.ma g.ms.length g.mc)/\W.cell? ⟨w.heap.size,3,none⟩=some (.int .i64 g.en))/\W.cell? ⟨w.heap.size+1,11,none⟩=some (.slice ka x.cl.length x.kc)/\W.cell? ⟨lb,lo+i * 10,none⟩=some (.int .i64 x.cl[i].k)/\W.cell? ⟨lb,lo+i * 10+6,none⟩=some (.int .i64 x.cl[i].t0)/\W.cell? ⟨lb,lo+i * 10+6+1,none⟩=some (.int .i64 x.cl[i].t1)/\W.cell? ⟨lb,lo+i * 10+6+2,none⟩=some (.int .i64 x.cl[i].t2)/\W.cell? ⟨lb,lo+i * 10+6+3,none⟩=some (.bool x.cl[i].t3)):=λW hW=>by
           obtain⟨hc4,_,_,_,_,_,_,_,_,_,_,_,d11⟩:=HC.out W hW;obtain⟨e0,_,_,_,_,_,e6,e7,e8,e9⟩:=(HEl.out W hW).ten;exact⟨hc4,d11,e0,e6,e7,e8,e9⟩
          subst hla;unfold maxLen at hcm;clear hel HA HEl;generalize zaw g (x.cl[i].t0,x.cl[i].t1,x.cl[i].t2,x.cl[i].t3)=ub at *;generalize hy:x.cl[i]=y at *;clear hy;generalize y.k=kk at *;go_wp2_with fail
          clear b0 b1 b2 b3 c0 c1 c2 c3 c4 c5 c6 c7 c8 c9 c10 c11;by_cases h8:kk=1
          ·have H8:Hid (kk=1):=h8;subst h8;refine wp_region_held_drew (S:=(λW=>(W.cell? ⟨w.heap.size,0,none⟩=some (.slice g.ta g.ts.length g.tc)/\W.cell? ⟨w.heap.size,1,none⟩=some (.slice g.fa g.fs.length g.fc)/\W.cell? ⟨w.heap.size,2,none⟩=some (.slice g.ma g.ms.length g.mc)/\W.cell? ⟨w.heap.size,3,none⟩=some (.int .i64 g.en))/\W.cell? ⟨w.heap.size+1,11,none⟩=some (.slice (some ⟨lb,lo,none⟩) x.cl.length x.kc)/\W.cell? ⟨lb,lo+i * 10,none⟩=some (.int .i64 1)/\W.cell? ⟨lb,lo+i * 10+6,none⟩=some (.int .i64 y.t0)/\W.cell? ⟨lb,lo+i * 10+6+1,none⟩=some (.int .i64 y.t1)/\W.cell? ⟨lb,lo+i * 10+6+2,none⟩=some (.int .i64 y.t2)/\W.cell? ⟨lb,lo+i * 10+6+3,none⟩=some (.bool y.t3))) (by kernel_rfl) (HKi.out _ (zaa HB.out (zad _))) (λyb=>?_)
           refine tY 0 zuM (.pointer (some ⟨w.heap.size+1,11,none⟩)) yb ?_;refine tY 1 zux (.slice (some ⟨lb,lo,none⟩) x.cl.length x.kc) yb ?_;refine tY 2 zt2 (.int .i64 (i:Int)) yb ?_;refine tY 3 zuA (.pointer (some ⟨lb,lo+i * 10,none⟩)) yb ?_;refine tY 4 zuQ (.pointer (some ⟨lb,lo+i * 10,none⟩)) yb ?_;refine tY 5 zuj (.int .i64 1) yb ?_;refine tY 6 ztQ (.bool true) yb ?_;refine tY 7 ztJ (.bool true) yb ?_;refine tY 8 zvh (.agg #[.slice g.ta g.ts.length g.tc,.slice g.fa g.fs.length g.fc,.slice g.ma g.ms.length g.mc,.int .i64 g.en]) yb ?_;refine tY 9 zvH (.pointer (some ⟨w.heap.size+1,11,none⟩)) yb ?_;refine tY 10 zro (.slice (some ⟨lb,lo,none⟩) x.cl.length x.kc) yb ?_;refine tY 11 zrR (.int .i64 (i:Int)) yb ?_;refine tY 12 zsj (.pointer (some ⟨lb,lo+i * 10,none⟩)) yb ?_;refine tY 13 zr3 (.pointer (some ⟨lb,lo+i * 10+6,none⟩)) yb ?_;refine tY 14 zre (.agg #[.int .i64 y.t0,.int .i64 y.t1,.int .i64 y.t2,.bool y.t3]) yb ?_;refine wpAnyH_ready (rs:=[15]) (by kernel_rfl) (by simp) ?_
           refine AllReadyH.cons (o:=zsd) rfl (λK hK=>?_) AllReadyH.nil
           go_simp
           refine (HUi.out _ (zaa HB.out (zad _))).mono ?_;rintro e w3 ⟨rfl,hz3⟩;have hB3:Below w0.heap.size w0 w3:=zaa (zaa HB.out (zad _)) hz3
           try go_wp2_with fail
           refine hK.out _ _ (HKi.out _ hB3) (λyb=>?_)
           clear hK K
           try simp only[Act.put,sA,s0,sS]
           refine tY 16 zrq (.bool (!ub)) yb ?_;refine tY 17 zsb (.bool (!ub)) yb ?_;refine wpAnyH_done (by kernel_rfl) ?_ _
           have HB3:Hid (Below w0.heap.size w0 w3):=hB3;clear hz3 hB3
           cases ub with
           | false =>
            have HF:Hid (R=false):=HBd.out (by trivial) (by trivial)
            go_wp2_with fail
            go_ret;exact⟨zab HF.out.symm,zaa HB0.out HB3.out⟩
           | true =>
            have HA2:Hid _:=HGd.out (λ_=>by trivial)
            go_wp2_with fail
            go_roundw
            case rel=>exact⟨i+1,by omega,by go_num,HB3.out,HA2.out⟩
            case measure=>simp[intOf] <;> omega
          ·have e8:(kk==1)=false:=by simpa using h8
           have HA2:Hid _:=HGd.out (λh=>absurd h h8)
           clear h8;refine wp_region_held_drew (S:=(λW=>(W.cell? ⟨w.heap.size,0,none⟩=some (.slice g.ta g.ts.length g.tc)/\W.cell? ⟨w.heap.size,1,none⟩=some (.slice g.fa g.fs.length g.fc)/\W.cell? ⟨w.heap.size,2,none⟩=some (.slice g.ma g.ms.length g.mc)/\W.cell? ⟨w.heap.size,3,none⟩=some (.int .i64 g.en))/\W.cell? ⟨w.heap.size+1,11,none⟩=some (.slice (some ⟨lb,lo,none⟩) x.cl.length x.kc)/\W.cell? ⟨lb,lo+i * 10,none⟩=some (.int .i64 kk)/\W.cell? ⟨lb,lo+i * 10+6,none⟩=some (.int .i64 y.t0)/\W.cell? ⟨lb,lo+i * 10+6+1,none⟩=some (.int .i64 y.t1)/\W.cell? ⟨lb,lo+i * 10+6+2,none⟩=some (.int .i64 y.t2)/\W.cell? ⟨lb,lo+i * 10+6+3,none⟩=some (.bool y.t3))) (by kernel_rfl) (HKi.out _ (zaa HB.out (zad _))) (λyb=>?_)
           refine tY 0 zuM (.pointer (some ⟨w.heap.size+1,11,none⟩)) yb ?_;refine tY 1 zux (.slice (some ⟨lb,lo,none⟩) x.cl.length x.kc) yb ?_;refine tY 2 zt2 (.int .i64 (i:Int)) yb ?_;refine tY 3 zuA (.pointer (some ⟨lb,lo+i * 10,none⟩)) yb ?_;refine tY 4 zuQ (.pointer (some ⟨lb,lo+i * 10,none⟩)) yb ?_;refine tY 5 zuj (.int .i64 kk) yb ?_;refine tY 6 ztQ (.bool false) yb ?_;refine tY 7 ztJ (.bool false) yb ?_;refine tN 8 zvh yb ?_;refine tN 9 zvH yb ?_;refine tN 10 zro yb ?_;refine tN 11 zrR yb ?_;refine tN 12 zsj yb ?_;refine tN 13 zr3 yb ?_;refine tN 14 zre yb ?_;refine tN 15 zsd yb ?_;refine tN 16 zrq yb ?_;refine tY 17 zsb (.bool false) yb ?_;refine wpAnyH_done (by kernel_rfl) ?_ _
           have HB3:Hid (Below w0.heap.size w0 wr.drew):=zaa HB.out (zad _);go_wp2_with fail
           go_roundw
           case rel=>exact⟨i+1,by omega,by go_num,HB3.out,HA2.out⟩
           case measure=>simp[intOf] <;> omega
         ·have hii:¬ (i:Int)<(x.cl.length:Int):=by omega
          have HF:Hid (R=true):=HAll.out (λt ht=>by
           rw[HTy.out]at ht
           rcases List.mem_append.1 ht with ht | ht
           ·rcases List.mem_append.1 ht with ht | ht
            ·rcases List.mem_append.1 ht with ht | ht
             ·rcases List.mem_append.1 ht with ht | ht
              ·simp at ht;subst ht;exact HA0.out
              ·exact HAp.out t ht
             ·exact HAl.out t ht
            ·exact HAi.out t ht
           ·exact HA.out t (by rw[List.take_of_length_le (by omega)];exact ht))
          go_wp2_with fail
          go_ret;exact⟨zab HF.out.symm,zaa HB0.out HB.out⟩
end Go.Proofs.YtkedhjdipnhgdaaGreat
