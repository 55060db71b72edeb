import Derived.Test.YtkedhjdipnhgdaaGreatR18
namespace Go.Proofs.YtkedhjdipnhgdaaGreat
set_option maxHeartbeats 16000000
set_option linter.all false
open Go.RowKit Go.Maps
attribute [local go_sem ↓] wp_at_zero wp_at_succ
structure Steps (P:Program) (w:World) (f:FuncId) (bs cs:Array Value) (n:Nat) (st:Int->List Int):Prop where
 enter:∀ args W,(callFunc f args).run P W=.ok (.enter f args) W
 steps:∀ W,Below w.heap.size w W->∀ t,zam t n=true->Calls P f (bs.push (.int .i64 t) ++ cs) W λe w'=>∃ v,e=.returned v/\Is w' v (st t)/\Below W.heap.size W w'/\(st t≠[]->∀ k,v.ownBlock=some k->k<w.heap.size∨W.heap.size<=k)
 wf:∀ t,zam t n=true->∀ x∈st t,Wf x
theorem Steps.later {P:Program} {w w':World} {f:FuncId} {bs cs:Array Value} {n:Nat} {st:Int->List Int} (h:Steps P w f bs cs n st) (hb:Below w.heap.size w w'):Steps P w' f bs cs n st:=
 ⟨h.enter,λW hW t ht=>(h.steps W (zaa hb hW) t ht).mono λe w2 ⟨v,h1,h2,h3,h4⟩=>⟨v,h1,h2,h3,λhne k hk=>(h4 hne k hk).imp (λh=>Nat.lt_of_lt_of_le h hb.size) id⟩,h.wf⟩
theorem Met.start {w W:World} {g:Img} (hg:Im w g) (hW:W=(((w.alloc (.cells (imC g) 26)).alloc (.cells #[.slice none 0 0] 40)).alloc (.map #[] 0)).alloc (.cells #[.map (some (w.heap.size+1+1))] 111)) :
 Met w W w.heap.size (w.heap.size+1) (w.heap.size+1+1+1) (w.heap.size+1+1) g (.slice none 0 0) []:=by
 subst hW;have hb:Below w.heap.size w _:=zbN (zbN (zbN (zac w (imC g) 26) (.cells #[.slice none 0 0] 40)) (.map #[] 0)) (.cells #[.map (some (w.heap.size+1+1))] 111);refine⟨hg,hb,(((At.made w _ _).next _).next _).next _, ?_, ?_,OwnI.nil _ _, ?_,by omega⟩
 ·have:=((At.made (w.alloc (.cells (imC g) 26)) #[.slice none 0 0] 40).next (.map #[] 0)).next (.cells #[.map (some (w.heap.size+1+1))] 111)
  simpa using this
 ·have:=At.made (((w.alloc (.cells (imC g) 26)).alloc (.cells #[.slice none 0 0] 40)).alloc (.map #[] 0)) #[.map (some (w.heap.size+1+1))] 111;simpa using this
 ·have:=(World.ownsMap_made ((w.alloc (.cells (imC g) 26)).alloc (.cells #[.slice none 0 0] 40)) Tryz.prog 3 (unitElem (H:=Unit))).alloc (.cells #[.map (some (w.heap.size+1+1))] 111);simpa[zpM,setOf]using this
theorem Is.lt {w:World} {v:Value} {l:List Int} (h:Is w v l) (hne:l≠[]):∀ k,v.ownBlock=some k->k<w.heap.size:=by
 obtain⟨b,off,cap,rfl,_,_,hb,_⟩:=h.parts hne;intro k hk;simp[Value.ownBlock]at hk;omega
set_option maxRecDepth 100000 in
theorem zgn {w:World} {g:Img} {tv:Value} {ts:List Int} {f:FuncId} {bs cs:Array Value} {st:Int->List Int} (hg:Im w g) (hn:g.ts.length<=1000) (hI:Is w tv ts) (hb:ts≠[]->∀ k,tv.ownBlock=some k->k<w.heap.size) (hW:∀ t∈ts,Wf t)
 (hf:Steps Tryz.prog w f bs cs g.ts.length st) :
 Calls Tryz.prog 68 #[imV g,tv,.func (.func f) bs cs] w λe w'=>∃ v,e=.returned v/\OwnI w' w.heap.size v (zau g.ts.length st ts)/\Below w.heap.size w w':=by
 have hmm:=@run_makeMap Tryz.prog;have hen:=hf.enter;have HF:Hid (Steps Tryz.prog w f bs cs g.ts.length st):=hf;obtain⟨W0,hW0⟩:∃ W,W=(((w.alloc (.cells (imC g) 26)).alloc (.cells #[.slice none 0 0] 40)).alloc (.map #[] 0)).alloc (.cells #[.map (some (w.heap.size+1+1))] 111):=⟨_,rfl⟩;have hM0:=Met.start hg hW0;have HC0:Hid (Calls Tryz.prog 92 #[tv,.pointer (some ⟨w.heap.size+1+1+1,0,none⟩),.pointer (some ⟨w.heap.size,0,none⟩),.pointer (some ⟨w.heap.size+1,0,none⟩)] W0 λe w' =>
  e=.returned (.tuple #[])/\∃ lv',Met w w' w.heap.size (w.heap.size+1) (w.heap.size+1+1+1) (w.heap.size+1+1) g lv' (zaq g.ts.length [] ts)):=
  zlq hM0 (Nd.nil _) hn (Sl.later hI hM0.bel) (λhne k hk=>⟨by have:=hb hne k hk;have:=hM0.bel.size;omega,by have:=hb hne k hk;omega,by have:=hb hne k hk;omega,by simp[Value.ownBlock]⟩) hW
 have HW0:Hid (W0=_):=hW0;unfold imC at HW0;clear hf hM0 hW0 hg hI hb hW;unfold imV;go_enter Tryz.func68,Tryz.ntmps68;go_wp2_with fail
 rw[<- HW0.out];refine Calls.mono HC0.out ?_;rintro e w1 ⟨rfl,lv0,hM1⟩;have HM1:Hid (Met w w1 w.heap.size (w.heap.size+1) (w.heap.size+1+1+1) (w.heap.size+1+1) g lv0 (zaq g.ts.length [] ts)):=hM1;clear HC0 HW0 hM1 hmm;go_wp2_with fail
 go_loopw [10] (λz wr=>∃ q:Nat,z=.int .i64 q/\∃ lv L,q<=L.length/\Hid (Met w wr w.heap.size (w.heap.size+1) (w.heap.size+1+1+1) (w.heap.size+1+1) g lv L)/\Hid (Nd g.ts.length 0 L)/\Hid (goL g.ts.length st (g.ts.length+1 - q) q L=zau g.ts.length st ts)) (λz _=>g.ts.length+1 - (intOf z).toNat)
 case atStart=>exact⟨0,rfl,lv0,_,Nat.zero_le _,HM1.out,(Nd.nil _).come,rfl⟩
 case round =>
  obtain⟨q,rfl,lv,L,hq,HM,HL,HG⟩:=hrel;have hLl:=HL.out.len;have hM:=HM.out;by_cases hql:q<L.length
  ·obtain⟨gl,capl,hlv,p1,p2,p3,p4,p5⟩:=hM.own.parts (by intro e;rw[e]at hql;simp at hql)
   have cl:=hM.l.cell0;have cq:=p5 q hql;unfold maxLen at p2;have hnum:=HL.out.1 _ (List.getElem_mem hql);have HG2:Hid (goL g.ts.length st (g.ts.length+1 - (q+1)) (q+1) (zaq g.ts.length L (st L[q]))=zau g.ts.length st ts):=by
    show _=_;rw[<- HG.out,show g.ts.length+1 - q=(g.ts.length+1 - (q+1))+1 by omega,zdt hql]
   have HSt:=HF.out.steps wr hM.bel L[q] hnum;have HWf:Hid (∀ x∈st L[q],Wf x):=HF.out.wf _ hnum;generalize L[q]=t at *;subst hlv;have HStc:Hid _:=HSt;clear hM p5 HSt hnum HG;go_wp2_with fail
   refine Calls.mono HStc.out ?_;rintro e w2 ⟨v,rfl,hv,hb2,hk⟩;have HCm:Hid (Calls Tryz.prog 92 #[v,.pointer (some ⟨w.heap.size+1+1+1,0,none⟩),.pointer (some ⟨w.heap.size,0,none⟩),.pointer (some ⟨w.heap.size+1,0,none⟩)] w2 λe w' =>
    e=.returned (.tuple #[])/\∃ lv',Met w w' w.heap.size (w.heap.size+1) (w.heap.size+1+1+1) (w.heap.size+1+1) g lv' (zaq g.ts.length L (st t))):=by
    have hMr:=HM.out;have h1:=hMr.map.lt;have h2:=hMr.l.lt;refine zlq (hMr.later hb2) HL.out hn hv (λhne k hk2=>?_) HWf.out
    have h3:=hk hne k hk2;refine⟨hv.lt hne k hk2,by omega,by omega,λe=>?_⟩
    have h4:=hMr.own.block k e;omega
   clear hv hb2 hk HStc cl cq;go_wp2_with fail
   refine Calls.mono HCm.out ?_;rintro e w3 ⟨rfl,lv3,hM3⟩;have HM3:Hid (Met w w3 w.heap.size (w.heap.size+1) (w.heap.size+1+1+1) (w.heap.size+1+1) g lv3 (zaq g.ts.length L (st t))):=hM3;clear HCm hM3;go_wp2_with fail
   go_roundw
   case rel=>exact⟨q+1,by go_num,lv3,_,by have:=(zbt g.ts.length (st t) L).length_le;omega,HM3.out,HL.out.come,HG2.out⟩
   case measure=>simp[intOf];omega
  ·obtain⟨la,lc,hlv,_,_⟩:=(show Is wr lv L from hM.own.is).shape
   have HE:Hid (L=zau g.ts.length st ts):=by
    show _=_;rw[<- HG.out,zd0 hql]
   have cl:=hM.l.cell0;subst hlv;clear hM;go_wp2_with fail
   go_ret;exact⟨_,rfl,by rw[<- HE.out];exact HM.out.own,HM.out.bel⟩
end Go.Proofs.YtkedhjdipnhgdaaGreat

namespace Go.Proofs.YtkedhjdipnhgdaaGreat
set_option maxHeartbeats 16000000
set_option linter.all false
open RowKit
attribute [local go_sem ↓] wp_at_zero wp_at_succ
theorem zax {g:Img} (h:imB g=true):g.ts.length<=32/\g.fs.length<=64/\g.ms.length<=64:=by
 unfold imB at h;simp only[Bool.and_eq_true,decide_eq_true_iff]at h;exact⟨h.1.1.1.1.1.1,h.1.1.1.1.1.2,h.1.1.1.1.2⟩
theorem zbD {g:Img} (h:imB g=true) {q:Nat} (hq:q<g.ts.length):(g.ts[q].ex = -1∨zam g.ts[q].ex g.ts.length=true)/\g.ts[q].fs.length<=4/\∀ x∈g.ts[q].fs,zam x g.ts.length=true:=by
 unfold imB at h;simp only[Bool.and_eq_true]at h;have:=List.all_eq_true.1 h.1.1.1.2 _ (List.getElem_mem hq);unfold tdB at this;simp only[Bool.and_eq_true,Bool.or_eq_true,decide_eq_true_iff,List.all_eq_true]at this;exact⟨this.1.1.2,this.1.2,this.2⟩
theorem zq1 {t:Int} (h : -1000<=t/\t<=1000):Wf t:=by unfold Wf;exact WalkArith.wf_i64 (by omega)
theorem zeG {t:Int} {n:Nat} (hn:n<=1000) (h:zam t n=true):Wf t:=zq1 (by rw[zai]at h;omega)
theorem OwnI.mono {w:World} {base base':Nat} {v:Value} {l:List Int} (h:OwnI w base v l) (hb:base'<=base):OwnI w base' v l:=by
 obtain⟨h1,h2⟩:=h;refine⟨h1, ?_⟩
 rcases h2 with h2 | ⟨g,cap,cur,rfl,hg,r⟩
 ·exact Or.inl h2
 ·exact Or.inr ⟨g,cap,cur,rfl,Nat.le_trans hb hg,r⟩
theorem OwnI.one (w:World) (t:Int):OwnI (w.alloc (.cells #[.int .i64 t] 3)) w.heap.size (.slice (some ⟨w.heap.size,0,none⟩) 1 1) [t]:=
 OwnV.lit w w.heap.size 3 (zc4 [t]) _ 1 (Nat.le_refl _) rfl rfl (by simp[zc4,maxLen])
theorem Is.cell1 {W:World} {k:Nat} {t:Int} (h:At W k #[.int .i64 t] 3):Is W (.slice (some ⟨k,0,none⟩) 1 1) [t]:=
 ⟨_,1,rfl,Nat.le_refl _,by simp[maxLen],λ_=>⟨k,0,rfl,h.lt,λi hi=>by
   have:i=0:=by simp[zc4]at hi;exact hi
   subst this;rw[h.cell];rfl⟩⟩
theorem zfD {g:Img} {gb q:Nat} {w:World} (hG:GB w gb g) (hq:q<g.ts.length) :
 Calls Tryz.prog 101 #[.int .i64 q,.pointer (some ⟨gb,0,none⟩)] w λe w'=>e=.returned (.slice (some ⟨w.heap.size,0,none⟩) 1 1)/\w'=w.alloc (.cells #[.int .i64 g.ts[q].ex] 3):=by
 obtain⟨tb,off,hta,htb,h1,h2,k0,k1,k2,k3⟩:=hG.type hq;obtain⟨c0,c1,c2,c3⟩:=hG.cells;unfold maxLen at h2;rw[hta]at c0;clear hta hG;generalize g.ts[q].ex=x at *;go_enter Tryz.func101,Tryz.ntmps101;go_wp2_with fail
 go_ret;exact⟨rfl,rfl⟩
theorem zi2 {g:Img} {gb q:Nat} {w:World} (hG:GB w gb g) (hq:q<g.ts.length) :
 Calls Tryz.prog 93 #[.int .i64 q,.pointer (some ⟨gb,0,none⟩)] w λe w'=>e=.returned (.slice g.ts[q].fa g.ts[q].fs.length g.ts[q].fc)/\w'=w:=by
 obtain⟨tb,off,hta,htb,h1,h2,k0,k1,k2,k3⟩:=hG.type hq;obtain⟨c0,c1,c2,c3⟩:=hG.cells;unfold maxLen at h2;rw[hta]at c0;clear hta hG;go_enter Tryz.func93,Tryz.ntmps93;go_wp2_with fail
 go_ret;exact⟨rfl,rfl⟩
theorem zqx {g:Img} {gb:Nat} {w:World} (hG:GB w gb g) (hi:imB g=true):Steps Tryz.prog w 101 #[] #[.pointer (some ⟨gb,0,none⟩)] g.ts.length (upS g):=by
 refine⟨zah Tryz.func101 (by kernel_rfl) rfl,λW hW t ht=>?_,λt ht x hx=>?_⟩
 ·obtain⟨q,rfl,hq⟩:=zaK ht;have:=zfD (hG.later hW) hq;refine (show Calls Tryz.prog 101 _ W _ by simpa using this).mono ?_
  rintro e w' ⟨rfl,rfl⟩;refine⟨_,rfl, ?_,zac _ _ _,λ_ k hk=>Or.inr (by simp[Value.ownBlock]at hk;omega)⟩
  unfold upS;rw[zbi hq];exact (OwnI.one W _).is
 ·obtain⟨q,rfl,hq⟩:=zaK ht;unfold upS at hx;rw[zbi hq]at hx;simp at hx;subst hx;have hl:=(zax hi).1
  rcases (zbD hi hq).1 with h | h
  ·rw[h];exact zq1 (by omega)
  ·exact zeG (by omega) h
theorem zip {g:Img} {gb:Nat} {w:World} (hG:GB w gb g) (hi:imB g=true):Steps Tryz.prog w 93 #[] #[.pointer (some ⟨gb,0,none⟩)] g.ts.length (fsI g):=by
 refine⟨zah Tryz.func93 (by kernel_rfl) rfl,λW hW t ht=>?_,λt ht x hx=>?_⟩
 ·obtain⟨q,rfl,hq⟩:=zaK ht;have:=zi2 (hG.later hW) hq;have hi0:Is w (.slice g.ts[q].fa g.ts[q].fs.length g.ts[q].fc) g.ts[q].fs:=(hG.im.tok _ (List.getElem_mem hq)).toIs;refine (show Calls Tryz.prog 93 _ W _ by simpa using this).mono ?_
  rintro e w' ⟨rfl,rfl⟩;rw[zef hq];exact⟨_,rfl,Sl.later hi0 hW,Below.refl _ _,λhne k hk=>Or.inl (hi0.lt hne k hk)⟩
 ·obtain⟨q,rfl,hq⟩:=zaK ht;rw[zef hq]at hx;exact zeG (by have:=(zax hi).1;omega) ((zbD hi hq).2.2 x hx)
theorem zgy {g:Img} (w:World) :
 Calls Tryz.prog 83 #[imV g] w λe w'=>e=.returned (.func (.func 101) #[] #[.pointer (some ⟨w.heap.size,0,none⟩)])/\w'=w.alloc (.cells (imC g) 26):=by
 unfold imV imC;go_enter Tryz.func83,Tryz.ntmps83;go_wp2_with fail
 go_ret;exact⟨rfl,rfl⟩
theorem ze5 {g:Img} (w:World) :
 Calls Tryz.prog 69 #[imV g] w λe w'=>e=.returned (.func (.func 93) #[] #[.pointer (some ⟨w.heap.size,0,none⟩)])/\w'=w.alloc (.cells (imC g) 26):=by
 unfold imV imC;go_enter Tryz.func69,Tryz.ntmps69;go_wp2_with fail
 go_ret;exact⟨rfl,rfl⟩
theorem At.at {W:World} {k k':Nat} {C:Array Value} {t:TypeId} (h:At W k C t) (e:k'=k):At W k' C t:=by rw[e];exact h
theorem ziE {g:Img} {t:Int} {w:World} (hg:Im w g) (hi:imB g=true) (hw:Wf t) :
 Calls Tryz.prog 60 #[imV g,.int .i64 t] w λe w'=>∃ v,e=.returned v/\OwnI w' w.heap.size v (upL g t)/\Below w.heap.size w w':=by
 obtain⟨w0,hw0⟩:∃ W,W=w.alloc (.cells (imC g) 26):=⟨_,rfl⟩;have HW0:Hid (w0=_):=hw0;obtain⟨hb0,hgb⟩:=GB.made hg hw0;have HB0:Hid (Below w.heap.size w w0):=hb0;have HG:Hid (∀ W,Below w0.heap.size w0 W->GB W w.heap.size g):=λW hW=>hgb.later hW
 have HK:Hid (∀ W,Below w0.heap.size w0 W->W.cell? ⟨w.heap.size,0,none⟩=some (.slice g.ta g.ts.length g.tc)/\W.cell? ⟨w.heap.size,1,none⟩=some (.slice g.fa g.fs.length g.fc)/\W.cell? ⟨w.heap.size,2,none⟩=some (.slice g.ma g.ms.length g.mc)/\W.cell? ⟨w.heap.size,3,none⟩=some (.int .i64 g.en)):=λW hW=>(hgb.later hW).cells
 have HGO:Hid (∀ W kb ks,Below w0.heap.size w0 W->At W kb (imC g) 26->At W ks #[.int .i64 t] 3->Calls Tryz.prog 68 #[.agg (imC g),.slice (some ⟨ks,0,none⟩) 1 1,.func (.func 101) #[] #[.pointer (some ⟨kb,0,none⟩)]] W λe w'=>∃ v,e=.returned v/\OwnI w' w.heap.size v (upL g t)/\Below w0.heap.size w0 w'):=by
  intro W kb ks hbW hkb hks;have hbw:=zaa hb0 hbW;have hGB:GB W kb g:=⟨hkb,hg.later hbw⟩;refine (zgn hGB.im (by have:=(zax hi).1;omega) (Is.cell1 hks) (λ_ k hk=>by simp[Value.ownBlock]at hk;have:=hks.lt;omega) (λx hx=>by simp at hx;subst hx;exact hw) (zqx hGB hi)).mono ?_
  rintro e w' ⟨v,rfl,ho,hb⟩;rw[zpp]at ho;exact⟨v,rfl,ho.mono hbw.size,zaa hbW hb⟩
 have HBE:Hid (∀ W,Calls Tryz.prog 83 #[.agg (imC g)] W λe w'=>e=.returned (.func (.func 101) #[] #[.pointer (some ⟨W.heap.size,0,none⟩)])/\w'=W.alloc (.cells (imC g) 26)):=λW=>zgy W
 obtain⟨c0,c1,c2,c3⟩:=hgb.cells;unfold imC at HW0;clear hw0 hb0 hgb hg;unfold imV;go_enter Tryz.func60,Tryz.ntmps60;go_wp2_with (rw[<- HW0.out])
 go_region_held3 (λW=>W.cell? ⟨w.heap.size,0,none⟩=some (.slice g.ta g.ts.length g.tc)/\W.cell? ⟨w.heap.size,1,none⟩=some (.slice g.fa g.fs.length g.fc)/\W.cell? ⟨w.heap.size,2,none⟩=some (.slice g.ma g.ms.length g.mc)/\W.cell? ⟨w.heap.size,3,none⟩=some (.int .i64 g.en))
  (first | (exact HK.out _ hb2) | (exact HK.out _ (zad _)) | (exact HK.out _ (zbN (zad _) _)) | (exact HK.out _ (zbN (zbN (zad _) _) _)))
  (first | (go_at_call 83;refine (HBE.out _).mono ?_;rintro e w1 ⟨rfl,hz1⟩;subst hz1) | (go_at_call 68;refine (HGO.out _ _ _ (zbN (zbN (zad _) _) _) (by first | exact At.at (At.made _ _ _) (by simp) | exact At.at ((At.made _ _ _).next _) (by simp)) (by first | exact At.at (At.made _ _ _) (by simp) | exact At.at ((At.made _ _ _).next _) (by simp))).mono ?_;rintro e w2 ⟨v,rfl,ho2,hb2⟩))
 all_goals rename_i hheld
 all_goals clear hheld
 all_goals go_wp2_with fail
 all_goals go_ret
 all_goals exact⟨_,rfl,ho2,zaa HB0.out hb2⟩
end Go.Proofs.YtkedhjdipnhgdaaGreat
