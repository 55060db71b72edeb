import Derived.Test.YtkedhjdipnhgdaaGreatR41
namespace Go.Proofs.YtkedhjdipnhgdaaGreat
set_option maxHeartbeats 16000000
set_option linter.all false
open RowKit
attribute [local go_sem ↓] wp_at_zero wp_at_succ
theorem zqG {g:Img} {t:Int} {k:Nat} (hk:k<g.ms.length) (h:zaf g.ms[k].fl 2=false):zaL g t (k:Int)=(k:Int):=by
 unfold zaL zaI;rw[za4 hk,h,if_pos rfl]
theorem zh2 {g:Img} {t:Int} {k:Nat} (hk:k<g.ms.length) (h:zaf g.ms[k].fl 2=true) (h2:zag g g.ms[k].ow=0):zaL g t (k:Int)=zdG g t (k:Int):=by
 unfold zaL zaI;rw[za4 hk,za2 hk,h,if_neg (by decide),if_pos h2]
theorem zeu {g:Img} {t:Int} {k:Nat} (hk:k<g.ms.length) (h:zaf g.ms[k].fl 2=true) (h2:zag g g.ms[k].ow≠0):zaL g t (k:Int)=match zmb g t (k:Int) with | some j=>zdG g t j | none=>-1:=by
 unfold zaL zaI;rw[za4 hk,za2 hk,h,if_neg (by decide),if_neg h2]
 cases zmb g t (k:Int) <;> rfl
theorem zjo {g:Img} {t:Int} {k:Nat} {w:World} (hg:Im w g) (hi:imB g=true) (hk:k<g.ms.length) (hv:zaf g.ms[k].fl 2=false):Ans 33 #[zao g,.int .i64 t,.int .i64 k] w (.int .i64 (k:Int)):=by
 obtain⟨w0,tb,off,hma,h1,h2,HW0,HB0,HK,HI,HG⟩:=zaJ hg hk;have HH:Hid (Ans 42 #[mdV g.ms[k],.int .i64 2] w0 (.bool false)):=by rw[<- hv];exact (zaZ _ (zav hi hk) w0).2.1
 have hki:(k:Int)<(g.ms.length:Int):=by omega
 obtain⟨⟨c0,c1,c2,c3⟩,k0,k1,k2,k3,k4,k5,k6,k7,k8,k9,k10,k11⟩:=HK.out w0 (Below.refl _ _);unfold maxLen at h2;unfold zao;unfold mdV at HH;rw[hma];clear hg hi hv hma HI HG HK;generalize g.ms[k]=x at *;go_enter Tryz.func33,Tryz.ntmps33;go_wp2_with (rw[<- HW0.out])
 refine Calls.mono HH.out ?_;rintro e w1 ⟨rfl,hb1⟩;have HB1:Hid (Below w0.heap.size w0 w1):=hb1;clear hb1 HH c0 c1 c2 c3 k0 k1 k2 k3 k4 k5 k6 k7 k8 k9 k10 k11;go_wp2_with fail
 go_ret;exact⟨rfl,zaa HB0.out HB1.out⟩
abbrev zwX:Oper:=⟨some 28,.load 26 (.tmp 3),26,"slots.go:78",#[],none⟩
abbrev zxK:Oper:=⟨some 29,.move (.tmp 1),3,"slots.go:78",#[],none⟩
abbrev zwb:Oper:=⟨some 30,.call ⟨.value (.func 30),#[.tmp 28,.tmp 29],#[26,3]⟩,68,"slots.go:78",#[⟨0,.data⟩,⟨1,.data⟩],none⟩
abbrev zwL:Oper:=⟨some 31,.field 68 (.tmp 30) 1,40,"slots.go:78",#[⟨2,.data⟩],none⟩
abbrev zw6:Oper:=⟨some 32,.load 26 (.tmp 3),26,"slots.go:78",#[],none⟩
abbrev zw9:Oper:=⟨some 33,.move (.tmp 2),3,"slots.go:78",#[],none⟩
abbrev zxd:Oper:=⟨some 34,.call ⟨.value (.func 61),#[.tmp 32,.tmp 33],#[26,3]⟩,3,"slots.go:78",#[⟨4,.data⟩,⟨5,.data⟩,⟨2,.chain⟩],none⟩
abbrev zxq:Oper:=⟨some 35,.indexAddr 40 (.tmp 31) (.tmp 34),0,"slots.go:78",#[⟨3,.data⟩,⟨6,.data⟩],none⟩
abbrev zw2:Oper:=⟨some 36,.load 3 (.tmp 35),3,"slots.go:78",#[⟨7,.data⟩],none⟩
abbrev zw8:Oper:=⟨some 6,.assign (.tmp 36),3,"slots.go:78",#[⟨8,.data⟩,⟨6,.chain⟩,⟨0,.phase⟩,⟨1,.phase⟩,⟨2,.phase⟩,⟨3,.phase⟩,⟨4,.phase⟩,⟨5,.phase⟩,⟨6,.phase⟩,⟨7,.phase⟩,⟨8,.phase⟩],none⟩
set_option maxRecDepth 20000 in
theorem zeJ {g:Img} {t:Int} {k:Nat} {w:World} (hg:Im w g) (hw:zaY g=true) (hk:k<g.ms.length) (ht:zam t g.ts.length=true) (hv:zaf g.ms[k].fl 2=true) (ho:zag g g.ms[k].ow=0) (hu:g.ms[k].ow∈upL g t) :
 Ans 33 #[zao g,.int .i64 t,.int .i64 k] w (.int .i64 (zdG g t (k:Int))):=by
 obtain⟨w0,tb,off,hma,h1,h2,HW0,HB0,HK,HI,HG⟩:=zaJ hg hk;have hi:=(Wel.of hw).im;have hnm:zbT g (k:Int):=zai.2 (by omega)
 obtain⟨s,hs,hs1,hs2,_⟩:=zos hw ht hnm (show zaI g (k:Int)=true by unfold zaI;rw[za4 hk];exact hv) (by rw[za2 hk];exact hu)
 have HH:Hid (Ans 42 #[mdV g.ms[k],.int .i64 2] w0 (.bool true)):=by rw[<- hv];exact (zaZ _ (zav hi hk) w0).2.1
 have HKn:Hid (∀ W,Below w0.heap.size w0 W->Ans 16 #[zao g,.int .i64 g.ms[k].ow] W (.int .i64 0)):=λW hW=>by rw[<- ho];exact zaQ _ (HI.out W hW) (FlOk.of hi)
 have HTb:Hid (∀ W,Below w0.heap.size w0 W->Calls Tryz.prog 30 #[zao g,.int .i64 t] W λe w'=>∃ v,e=.returned (tbV g v)/\OwnI w' W.heap.size v (zaH g t)/\Below W.heap.size W w'):=λW hW=>zb9 hw ht (HI.out W hW)
 have HSo:Hid (∀ W,Below w0.heap.size w0 W->Ans 61 #[zao g,.int .i64 k] W (.int .i64 (s:Int))):=λW hW=>by rw[<- hs1];exact zhY (HI.out W hW) hw hnm
 have hki:(k:Int)<(g.ms.length:Int):=by omega
 obtain⟨⟨c0,c1,c2,c3⟩,k0,k1,k2,k3,k4,k5,k6,k7,k8,k9,k10,k11⟩:=HK.out w0 (Below.refl _ _);unfold maxLen at h2;unfold zao at HKn HTb HSo ⊢;unfold mdV at HH;unfold tbV at HTb;rw[hma]at HKn HTb HSo ⊢;clear hg hw hi hv ho hu hnm hs1 hma HI HG;generalize zdG g t (k:Int)=R at *;generalize zaH g t=T at *;have hsi:(s:Int)<(T.length:Int):=by omega
 have hfl:=zgs;generalize g.ms[k]=x at *;go_enter Tryz.func33,Tryz.ntmps33;go_wp2_with (rw[<- HW0.out])
 refine Calls.mono HH.out ?_;rintro e w1 ⟨rfl,hb1⟩;have HB1:Hid (Below w0.heap.size w0 w1):=hb1;clear hb1 HH c0 c1 c2 c3 k0 k1 k2 k3 k4 k5 k6 k7 k8 k9 k10 k11;obtain⟨⟨c0,c1,c2,c3⟩,k0,k1,_⟩:=HK.out w1 HB1.out;go_wp2_with fail
 have HK1:Hid (∀ W,Below w1.heap.size w1 W->(W.cell? ⟨w.heap.size,0,none⟩=some (.slice g.ta g.ts.length g.tc)/\W.cell? ⟨w.heap.size,1,none⟩=some (.slice g.fa g.fs.length g.fc)/\W.cell? ⟨w.heap.size,2,none⟩=some (.slice (some ⟨tb,off,none⟩) g.ms.length g.mc)/\W.cell? ⟨w.heap.size,3,none⟩=some (.int .i64 g.en))/\MtA W tb (off+k * 12) x):=λW hW=>HK.out W (zaa HB1.out hW)
 go_region_held3 (λW:World=>(W.cell? ⟨w.heap.size,0,none⟩=some (.slice g.ta g.ts.length g.tc)/\W.cell? ⟨w.heap.size,1,none⟩=some (.slice g.fa g.fs.length g.fc)/\W.cell? ⟨w.heap.size,2,none⟩=some (.slice (some ⟨tb,off,none⟩) g.ms.length g.mc)/\W.cell? ⟨w.heap.size,3,none⟩=some (.int .i64 g.en))/\MtA W tb (off+k * 12) x)
  (first | (exact HK1.out _ hB2) | (exact HK1.out _ (zad _)))
  (first | (go_at_call 16;refine (HKn.out _ (zaa HB1.out (zad _))).mono ?_;rintro e w2 ⟨rfl,hz2⟩;have hB2:Below w1.heap.size w1 w2:=zaa (zad _) hz2))
 rename_i hheld
 clear hheld HK1;have HB2:Hid (Below w0.heap.size w0 w2):=zaa HB1.out hB2;clear hz2 hB2 c0 c1 c2 c3 k0 k1;go_wp2_with fail
 refine wp_region_held_drew (S:=(λW=>(W.cell? ⟨w.heap.size,0,none⟩=some (.slice g.ta g.ts.length g.tc)/\W.cell? ⟨w.heap.size,1,none⟩=some (.slice g.fa g.fs.length g.fc)/\W.cell? ⟨w.heap.size,2,none⟩=some (.slice (some ⟨tb,off,none⟩) g.ms.length g.mc)/\W.cell? ⟨w.heap.size,3,none⟩=some (.int .i64 g.en))/\MtA W tb (off+k * 12) x)) (by kernel_rfl) (HK.out _ (zaa HB2.out (zad _))) (λyb=>?_)
 refine tY 0 zwX (.agg #[.slice g.ta g.ts.length g.tc,.slice g.fa g.fs.length g.fc,.slice (some ⟨tb,off,none⟩) g.ms.length g.mc,.int .i64 g.en]) yb ?_;refine tY 1 zxK (.int .i64 t) yb ?_;refine tY 4 zw6 (.agg #[.slice g.ta g.ts.length g.tc,.slice g.fa g.fs.length g.fc,.slice (some ⟨tb,off,none⟩) g.ms.length g.mc,.int .i64 g.en]) yb ?_;refine tY 5 zw9 (.int .i64 (k:Int)) yb ?_;refine wpAnyH_ready (rs:=[2]) (by kernel_rfl) (by simp) ?_
 refine AllReadyH.cons (o:=zwb) rfl (λK hK=>?_) AllReadyH.nil
 go_simp
 refine (HTb.out _ (zaa HB2.out (zad _))).mono ?_;rintro e w3 ⟨v,rfl,ho3,hb3⟩;obtain⟨g2,cap,hv,hcp1,hcp2,_,_,_⟩:=ho3.parts (by intro e;rw[e]at hs;simp at hs)
 subst hv;unfold maxLen at hcp2;have hB3:Below w0.heap.size w0 w3:=zaa (zaa HB2.out (zad _)) hb3
 try go_wp2_with fail
 refine hK.out _ _ (HK.out _ hB3) (λyb=>?_)
 clear hK K
 try simp only[Act.put,sA,s0,sS]
 refine tY 3 zwL (.slice (some ⟨g2,0,none⟩) T.length cap) yb ?_;refine wpAnyH_ready (rs:=[6]) (by kernel_rfl) (by simp) ?_
 refine AllReadyH.cons (o:=zxd) rfl (λK hK=>?_) AllReadyH.nil
 go_simp
 refine (HSo.out _ hB3).mono ?_;rintro e w4 ⟨rfl,hb4⟩;have hB4:Below w0.heap.size w0 w4:=zaa hB3 hb4;have c8:w4.cell? ⟨g2,s,none⟩=some (.int .i64 R):=by rw[hs2];exact IRow.cell (show IRow w4 w2.heap.size g2 cap T from ho3.later hb4) s hs
 try go_wp2_with fail
 refine hK.out _ _ (HK.out _ hB4) (λyb=>?_)
 clear hK K
 try simp only[Act.put,sA,s0,sS]
 refine tY 7 zxq (.pointer (some ⟨g2,s,none⟩)) yb ?_;refine wpAnyH_ready (rs:=[8]) (by kernel_rfl) (by simp) ?_
 refine AllReadyH.cons (o:=zw2) rfl (λK hK=>?_) AllReadyH.nil
 go_simp
 skip
 try go_wp2_with fail
 refine hK.out _ _ (HK.out _ hB4) (λyb=>?_)
 clear hK K
 try simp only[Act.put,sA,s0,sS]
 refine tY 9 zw8 (.int .i64 R) yb ?_;refine wpAnyH_done (by kernel_rfl) ?_ _
 have HB4:Hid (Below w0.heap.size w0 w4):=hB4;clear hb3 hB3 hb4 hB4 ho3 c8;go_wp2_with fail
 go_ret;exact⟨rfl,zaa HB0.out HB4.out⟩
theorem znW {g:Img} {U:List Int} {m:Int} {i j:Nat} (hi:i<U.length) (hj:j<(zaX g U[i]).length) (h1:∀ x∈(U.take i).flatMap (zaX g),smI g x m=false) (h2:∀ x∈(zaX g U[i]).take j,smI g x m=false) (h3:smI g (zaX g U[i])[j] m=true) :
 (U.flatMap (zaX g)).find? (λk=>smI g k m)=some (zaX g U[i])[j]:=by
 have e1:U.flatMap (zaX g)=(U.take i).flatMap (zaX g) ++ (zaX g U[i] ++ (U.drop (i+1)).flatMap (zaX g)):=by
  conv=>lhs;rw[<- List.take_append_drop i U,List.drop_eq_getElem_cons hi]
  rw[List.flatMap_append,List.flatMap_cons]
 have e2:zaX g U[i]=(zaX g U[i]).take j ++ ((zaX g U[i])[j] :: (zaX g U[i]).drop (j+1)):=by
  conv=>lhs;rw[<- List.take_append_drop j (zaX g U[i]),List.drop_eq_getElem_cons hj]
 rw[e1,List.find?_append,List.find?_eq_none.2 (λx hx=>by rw[h1 x hx];simp),Option.none_or,List.find?_append]
 have e3:(zaX g U[i]).find? (λk=>smI g k m)=some (zaX g U[i])[j]:=by
  conv=>lhs;rw[e2]
  rw[List.find?_append,List.find?_eq_none.2 (λx hx=>by rw[h2 x hx];simp),Option.none_or,List.find?_cons,h3]
 rw[e3];rfl
theorem zqa {g:Img} {U:List Int} {m:Int} (h:∀ x∈U.flatMap (zaX g),smI g x m=false):(U.flatMap (zaX g)).find? (λk=>smI g k m)=none:=List.find?_eq_none.2 (λx hx=>by rw[h x hx];simp)
set_option maxRecDepth 20000 in
theorem zk7 {g:Img} {t:Int} {k:Nat} {w:World} (hg:Im w g) (hw:zaY g=true) (hk:k<g.ms.length) (ht:zag g t=0) (hwf:Wf t) (hv:zaf g.ms[k].fl 2=true) (ho:zag g g.ms[k].ow≠0) :
 Ans 33 #[zao g,.int .i64 t,.int .i64 k] w (.int .i64 (zaL g t (k:Int))):=by
 obtain⟨w0,tb,off,hma,h1,h2,HW0,HB0,HK,HI,HG⟩:=zaJ hg hk;have W0:=Wel.of hw;have hi:=W0.im;have hln:=zax hi;have hn:zam t g.ts.length=true:=zbk (by rw[ht];decide)
 have HH:Hid (Ans 42 #[mdV g.ms[k],.int .i64 2] w0 (.bool true)):=by rw[<- hv];exact (zaZ _ (zav hi hk) w0).2.1
 have HKn:Hid (∀ W,Below w0.heap.size w0 W->Ans 16 #[zao g,.int .i64 g.ms[k].ow] W (.int .i64 (zag g g.ms[k].ow))):=λW hW=>zaQ _ (HI.out W hW) (FlOk.of hi)
 have HUp:Hid (∀ W,Below w0.heap.size w0 W->Calls Tryz.prog 60 #[zao g,.int .i64 t] W λe w'=>∃ v,e=.returned v/\OwnI w' W.heap.size v (upL g t)/\Below W.heap.size W w'):=λW hW=>ziE (HI.out W hW) hi hwf
 have HVr:Hid (∀ W u,Below w0.heap.size w0 W->Calls Tryz.prog 57 #[zao g,.int .i64 u] W λe w'=>∃ v,e=.returned v/\OwnI w' W.heap.size v (zaX g u)/\Below W.heap.size W w'):=λW u hW=>zed (HI.out W hW) hi
 have HRc:Hid (∀ W u j,Below w0.heap.size w0 W->u∈upL g t->j∈zaX g u->Ans 33 #[zao g,.int .i64 t,.int .i64 j] W (.int .i64 (zdG g t j))):=λW u j hW hu hj=>by
  obtain⟨q,hq,rfl,hqo,hqv⟩:=zeQ hj;refine zeJ (HI.out W hW) hw hq hn (by unfold zaI at hqv;rw[za4 hq]at hqv;exact hqv) (by rw[hqo];exact zhw W0 ht hu) (by rw[hqo];exact hu)
 have HAl:Hid (∀ W (q:Nat) (hq:q<g.ms.length),Below w0.heap.size w0 W->Ans 62 #[mdV g.ms[q],mdV g.ms[k]] W (.bool (smI g (q:Int) (k:Int)))):=λW q hq hW=>by
  rw[zgh hq hk];exact zeZ ((HI.out W hW).mok _ (List.getElem_mem hq)) ((HI.out W hW).mok _ (List.getElem_mem hk))
 have HMq:Hid (∀ W (q:Nat) (hq:q<g.ms.length),Below w0.heap.size w0 W->MtA W tb (off+q * 12) g.ms[q]):=λW q hq hW=>by
  obtain⟨tb2,off2,hma2,_,_,hc⟩:=(HI.out w0 (Below.refl _ _)).mth hk;rw[hma]at hma2
  cases hma2
  exact hc W hW q hq
 have HFo:Hid (∀ (i j:Nat) (hi:i<(upL g t).length) (hj:j<(zaX g (upL g t)[i]).length),(∀ x∈((upL g t).take i).flatMap (zaX g),smI g x (k:Int)=false)->(∀ x∈(zaX g (upL g t)[i]).take j,smI g x (k:Int)=false)->smI g (zaX g (upL g t)[i])[j] (k:Int)=true->zaL g t (k:Int)=zdG g t (zaX g (upL g t)[i])[j]):=λi j hi hj h1 h2 h3=>by
  rw[zeu hk hv ho];have:zmb g t (k:Int)=some (zaX g (upL g t)[i])[j]:=znW hi hj h1 h2 h3;rw[this]
 have HNo:Hid ((∀ x∈(upL g t).flatMap (zaX g),smI g x (k:Int)=false)->zaL g t (k:Int) = -1):=λh=>by
  rw[zeu hk hv ho];have:zmb g t (k:Int)=none:=zqa h;rw[this]
 have HVn:Hid (∀ u j,j∈zaX g u->∃ (q:Nat) (hq:q<g.ms.length),j=(q:Int)):=λu j hj=>by
  obtain⟨q,hq,e,_⟩:=zeQ hj;exact⟨q,hq,e⟩
 have hul:=zpd g t;have hvl:∀ u,(zaX g u).length<=64:=λu=>Nat.le_trans (zjq g u) hln.2.2
 have HVl:Hid (∀ u,(zaX g u).length<=64):=hvl;have hki:(k:Int)<(g.ms.length:Int):=by omega
 have hkn:(zag g g.ms[k].ow==0)=false:=by simpa using ho
 obtain⟨⟨c0,c1,c2,c3⟩,k0,k1,k2,k3,k4,k5,k6,k7,k8,k9,k10,k11⟩:=HK.out w0 (Below.refl _ _);unfold maxLen at h2;unfold zao at HKn HUp HVr HRc ⊢;unfold mdV at HH HAl;rw[hma]at HKn HUp HVr HRc ⊢;clear hg hw hi hv ho hma HI HG hwf ht hn W0 hvl;generalize zaL g t (k:Int)=R at *;generalize upL g t=U at *;generalize zag g g.ms[k].ow=kn at *;generalize g.ms[k]=x at *;go_enter Tryz.func33,Tryz.ntmps33;go_wp2_with (rw[<- HW0.out])
 refine Calls.mono HH.out ?_;rintro e w1 ⟨rfl,hb1⟩;have HB1:Hid (Below w0.heap.size w0 w1):=hb1;clear hb1 HH c0 c1 c2 c3 k0 k1 k2 k3 k4 k5 k6 k7 k8 k9 k10 k11;obtain⟨⟨c0,c1,c2,c3⟩,k0,k1,_⟩:=HK.out w1 HB1.out;go_wp2_with fail
 have HK1:Hid (∀ W,Below w1.heap.size w1 W->(W.cell? ⟨w.heap.size,0,none⟩=some (.slice g.ta g.ts.length g.tc)/\W.cell? ⟨w.heap.size,1,none⟩=some (.slice g.fa g.fs.length g.fc)/\W.cell? ⟨w.heap.size,2,none⟩=some (.slice (some ⟨tb,off,none⟩) g.ms.length g.mc)/\W.cell? ⟨w.heap.size,3,none⟩=some (.int .i64 g.en))/\MtA W tb (off+k * 12) x):=λW hW=>HK.out W (zaa HB1.out hW)
 go_region_held3 (λW:World=>(W.cell? ⟨w.heap.size,0,none⟩=some (.slice g.ta g.ts.length g.tc)/\W.cell? ⟨w.heap.size,1,none⟩=some (.slice g.fa g.fs.length g.fc)/\W.cell? ⟨w.heap.size,2,none⟩=some (.slice (some ⟨tb,off,none⟩) g.ms.length g.mc)/\W.cell? ⟨w.heap.size,3,none⟩=some (.int .i64 g.en))/\MtA W tb (off+k * 12) x)
  (first | (exact HK1.out _ hB2) | (exact HK1.out _ (zad _)))
  (first | (go_at_call 16;refine (HKn.out _ (zaa HB1.out (zad _))).mono ?_;rintro e w2 ⟨rfl,hz2⟩;have hB2:Below w1.heap.size w1 w2:=zaa (zad _) hz2))
 rename_i hheld
 clear hheld HK1;have HB2:Hid (Below w0.heap.size w0 w2):=zaa HB1.out hB2;clear hz2 hB2 c0 c1 c2 c3 k0 k1;obtain⟨⟨c0,c1,c2,c3⟩,_⟩:=HK.out w2 HB2.out;go_wp2_with fail
 refine Calls.mono (HUp.out w2 HB2.out) ?_;rintro e w3 ⟨uv,rfl,ho3,hb3⟩;have HB3:Hid (Below w0.heap.size w0 w3):=zaa HB2.out hb3;obtain⟨ua,uc,huv,_,huc⟩:=ho3.is.shape;have HUs:Hid (∀ W,Below w3.heap.size w3 W->Is W (.slice ua U.length uc) U):=λW hW=>by
  have:=ho3.is.later hW;rw[huv]at this;exact this
 subst huv;unfold maxLen at huc;clear ho3 hb3 c0 c1 c2 c3 HUp;go_wp2_with fail
 go_loopw [8,10,41] (λ_ _ z wr=>∃ i:Nat,i<=U.length/\z=.int .i64 i/\Hid (∀ x∈(U.take i).flatMap (zaX g),smI g x (k:Int)=false)/\Hid (Below w3.heap.size w3 wr)) (λ_ _ z _=>U.length - (intOf z).toNat)
 case atStart=>exact⟨0,Nat.zero_le _,rfl,(show ∀ x∈_,_ from by simp),Below.refl _ _⟩
 case round =>
  obtain⟨i,hil0,rfl,HA,HB⟩:=hrel;by_cases hil:i<U.length
  ·have hii:(i:Int)<(U.length:Int):=by omega
   obtain⟨lb,loff,hla,hlb,_,h6',h7',hcu⟩:=(HUs.out wr HB.out).at hil;have cA:=hcu i hil;subst hla;clear hcu;have hB0r:Below w0.heap.size w0 wr:=zaa HB3.out HB.out;obtain⟨⟨c0,c1,c2,c3⟩,_⟩:=HK.out wr hB0r;have HNx:Hid ((U.take (i+1)).flatMap (zaX g)=(U.take i).flatMap (zaX g) ++ zaX g U[i]):=zds hil;have HFq:Hid (∀ (j:Nat) (hj:j<(zaX g U[i]).length),(∀ x∈(zaX g U[i]).take j,smI g x (k:Int)=false)->smI g (zaX g U[i])[j] (k:Int)=true->R=zdG g t (zaX g U[i])[j]):=λj hj h2 h3=>HFo.out i j hil hj HA.out h2 h3
   have HRq:Hid (∀ W j,Below w0.heap.size w0 W->j∈zaX g U[i]->Ans 33 #[.agg #[.slice g.ta g.ts.length g.tc,.slice g.fa g.fs.length g.fc,.slice (some ⟨tb,off,none⟩) g.ms.length g.mc,.int .i64 g.en],.int .i64 t,.int .i64 j] W (.int .i64 (zdG g t j))):=λW j hW hj=>HRc.out W U[i] j hW (List.getElem_mem hil) hj
   have HVq:Hid (∀ j∈zaX g U[i],∃ (q:Nat) (hq:q<g.ms.length),j=(q:Int)):=λj hj=>HVn.out _ j hj
   have hvl:(zaX g U[i]).length<=64:=HVl.out _;have HVc:Hid _:=HVr.out wr U[i] hB0r;generalize zaX g U[i]=V at *;generalize U[i]=u at *;go_wp2_with fail
   refine Calls.mono HVc.out ?_;rintro e w4 ⟨vv,rfl,ho4,hb4⟩;have HB4:Hid (Below w3.heap.size w3 w4):=zaa HB.out hb4;obtain⟨va,vc,hvv,_,hvc⟩:=ho4.is.shape;have HVs:Hid (∀ W,Below w4.heap.size w4 W->Is W (.slice va V.length vc) V):=λW hW=>by
    have:=ho4.is.later hW;rw[hvv]at this;exact this
   subst hvv;unfold maxLen at hvc;clear ho4 hb4 c0 c1 c2 c3 cA HVc hB0r;go_wp2_with fail
   obtain⟨wo,hwo⟩:∃ W,W=wr:=⟨_,rfl⟩;subst hwo;go_loopw [10,49] (λ_ z wx=>∃ j:Nat,j<=V.length/\z=.int .i64 j/\Hid (∀ x∈V.take j,smI g x (k:Int)=false)/\Hid (Below w4.heap.size w4 wx)) (λ_ z _=>V.length - (intOf z).toNat)
   case atStart=>exact⟨0,Nat.zero_le _,rfl,(show ∀ x∈_,_ from by simp),Below.refl _ _⟩
   case round =>
    obtain⟨j,hjl0,rfl,HA2,HBx⟩:=hrel;by_cases hjl:j<V.length
    ·have hji:(j:Int)<(V.length:Int):=by omega
     obtain⟨mb,moff,hla,hlb,_,h8',h9',hcv⟩:=(HVs.out wr HBx.out).at hjl;have cB:=hcv j hjl;subst hla;clear hcv;have hB0r:Below w0.heap.size w0 wr:=zaa HB3.out (zaa HB4.out HBx.out);obtain⟨q,hq,hVq⟩:=HVq.out V[j] (List.getElem_mem hjl);have hqi:(q:Int)<(g.ms.length:Int):=by omega
     have HB0r:Hid (Below w0.heap.size w0 wr):=hB0r;have HAq:Hid (∀ W,Below w0.heap.size w0 W->Ans 62 #[.agg #[.string g.ms[q].nm,.int .i64 g.ms[q].ow,.int .i64 g.ms[q].fl,.slice g.ms[q].pa g.ms[q].ps.length g.ms[q].pc,.int .i64 g.ms[q].rt.1,.int .i64 g.ms[q].rt.2.1,.int .i64 g.ms[q].rt.2.2.1,.bool g.ms[q].rt.2.2.2,.slice g.ms[q].la g.ms[q].ls.length g.ms[q].lc,.int .i64 g.ms[q].mx,.slice g.ms[q].ca g.ms[q].co.length g.ms[q].cc,.slice g.ms[q].ka g.ms[q].cl.length g.ms[q].kc],.agg #[.string x.nm,.int .i64 x.ow,.int .i64 x.fl,.slice x.pa x.ps.length x.pc,.int .i64 x.rt.1,.int .i64 x.rt.2.1,.int .i64 x.rt.2.2.1,.bool x.rt.2.2.2,.slice x.la x.ls.length x.lc,.int .i64 x.mx,.slice x.ca x.co.length x.cc,.slice x.ka x.cl.length x.kc]] W (.bool (smI g (q:Int) (k:Int)))):=λW hW=>HAl.out W q hq hW
     have HKq:Hid (∀ W,Below wr.heap.size wr W->W.cell? ⟨w.heap.size,2,none⟩=some (.slice (some ⟨tb,off,none⟩) g.ms.length g.mc)/\MtA W tb (off+q * 12) g.ms[q]/\MtA W tb (off+k * 12) x):=λW hW=>⟨(HK.out W (zaa HB0r.out hW)).1.2.2.1,HMq.out W q hq (zaa HB0r.out hW),(HK.out W (zaa HB0r.out hW)).2⟩
     have HRj:Hid (∀ W,Below w0.heap.size w0 W->Ans 33 #[.agg #[.slice g.ta g.ts.length g.tc,.slice g.fa g.fs.length g.fc,.slice (some ⟨tb,off,none⟩) g.ms.length g.mc,.int .i64 g.en],.int .i64 t,.int .i64 (q:Int)] W (.int .i64 (zdG g t (q:Int)))):=λW hW=>by
      have:=HRq.out W V[j] hW (List.getElem_mem hjl);rw[hVq]at this;exact this
     have HFj:Hid (smI g (q:Int) (k:Int)=true->R=zdG g t (q:Int)):=λh=>by
      have:=HFq.out j hjl HA2.out (by rw[hVq];exact h)
      rw[hVq]at this;exact this
     have HNj:Hid (smI g (q:Int) (k:Int)=false->∀ x∈V.take (j+1),smI g x (k:Int)=false):=λh y hy=>by
      rw[List.take_succ_eq_append_getElem hjl]at hy
      rcases List.mem_append.1 hy with hy | hy
      ·exact HA2.out y hy
      ·simp at hy;subst hy;rw[hVq];exact h
     obtain⟨m2,n1,n2⟩:=HKq.out wr (Below.refl _ _);clear hB0r;rw[hVq]at cB;clear hVq;generalize zdG g t (q:Int)=D at *;generalize smI g (q:Int) (k:Int)=sm at *;generalize g.ms[q]=y at *;go_wp2_with fail
     go_region_held3 (λW:World=>W.cell? ⟨w.heap.size,2,none⟩=some (.slice (some ⟨tb,off,none⟩) g.ms.length g.mc)/\MtA W tb (off+q * 12) y/\MtA W tb (off+k * 12) x)
      (first | (exact HKq.out _ hB5) | (exact HKq.out _ (zad _)))
      (first | (go_at_call 62;refine (HAq.out _ (zaa HB0r.out (zad _))).mono ?_;rintro e w5 ⟨rfl,hz5⟩;have hB5:Below wr.heap.size wr w5:=zaa (zad _) hz5))
     rename_i hheld
     clear hheld;have HB5:Hid (Below wr.heap.size wr w5):=hB5;have HB05:Hid (Below w0.heap.size w0 w5):=zaa HB0r.out hB5;clear hz5 hB5 cB m2 n1 n2 HAq HKq
     cases sm with
     | true =>
      have HR2:Hid (R=D):=HFj.out (by trivial)
      obtain⟨⟨c0,c1,c2,c3⟩,_⟩:=HK.out w5 HB05.out;go_wp2_with fail
      refine Calls.mono (HRj.out w5 HB05.out) ?_;rintro e w6 ⟨rfl,hb6⟩;have HB6:Hid (Below w0.heap.size w0 w6):=zaa HB05.out hb6;clear hb6 c0 c1 c2 c3;go_wp2_with fail
      go_ret;exact⟨zak HR2.out.symm,zaa HB0.out HB6.out⟩
     | false =>
      have HN2:Hid (∀ x∈V.take (j+1),smI g x (k:Int)=false):=HNj.out (by trivial)
      go_wp2_with fail
      go_roundw
      case rel=>exact⟨j+1,by omega,by go_num,HN2.out,zaa HBx.out HB5.out⟩
      case measure=>simp[intOf];omega
    ·have hji:¬ (j:Int)<(V.length:Int):=by omega
     have HN2:Hid (∀ x∈(U.take (i+1)).flatMap (zaX g),smI g x (k:Int)=false):=λy hy=>by
      rw[HNx.out]at hy
      rcases List.mem_append.1 hy with hy | hy
      ·exact HA.out y hy
      ·exact HA2.out y (by rw[List.take_of_length_le (by omega)];exact hy)
     go_wp2_with fail
     go_roundw
     case rel=>exact⟨i+1,by omega,by go_num,HN2.out,zaa HB4.out HBx.out⟩
     case measure=>simp[intOf];omega
  ·have hii:¬ (i:Int)<(U.length:Int):=by omega
   have HR2:Hid (R = -1):=HNo.out (λy hy=>HA.out y (by rw[List.take_of_length_le (by omega)];exact hy))
   go_wp2_with fail
   go_ret;exact⟨zak HR2.out.symm,zaa HB0.out (zaa HB3.out HB.out)⟩
theorem zfW {g:Img} {t m:Int} {w:World} (hg:Im w g) (hw:zaY g=true) (hm:zbT g m) (ht:zag g t=0) (hwf:Wf t) (hb:zmn g t (zfq g m)=true):Ans 33 #[zao g,.int .i64 t,.int .i64 m] w (.int .i64 (zaL g t m)):=by
 obtain⟨k,hk,rfl⟩:=zbE hm;rw[za2 hk]at hb
 cases hv:zaf g.ms[k].fl 2 with
 | false=>rw[zqG hk hv];exact zjo hg (Wel.of hw).im hk hv
 | true =>
  by_cases ho:zag g g.ms[k].ow=0
  ·rw[zh2 hk hv ho];exact zeJ hg hw hk (zbk (by rw[ht];decide)) hv ho (zeW (Wel.of hw) hb (by rw[ho];decide))
  ·exact zk7 hg hw hk ht hwf hv ho
theorem zb1 {α:Type} (l:List α):((l.length:Int)==0)=decide (l=[]):=by
 rw[Bool.eq_iff_iff];simp
theorem zhJ {α:Type} (l:List α):decide ((0:Int)<(l.length:Int))=decide (l≠[]):=by
 rw[Bool.eq_iff_iff];simp only[decide_eq_true_iff];constructor
 ·intro h e;rw[e]at h;simp at h
 ·intro h;have:=List.length_pos_iff.2 h;omega
theorem zkd (x:MD) (hx:0<=x.fl/\x.fl<=31) (k:Int) (w:World):Ans 35 #[mdV x,.int .i64 k] w (.bool (zrM k x)):=by
 obtain⟨w0,HW0,HB0,HC,c0,c1,c2,c3,c4,c5,c6,c7,c8,c9,c10,c11⟩:=zcF w x;have HH:Hid (∀ W,Ans 42 #[mdV x,.int .i64 1] W (.bool (zaf x.fl 1))/\Ans 42 #[mdV x,.int .i64 2] W (.bool (zaf x.fl 2))/\Ans 42 #[mdV x,.int .i64 4] W (.bool (zaf x.fl 4))/\Ans 42 #[mdV x,.int .i64 8] W (.bool (zaf x.fl 8))/\Ans 42 #[mdV x,.int .i64 16] W (.bool (zaf x.fl 16))/\Ans 42 #[mdV x,.int .i64 12] W (.bool (zaf x.fl 4||zaf x.fl 8))):=λW=>zaZ x hx W
 have HR:Hid (zrM k x=if zaf x.fl 16=true then decide (k=0)&&(decide (x.rt.1=1)&&decide (x.fl=16)) else if zaf x.fl 2=true then !zaf x.fl 1&&decide (k≠1) else !(zaf x.fl 4||zaf x.fl 8)):=rfl
 unfold mdV at HH;generalize zrM k x=R at *;generalize zaf x.fl 1=b1 at *;generalize zaf x.fl 2=b2 at *;generalize zaf x.fl 4=b4 at *;generalize zaf x.fl 8=b8 at *;generalize zaf x.fl 16=b16 at *;clear hx;unfold mdV;go_enter Tryz.func35,Tryz.ntmps35;go_wp2_with (rw[<- HW0.out])
 refine Calls.mono (HH.out _).2.2.2.2.1 ?_;rintro e w1 ⟨rfl,hb1⟩;have HB1:Hid (Below w0.heap.size w0 w1):=hb1;clear hb1 c0 c1 c2 c3 c4 c5 c6 c7 c8 c9 c10 c11;obtain⟨c0,c1,c2,c3,c4,c5,c6,c7,c8,c9,c10,c11⟩:=HC.out w1 HB1.out
 cases b16 with
 | true =>
  have HR2:Hid (R=(decide (k=0)&&(decide (x.rt.1=1)&&decide (x.fl=16)))):=by show _=_;rw[HR.out];rfl
  go_wp2
  all_goals go_ret
  all_goals refine⟨zab ?_,zaa HB0.out HB1.out⟩
  all_goals (rw[HR2.out,Bool.eq_iff_iff];simp[*] <;> omega)
 | false =>
  go_wp2_with fail
  refine Calls.mono (HH.out _).2.1 ?_;rintro e w2 ⟨rfl,hb2⟩;have HB2:Hid (Below w0.heap.size w0 w2):=zaa HB1.out hb2;clear hb2 c0 c1 c2 c3 c4 c5 c6 c7 c8 c9 c10 c11;obtain⟨c0,c1,c2,c3,c4,c5,c6,c7,c8,c9,c10,c11⟩:=HC.out w2 HB2.out
  cases b2 with
  | true =>
   have HR2:Hid (R=(!b1&&decide (k≠1))):=by show _=_;rw[HR.out];rfl
   go_wp2_with fail
   refine Calls.mono (HH.out _).1 ?_;rintro e w3 ⟨rfl,hb3⟩;have HB3:Hid (Below w0.heap.size w0 w3):=zaa HB2.out hb3;clear hb3 c0 c1 c2 c3 c4 c5 c6 c7 c8 c9 c10 c11
   cases b1 with
   | true =>
    go_wp2
    all_goals go_ret
    all_goals exact⟨zab (by rw[HR2.out];rfl),zaa HB0.out HB3.out⟩
   | false =>
    go_wp2
    all_goals go_ret
    all_goals refine⟨zab ?_,zaa HB0.out HB3.out⟩
    all_goals (rw[HR2.out,Bool.eq_iff_iff];simp)
  | false =>
   have HR2:Hid (R=!(b4||b8)):=by show _=_;rw[HR.out];rfl
   go_wp2_with fail
   refine Calls.mono (HH.out _).2.2.2.2.2 ?_;rintro e w3 ⟨rfl,hb3⟩;have HB3:Hid (Below w0.heap.size w0 w3):=zaa HB2.out hb3;clear hb3 c0 c1 c2 c3 c4 c5 c6 c7 c8 c9 c10 c11;go_wp2_with fail
   go_ret;exact⟨zab (by rw[HR2.out];cases b4 <;> cases b8 <;> rfl),zaa HB0.out HB3.out⟩
theorem zmw (x:MD) (hx:0<=x.fl/\x.fl<=31) (w:World):Ans 36 #[mdV x] w (.bool (zsf x)):=by
 obtain⟨w0,HW0,HB0,HC,c0,c1,c2,c3,c4,c5,c6,c7,c8,c9,c10,c11⟩:=zcF w x;have HH:Hid (∀ W,Ans 42 #[mdV x,.int .i64 4] W (.bool (zaf x.fl 4))):=λW=>(zaZ x hx W).2.2.1
 have HR:Hid (zsf x=if zaf x.fl 4=true then decide (x.co=[])&&(decide (x.ls=[])&&(decide (x.cl=[])&&decide (x.mx=0))) else decide (x.co≠[])):=rfl
 have e1:((x.co.length:Int)==0)=decide (x.co=[]):=zb1 _;have e2:((x.ls.length:Int)==0)=decide (x.ls=[]):=zb1 _;have e3:((x.cl.length:Int)==0)=decide (x.cl=[]):=zb1 _;have HP:Hid (decide ((0:Int)<(x.co.length:Int))=decide (x.co≠[])):=zhJ _;unfold mdV at HH;generalize zsf x=R at *;generalize zaf x.fl 4=b4 at *;clear hx;unfold mdV;go_enter Tryz.func36,Tryz.ntmps36;go_wp2_with (rw[<- HW0.out])
 refine Calls.mono (HH.out _) ?_;rintro e w1 ⟨rfl,hb1⟩;have HB1:Hid (Below w0.heap.size w0 w1):=hb1;clear hb1 c0 c1 c2 c3 c4 c5 c6 c7 c8 c9 c10 c11;obtain⟨c0,c1,c2,c3,c4,c5,c6,c7,c8,c9,c10,c11⟩:=HC.out w1 HB1.out
 cases b4 with
 | true =>
  have HR2:Hid (R=(decide (x.co=[])&&(decide (x.ls=[])&&(decide (x.cl=[])&&decide (x.mx=0))))):=by show _=_;rw[HR.out];rfl
  generalize decide (x.co=[])=f1 at *;generalize decide (x.ls=[])=f2 at *;generalize decide (x.cl=[])=f3 at *;clear HP
  cases f1 with
  | false=>go_wp2;all_goals go_ret;all_goals exact⟨zab (by rw[HR2.out];rfl),zaa HB0.out HB1.out⟩
  | true =>
   cases f2 with
   | false=>go_wp2;all_goals go_ret;all_goals exact⟨zab (by rw[HR2.out];rfl),zaa HB0.out HB1.out⟩
   | true =>
    cases f3 with
    | false=>go_wp2;all_goals go_ret;all_goals exact⟨zab (by rw[HR2.out];rfl),zaa HB0.out HB1.out⟩
    | true =>
     go_wp2
     all_goals go_ret
     all_goals refine⟨zab ?_,zaa HB0.out HB1.out⟩
     all_goals (rw[HR2.out,Bool.eq_iff_iff];simp)
 | false =>
  have HR2:Hid (R=decide (x.co≠[])):=by show _=_;rw[HR.out];rfl
  clear e1 e2 e3;go_wp2
  all_goals go_ret
  all_goals exact⟨zab (by rw[HR2.out,<- HP.out,Bool.eq_iff_iff];simp),zaa HB0.out HB1.out⟩
theorem Im.typ {w:World} {g:Img} (hg:Im w g) {q:Nat} (hq:q<g.ts.length):∃ tb off,g.ta=some ⟨tb,off,none⟩/\g.ts.length<=g.tc/\g.tc<=maxLen/\∀ W,Below w.heap.size w W->W.cell? ⟨tb,off+q * 4+1,none⟩=some (.int .i64 g.ts[q].fl):=by
 obtain⟨tb,off,cap,hv,h1,h2,hb,hc⟩:=hg.ts.parts (by intro e;rw[e]at hq;simp at hq)
 simp only[Value.slice.injEq]at hv;obtain⟨ha,_,hcap⟩:=hv;subst hcap;exact⟨tb,off,ha,h1,h2,λW hW=>((show El tdE w tb (off+q * 4) g.ts[q] from hc q hq).below hW hb).cells_T.2.1⟩
theorem zce {g:Img} {q:Nat} {w:World} (hg:Im w g) (hi:imB g=true) (hq:q<g.ts.length):Ans 41 #[zao g,.int .i64 q] w (.bool (zaf (flI g (q:Int)) 4)):=by
 obtain⟨w0,HW0,HB0,HG,HC,HI,c0,c1,c2,c3⟩:=zaG hg;obtain⟨tb,off,hta,h1,h2,hc⟩:=(HI.out w0 (Below.refl _ _)).typ hq;have cf:=hc w0 (Below.refl _ _);rw[zek hq];have hfl:=(zig (FlOk.of hi _ (List.getElem_mem hq))).2.2.1;have HF:Hid ((bits .and .i64 g.ts[q].fl 4 != 0)=zaf g.ts[q].fl 4):=hfl;have hqi:(q:Int)<(g.ts.length:Int):=by omega
 unfold maxLen at h2;unfold zao;rw[hta]at HW0 c0 ⊢;clear hg hi HC HI HG hta hc hfl;generalize zaf g.ts[q].fl 4=R at *;generalize g.ts[q]=x at *;go_enter Tryz.func41,Tryz.ntmps41;go_wp2_with (rw[<- HW0.out])
 go_ret;exact⟨zab HF.out,HB0.out⟩
theorem zc6 {w:World} {g:Img} (hg:Im w g) (x:MD):∃ w0,Hid (w0=(w.alloc (.cells #[.slice g.ta g.ts.length g.tc,.slice g.fa g.fs.length g.fc,.slice g.ma g.ms.length g.mc,.int .i64 g.en] 26)).alloc (.cells #[.string x.nm,.int .i64 x.ow,.int .i64 x.fl,.slice x.pa x.ps.length x.pc,.int .i64 x.rt.1,.int .i64 x.rt.2.1,.int .i64 x.rt.2.2.1,.bool x.rt.2.2.2,.slice x.la x.ls.length x.lc,.int .i64 x.mx,.slice x.ca x.co.length x.cc,.slice x.ka x.cl.length x.kc] 51)) /\
 Hid (Below w.heap.size w w0)/\Hid (∀ W,Below w0.heap.size w0 W->Im4 W w.heap.size g/\Mt W (w.heap.size+1) x)/\Hid (∀ W,Below w0.heap.size w0 W->Im W g):=by
 obtain⟨w0,hw0⟩:∃ W,W=(w.alloc (.cells (imC g) 26)).alloc (.cells (zcN x) 51):=⟨_,rfl⟩;obtain⟨hb0,hat⟩:=zan hw0;refine⟨w0,hw0,hb0,λW hW=>⟨?_,Mt.of (hat W hW).2⟩,λW hW=>(hg.later hb0).later hW⟩
 have h:=(hat W hW).1;exact⟨h.cell 0,h.cell 1,h.cell 2,h.cell 3⟩
theorem zhy {g:Img} {x:MD} {w:World} (hg:Im w g) (hi:imB g=true) (hx:0<=x.fl/\x.fl<=31) (hn:zam x.ow g.ts.length=true):Ans 37 #[zao g,mdV x] w (.bool (zrl g x)):=by
 obtain⟨w0,HW0,HB0,HC,HI⟩:=zc6 hg x;have hln:=zax hi;have HH:Hid (∀ W,Ans 42 #[mdV x,.int .i64 4] W (.bool (zaf x.fl 4))):=λW=>(zaZ x hx W).2.2.1
 have HKn:Hid (∀ W,Below w0.heap.size w0 W->Ans 16 #[zao g,.int .i64 x.ow] W (.int .i64 (zag g x.ow))):=λW hW=>zaQ _ (HI.out W hW) (FlOk.of hi)
 have HMt:Hid (∀ W,Below w0.heap.size w0 W->Calls Tryz.prog 18 #[zao g,.int .i64 x.ow] W λe w'=>∃ v,e=.returned v/\OwnI w' W.heap.size v (zat g x.ow)/\Below W.heap.size W w'):=λW hW=>zbI (HI.out W hW) hi
 have HAb:Hid (∀ W,Below w0.heap.size w0 W->Ans 41 #[zao g,.int .i64 x.ow] W (.bool (zaf (flI g x.ow) 4))):=λW hW=>by
  obtain⟨q,hq,hql⟩:=zaK hn;rw[hq];exact zce (HI.out W hW) hi hql
 have HR:Hid (zrl g x=if zag g x.ow=2 then zaf x.fl 4 else if zag g x.ow=3 then zaf x.fl 4&&decide ((zat g x.ow).length=1) else if zag g x.ow=0 then !zaf x.fl 4||zaf (flI g x.ow) 4 else true):=rfl
 obtain⟨⟨b0,b1,b2,b3⟩,c0,c1,c2,c3,c4,c5,c6,c7,c8,c9,c10,c11⟩:=HC.out w0 (Below.refl _ _);have hll:(((zat g x.ow).length:Int)==1)=decide ((zat g x.ow).length=1):=by rw[Bool.eq_iff_iff];simp;omega
 unfold mdV at HH;unfold zao at HKn HMt HAb ⊢;unfold Im4 at HC;clear hg hi hx hn HI;generalize zrl g x=R at *;generalize zaf x.fl 4=b4 at *;generalize zag g x.ow=kn at *;generalize zaf (flI g x.ow) 4=ab at *;generalize decide ((zat g x.ow).length=1)=one at *;generalize zat g x.ow=M at *;unfold mdV;go_enter Tryz.func37,Tryz.ntmps37;go_wp2_with (rw[<- HW0.out])
 refine Calls.mono (HKn.out w0 (Below.refl _ _)) ?_;rintro e w1 ⟨rfl,hb1⟩;have HB1:Hid (Below w0.heap.size w0 w1):=hb1;clear hb1 b0 b1 b2 b3 c0 c1 c2 c3 c4 c5 c6 c7 c8 c9 c10 c11;obtain⟨⟨b0,b1,b2,b3⟩,c0,c1,c2,c3,c4,c5,c6,c7,c8,c9,c10,c11⟩:=HC.out w1 HB1.out;by_cases hk2:kn=2
 ·subst hk2;have HR2:Hid (R=b4):=by show _=_;rw[HR.out];rfl
  go_wp2_with fail
  refine Calls.mono (HH.out w1) ?_;rintro e w2 ⟨rfl,hb2⟩;have HB2:Hid (Below w0.heap.size w0 w2):=zaa HB1.out hb2;clear hb2 b0 b1 b2 b3 c0 c1 c2 c3 c4 c5 c6 c7 c8 c9 c10 c11;go_wp2_with fail
  go_ret;exact⟨zab HR2.out.symm,zaa HB0.out HB2.out⟩
 ·have e2:(kn==2)=false:=by simpa using hk2
  by_cases hk3:kn=3
  ·subst hk3;have HR2:Hid (R=(b4&&one)):=by show _=_;rw[HR.out];rfl
   clear hk2 e2;go_wp2_with fail
   refine Calls.mono (HH.out w1) ?_;rintro e w2 ⟨rfl,hb2⟩;have HB2:Hid (Below w0.heap.size w0 w2):=zaa HB1.out hb2;clear hb2 b0 b1 b2 b3 c0 c1 c2 c3 c4 c5 c6 c7 c8 c9 c10 c11
   cases b4 with
   | false =>
    go_wp2_with fail
    go_ret;exact⟨zab (by rw[HR2.out];rfl),zaa HB0.out HB2.out⟩
   | true =>
    obtain⟨⟨b0,b1,b2,b3⟩,c0,c1,c2,c3,c4,c5,c6,c7,c8,c9,c10,c11⟩:=HC.out w2 HB2.out;go_wp2_with fail
    refine Calls.mono (HMt.out w2 HB2.out) ?_;rintro e w3 ⟨mv,rfl,hm3,hb3⟩;have HB3:Hid (Below w0.heap.size w0 w3):=zaa HB2.out hb3;obtain⟨ma,mc,hmv,_,_⟩:=hm3.is.shape;subst hmv;clear hb3 hm3 b0 b1 b2 b3 c0 c1 c2 c3 c4 c5 c6 c7 c8 c9 c10 c11;go_wp2_with fail
    go_ret;exact⟨zab (by rw[HR2.out];rfl),zaa HB0.out HB3.out⟩
  ·have e3:(kn==3)=false:=by simpa using hk3
   by_cases hk0:kn=0
   ·subst hk0;have HR2:Hid (R=(!b4||ab)):=by show _=_;rw[HR.out];rfl
    clear hk2 e2 hk3 e3;go_wp2_with fail
    refine Calls.mono (HH.out w1) ?_;rintro e w2 ⟨rfl,hb2⟩;have HB2:Hid (Below w0.heap.size w0 w2):=zaa HB1.out hb2;clear hb2 b0 b1 b2 b3 c0 c1 c2 c3 c4 c5 c6 c7 c8 c9 c10 c11
    cases b4 with
    | false =>
     go_wp2_with fail
     go_ret;exact⟨zab (by rw[HR2.out];rfl),zaa HB0.out HB2.out⟩
    | true =>
     obtain⟨⟨b0,b1,b2,b3⟩,c0,c1,c2,c3,c4,c5,c6,c7,c8,c9,c10,c11⟩:=HC.out w2 HB2.out;go_wp2_with fail
     refine Calls.mono (HAb.out w2 HB2.out) ?_;rintro e w3 ⟨rfl,hb3⟩;have HB3:Hid (Below w0.heap.size w0 w3):=zaa HB2.out hb3;clear hb3 b0 b1 b2 b3 c0 c1 c2 c3 c4 c5 c6 c7 c8 c9 c10 c11;go_wp2_with fail
     go_ret;exact⟨zab (by rw[HR2.out];rfl),zaa HB0.out HB3.out⟩
   ·have e0:(kn==0)=false:=by simpa using hk0
    have HR2:Hid (R=true):=by show _=_;rw[HR.out,if_neg hk2,if_neg hk3,if_neg hk0]
    clear hk2 hk3 hk0;go_wp2_with fail
    go_ret;exact⟨zab HR2.out.symm,zaa HB0.out HB1.out⟩
end Go.Proofs.YtkedhjdipnhgdaaGreat
