import Derived.Test.YtkedhjdipnhgdaaGreatR36
namespace Go.Proofs.YtkedhjdipnhgdaaGreat
set_option maxHeartbeats 16000000
set_option linter.all false
open RowKit
attribute [local go_sem ↓] wp_at_zero wp_at_succ
theorem GB.mth {w:World} {gb:Nat} {g:Img} (hG:GB w gb g) {q:Nat} (hq:q<g.ms.length):∃ tb off,g.ma=some ⟨tb,off,none⟩/\g.ms.length<=g.mc/\g.mc<=maxLen/\g.ms[q].ok w /\
 (∀ W,Below w.heap.size w W->W.cell? ⟨tb,off+q * 12,none⟩=some (.string g.ms[q].nm)/\W.cell? ⟨tb,off+q * 12+1,none⟩=some (.int .i64 g.ms[q].ow)/\W.cell? ⟨tb,off+q * 12+2,none⟩=some (.int .i64 g.ms[q].fl)/\W.cell? ⟨tb,off+q * 12+3,none⟩=some (.slice g.ms[q].pa g.ms[q].ps.length g.ms[q].pc) /\
   W.cell? ⟨tb,off+q * 12+4,none⟩=some (.int .i64 g.ms[q].rt.1)/\W.cell? ⟨tb,off+q * 12+5,none⟩=some (.int .i64 g.ms[q].rt.2.1)/\W.cell? ⟨tb,off+q * 12+6,none⟩=some (.int .i64 g.ms[q].rt.2.2.1)/\W.cell? ⟨tb,off+q * 12+7,none⟩=some (.bool g.ms[q].rt.2.2.2) /\
   W.cell? ⟨tb,off+q * 12+8,none⟩=some (.slice g.ms[q].la g.ms[q].ls.length g.ms[q].lc)/\W.cell? ⟨tb,off+q * 12+9,none⟩=some (.int .i64 g.ms[q].mx)/\W.cell? ⟨tb,off+q * 12+10,none⟩=some (.slice g.ms[q].ca g.ms[q].co.length g.ms[q].cc)/\W.cell? ⟨tb,off+q * 12+11,none⟩=some (.slice g.ms[q].ka g.ms[q].cl.length g.ms[q].kc)):=by
 obtain⟨tb,off,hta,h1,h2,hty⟩:=hG.md (by intro e;rw[e]at hq;simp at hq)
 refine⟨tb,off,hta,h1,h2,hG.im.mok _ (List.getElem_mem hq),λW hW=>?_⟩
 obtain⟨_,hd⟩:=hty W hW;exact (hd q hq).cells_M
theorem zg7 {g:Img} {gb:Nat} {i:Int} {w:World} (hG:GB w gb g) (hi:imB g=true) (hn:zbT g i) :
 Calls Tryz.prog 80 #[.int .i64 i,.pointer (some ⟨gb,0,none⟩)] w λe w'=>e=.returned (.bool (!zaI g i))/\Below w.heap.size w w':=by
 obtain⟨q,rfl⟩:∃ q:Nat,i=q:=⟨i.toNat,by have:=zai.1 hn;omega⟩
 have hq:q<g.ms.length:=by have:=zai.1 hn;omega
 obtain⟨tb,off,hma,h1,h2,_,hc⟩:=hG.mth hq;obtain⟨k0,k1,k2,k3,k4,k5,k6,k7,k8,k9,k10,k11⟩:=hc w (Below.refl _ _);have HH:Hid (Ans 42 #[mdV g.ms[q],.int .i64 2] w (.bool (zaf g.ms[q].fl 2))):=(zaZ _ (zav hi hq) w).2.1;have HV:Hid (zaI g (q:Int)=zaf g.ms[q].fl 2):=by show _=_;unfold zaI;rw[za4 hq]
 have hqi:(q:Int)<(g.ms.length:Int):=by omega
 have c2:=hG.cells.2.2.1;rw[hma]at c2;unfold maxLen at h2;unfold mdV at HH;clear hG hi hn hc hma;generalize g.ms[q]=x at *;generalize zaI g (q:Int)=R at *;generalize zaf x.fl 2=b at *;go_enter Tryz.func80,Tryz.ntmps80;go_wp2_with fail
 refine Calls.mono HH.out ?_;rintro e w1 ⟨rfl,hb1⟩;have HB1:Hid (Below w.heap.size w w1):=hb1;clear hb1 k0 k1 k2 k3 k4 k5 k6 k7 k8 k9 k10 k11 HH;go_wp2_with fail
 go_ret;exact⟨zab (by rw[HV.out]),HB1.out⟩
theorem zed {g:Img} {t:Int} {w:World} (hg:Im w g) (hi:imB g=true) :
 Calls Tryz.prog 57 #[zao g,.int .i64 t] w λe w'=>∃ v,e=.returned v/\OwnI w' w.heap.size v (zaX g t)/\Below w.heap.size w w':=by
 obtain⟨w0,HW0,HB0,HG,HC,HI,c0,c1,c2,c3⟩:=zaG hg;have hln:=zax hi;have HMt:Hid (Calls Tryz.prog 18 #[zao g,.int .i64 t] w0 λe w'=>∃ v,e=.returned v/\OwnI w' w0.heap.size v (zat g t)/\Below w0.heap.size w0 w'):=zbI (HI.out w0 (Below.refl _ _)) hi
 have HTl:Hid (Tells Tryz.prog zew w0 80 #[] #[.pointer (some ⟨w.heap.size,0,none⟩)] (λi=>!zaI g i) (zat g t)):=
  ⟨zah Tryz.func80 (by kernel_rfl) rfl,λW hW x hx=>by
    have:=zg7 (HG.out.later hW) hi (show zbT g x by
     obtain⟨q,hq,e,_⟩:=zdL hx;rw[e];exact zai.2 (by omega))
    simpa[zew]using this⟩
 have HDl:Hid (∀ v W,OwnI W w0.heap.size v (zat g t)->Below w0.heap.size w0 W->Calls Tryz.prog 79 #[v,.func (.func 80) #[] #[.pointer (some ⟨w.heap.size,0,none⟩)]] W λe w'=>∃ v',e=.returned v'/\OwnI w' w0.heap.size v' (zaX g t)/\Below w0.heap.size w0 w'):=λv W hv hb=>by
  have hml:(zat g t).length<=100000:=by
   unfold zat
   split
   ·have:=zbX (λx:MD=>decide (x.ow=t)) g.ms 0
    omega
   ·simp
  have:=ziO hv hb HTl.out hml;rw[show (zat g t).filter (λx=>!(λi=>!zaI g i) x)=zaX g t from by unfold zaX;simp]at this
  exact this
 unfold zao at HMt ⊢;clear hg hi HC HTl;go_enter Tryz.func57,Tryz.ntmps57;go_wp2_with (rw[<- HW0.out])
 refine Calls.mono HMt.out ?_;rintro e w1 ⟨v,rfl,hv,hb1⟩;have HDq:Hid _:=HDl.out v w1 hv hb1;obtain⟨va,vc,hvs,_,_⟩:=hv.is.shape;subst hvs;clear hv hb1 c0 c1 c2 c3 HMt HDl;go_wp2_with fail
 refine Calls.mono HDq.out ?_;rintro e w2 ⟨v2,rfl,hv2,hb2⟩;have HO2:Hid (OwnI w2 w0.heap.size v2 (zaX g t)):=hv2;have HB2:Hid (Below w0.heap.size w0 w2):=hb2;obtain⟨va2,vc2,hvs2,_,_⟩:=hv2.is.shape;clear hv2 hb2 HDq;subst hvs2;go_wp2_with fail
 go_ret;exact⟨_,rfl,HO2.out.mono HB0.out.size,zaa HB0.out HB2.out⟩
def tbC (g:Img) (mv:Value):Array Value:=#[.slice g.ta g.ts.length g.tc,.slice g.fa g.fs.length g.fc,.slice g.ma g.ms.length g.mc,.int .i64 g.en,mv]
def tbV (g:Img) (mv:Value):Value:=.agg #[.slice g.ta g.ts.length g.tc,.slice g.fa g.fs.length g.fc,.slice g.ma g.ms.length g.mc,.int .i64 g.en,mv]
abbrev Tb5 (W:World) (b:Nat) (g:Img) (mv:Value):Prop:=W.cell? ⟨b,0,none⟩=some (.slice g.ta g.ts.length g.tc)/\W.cell? ⟨b,1,none⟩=some (.slice g.fa g.fs.length g.fc)/\W.cell? ⟨b,2,none⟩=some (.slice g.ma g.ms.length g.mc)/\W.cell? ⟨b,3,none⟩=some (.int .i64 g.en)/\W.cell? ⟨b,4,none⟩=some mv
theorem Tb5.of {W:World} {b:Nat} {g:Img} {mv:Value} {t:TypeId} (h:At W b (tbC g mv) t):Tb5 W b g mv:=⟨h.cell 0,h.cell 1,h.cell 2,h.cell 3,h.cell 4⟩
abbrev MtA (W:World) (b o:Nat) (x:MD):Prop:=W.cell? ⟨b,o,none⟩=some (.string x.nm)/\W.cell? ⟨b,o+1,none⟩=some (.int .i64 x.ow)/\W.cell? ⟨b,o+2,none⟩=some (.int .i64 x.fl)/\W.cell? ⟨b,o+3,none⟩=some (.slice x.pa x.ps.length x.pc) /\
 W.cell? ⟨b,o+4,none⟩=some (.int .i64 x.rt.1)/\W.cell? ⟨b,o+5,none⟩=some (.int .i64 x.rt.2.1)/\W.cell? ⟨b,o+6,none⟩=some (.int .i64 x.rt.2.2.1)/\W.cell? ⟨b,o+7,none⟩=some (.bool x.rt.2.2.2)/\W.cell? ⟨b,o+8,none⟩=some (.slice x.la x.ls.length x.lc)/\W.cell? ⟨b,o+9,none⟩=some (.int .i64 x.mx) /\
 W.cell? ⟨b,o+10,none⟩=some (.slice x.ca x.co.length x.cc)/\W.cell? ⟨b,o+11,none⟩=some (.slice x.ka x.cl.length x.kc)
theorem Im.mth {w:World} {g:Img} (hg:Im w g) {q:Nat} (hq:q<g.ms.length):∃ tb off,g.ma=some ⟨tb,off,none⟩/\g.ms.length<=g.mc/\g.mc<=maxLen/\∀ W,Below w.heap.size w W->∀ k (hk:k<g.ms.length),MtA W tb (off+k * 12) g.ms[k]:=by
 obtain⟨tb,off,cap,hv,h1,h2,hb,hc⟩:=hg.ms.parts (by intro e;rw[e]at hq;simp at hq)
 simp only[Value.slice.injEq]at hv;obtain⟨ha,_,hcap⟩:=hv;subst hcap;exact⟨tb,off,ha,h1,h2,λW hW k hk=>((show El mdE w tb (off+k * 12) g.ms[k] from hc k hk).below hW hb).cells_M⟩
theorem zbE {g:Img} {i:Int} (h:zbT g i):∃ (q:Nat) (hq:q<g.ms.length),i=(q:Int):=by
 have:=zai.1 h;exact⟨i.toNat,by omega,by omega⟩
set_option maxRecDepth 20000 in
theorem zeI {g:Img} {xb mb:Nat} {i m:Int} {mv:Value} {w:World} (hX:At w xb (tbC g mv) 68) (hM:At w mb #[.int .i64 m] 3) (hg:Im w g) (hi:zbT g i) (hm:zbT g m) :
 Ans 141 #[.int .i64 i,.pointer (some ⟨xb,0,none⟩),.pointer (some ⟨mb,0,none⟩)] w (.bool (smI g i m)):=by
 obtain⟨q,hq,rfl⟩:=zbE hi;obtain⟨k,hk,rfl⟩:=zbE hm;obtain⟨tb,off,hma,h1,h2,hc⟩:=hg.mth hq;rw[zgh hq hk];have HSm:Hid (∀ W,Below w.heap.size w W->Ans 62 #[mdV g.ms[q],mdV g.ms[k]] W (.bool (smM g.ms[q] g.ms[k]))):=λW hW=>zeZ ((hg.later hW).mok _ (List.getElem_mem hq)) ((hg.later hW).mok _ (List.getElem_mem hk))
 have HQ:Hid (∀ W,Below w.heap.size w W->W.cell? ⟨xb,2,none⟩=some (.slice (some ⟨tb,off,none⟩) g.ms.length g.mc)/\W.cell? ⟨mb,0,none⟩=some (.int .i64 (k:Int))/\MtA W tb (off+q * 12) g.ms[q]/\MtA W tb (off+k * 12) g.ms[k]):=λW hW =>
  ⟨by have:=(hX.later hW).cell 2;rw[<- hma];exact this,(hM.later hW).cell 0,hc W hW q hq,hc W hW k hk⟩
 have hqi:(q:Int)<(g.ms.length:Int):=by omega
 have hki:(k:Int)<(g.ms.length:Int):=by omega
 unfold maxLen at h2;unfold mdV at HSm;clear hX hM hg hi hm hc hma;generalize smM g.ms[q] g.ms[k]=r at *;generalize g.ms[q]=x at *;generalize g.ms[k]=y at *;go_enter Tryz.func141,Tryz.ntmps141;go_wp2_with fail
 go_region_held3 (λW:World=>W.cell? ⟨xb,2,none⟩=some (.slice (some ⟨tb,off,none⟩) g.ms.length g.mc)/\W.cell? ⟨mb,0,none⟩=some (.int .i64 (k:Int))/\MtA W tb (off+q * 12) x/\MtA W tb (off+k * 12) y)
  (first | (exact HQ.out _ hB1) | (exact HQ.out _ (zad _)))
  (first | (go_at_call 62;refine (HSm.out _ (zad _)).mono ?_;rintro e w1 ⟨rfl,hz1⟩;have hB1:Below w.heap.size w w1:=zaa (zad _) hz1))
 rename_i hheld
 clear hheld;have HB1:Hid (Below w.heap.size w w1):=hB1;clear hz1 hB1;go_wp2_with fail
 go_ret;exact⟨rfl,HB1.out⟩
theorem zfO {g:Img} {m:Int} {mv:Value} {L:List Int} {w:World} (hg:Im w g) (hL:Is w mv L) (hLn:∀ x∈L,zbT g x) (hm:zbT g m) :
 Ans 100 #[tbV g mv,.int .i64 m] w (.int .i64 (zdg (λk=>smI g k m) L)):=by
 obtain⟨w0,hw0⟩:∃ W,W=(w.alloc (.cells (tbC g mv) 68)).alloc (.cells #[.int .i64 m] 3):=⟨_,rfl⟩;have HW0:Hid (w0=_):=hw0;obtain⟨hb0,hat⟩:=zan hw0;have HB0:Hid (Below w.heap.size w w0):=hb0;have HT5:Hid (∀ W,Below w0.heap.size w0 W->Tb5 W w.heap.size g mv):=λW hW=>Tb5.of (hat W hW).1
 have HTl:Tells Tryz.prog zew w0 141 #[] #[.pointer (some ⟨w.heap.size,0,none⟩),.pointer (some ⟨w.heap.size+1,0,none⟩)] (λk=>smI g k m) L:=
  ⟨zah Tryz.func141 (by kernel_rfl) rfl,λW hW x hx=>by
    have:=zeI (hat W hW).1 (hat W hW).2 ((hg.later hb0).later hW) (hLn x hx) hm;simpa[zew]using this⟩
 have HIx:Hid (Ans 99 #[mv,.func (.func 141) #[] #[.pointer (some ⟨w.heap.size,0,none⟩),.pointer (some ⟨w.heap.size+1,0,none⟩)]] w0 (.int .i64 (zdg (λk=>smI g k m) L))):=zea (hL.later hb0) HTl
 obtain⟨ma,mc,hmv,_,_⟩:=hL.shape;subst hmv;obtain⟨c0,c1,c2,c3,c4⟩:=HT5.out w0 (Below.refl _ _);unfold tbC at HW0;clear hw0 hb0 hat HTl hg hL hLn hm;generalize zdg (λk=>smI g k m) L=R at *
 unfold tbV;go_enter Tryz.func100,Tryz.ntmps100;go_wp2_with (rw[<- HW0.out])
 refine Calls.mono HIx.out ?_;rintro e w1 ⟨rfl,hb1⟩;have HB1:Hid (Below w0.heap.size w0 w1):=hb1;clear hb1 c0 c1 c2 c3 c4 HIx;go_wp2_with fail
 go_ret;exact⟨rfl,zaa HB0.out HB1.out⟩
def znr (g:Img) (l:List Int) (m:Int):Int:=if zaf (zcR g m) 8=true then -1 else zdg (λk=>smI g k m) l
theorem zcD (g:Img) (l:List Int) (m:Int):(znr g l m = -1/\zbq g l m=l ++ [m])∨∃ (q:Nat) (hq:q<l.length),znr g l m=(q:Int)/\zbq g l m=l.set q m:=by
 unfold znr zbq znt
 cases hb:zaf (zcR g m) 8 with
 | true=>exact Or.inl ⟨by rw[if_pos rfl],by rw[if_pos rfl]⟩
 | false =>
  rw[if_neg (by decide),if_neg (by decide)]
  unfold zdg
  cases hf:l.findIdx? (λk=>smI g k m) with
  | none=>exact Or.inl ⟨rfl,rfl⟩
  | some q =>
   have:=hf;rw[List.findIdx?_eq_some_iff_getElem]at this;obtain⟨hq,_⟩:=this;exact Or.inr ⟨q,hq,rfl,rfl⟩
structure Cls13 (win w:World) (cb:Nat) (g:Img) (mv:Value) (L:List Int):Prop where
 im:Im win g
 bel:Below win.heap.size win w
 box:At w cb (tbC g mv) 90
 own:OwnI w win.heap.size mv L
 lo:win.heap.size<=cb
theorem Cls13.later {win w w':World} {cb:Nat} {g:Img} {mv:Value} {L:List Int} (h:Cls13 win w cb g mv L) (hb:Below w.heap.size w w'):Cls13 win w' cb g mv L:=⟨h.im,zaa h.bel hb,h.box.later hb,h.own.later hb,h.lo⟩
theorem ziu {win w:World} {cb:Nat} {g:Img} {mv:Value} {L:List Int} {m:Int} (h:Cls13 win w cb g mv L) (hi:imB g=true) (hLn:∀ x∈L,zbT g x) (hm:zbT g m) :
 Ans 81 #[.pointer (some ⟨cb,0,none⟩),.int .i64 m] w (.int .i64 (znr g L m)):=by
 have hg:=h.im.later h.bel;have HF:Hid (∀ W,Below w.heap.size w W->Ans 100 #[tbV g mv,.int .i64 m] W (.int .i64 (zdg (λk=>smI g k m) L))):=λW hW=>zfO (hg.later hW) (h.own.is.later hW) hLn hm
 obtain⟨k,hk,rfl⟩:=zbE hm;obtain⟨tb,off,hma,h1,h2,hc⟩:=hg.mth hk;obtain⟨k0,k1,k2,k3,k4,k5,k6,k7,k8,k9,k10,k11⟩:=hc w (Below.refl _ _) k hk;have HH:Hid (Ans 42 #[mdV g.ms[k],.int .i64 8] w (.bool (zaf g.ms[k].fl 8))):=(zaZ _ (zav hi hk) w).2.2.2.1;have HT5:Hid (∀ W,Below w.heap.size w W->Tb5 W cb g mv):=λW hW=>Tb5.of (h.box.later hW)
 have HR:Hid (znr g L (k:Int)=if zaf g.ms[k].fl 8=true then -1 else zdg (λj=>smI g j (k:Int)) L):=by show _=_;unfold znr;rw[za4 hk]
 have hki:(k:Int)<(g.ms.length:Int):=by omega
 obtain⟨ma,mc,hmv,_,_⟩:=h.own.is.shape;subst hmv;obtain⟨c0,c1,c2,c3,c4⟩:=HT5.out w (Below.refl _ _);rw[hma]at c2;have HC2:Hid (g.ma=some ⟨tb,off,none⟩):=hma;unfold maxLen at h2;unfold mdV at HH;unfold tbV at HF;clear h hg hi hLn hm hc hma;generalize g.ms[k]=x at *;generalize znr g L (k:Int)=R at *;generalize zdg (λj=>smI g j (k:Int)) L=Q at *
 generalize zaf x.fl 8=b at *;go_enter Tryz.func81,Tryz.ntmps81;go_wp2_with fail
 refine Calls.mono HH.out ?_;rintro e w1 ⟨rfl,hb1⟩;have HB1:Hid (Below w.heap.size w w1):=hb1;clear hb1 c0 c1 c2 c3 c4 k0 k1 k2 k3 k4 k5 k6 k7 k8 k9 k10 k11 HH
 cases b with
 | true =>
  have HR2:Hid (R = -1):=by show _=_;rw[HR.out];rfl
  go_wp2_with fail
  go_ret;exact⟨zak HR2.out.symm,HB1.out⟩
 | false =>
  have HR2:Hid (R=Q):=by show _=_;rw[HR.out];rfl
  obtain⟨c0,c1,c2,c3,c4⟩:=HT5.out w1 HB1.out;go_wp2_with fail
  refine Calls.mono (HF.out w1 HB1.out) ?_;rintro e w2 ⟨rfl,hb2⟩;have HB2:Hid (Below w.heap.size w w2):=zaa HB1.out hb2;clear hb2 c0 c1 c2 c3 c4;go_wp2_with fail
  go_ret;exact⟨zak HR2.out.symm,HB2.out⟩
structure Kept13 (w w':World) (cb:Nat) (mv mv':Value):Prop where
 size:w.heap.size<=w'.heap.size
 block:∀ k,k<w.heap.size->k≠cb->mv.ownBlock≠some k->w'.heap[k]? =w.heap[k]?
 place:∀ k,mv'.ownBlock=some k->mv.ownBlock=some k∨w.heap.size<=k
theorem zpA {win w:World} {cb:Nat} {g:Img} {mv:Value} {L:List Int} {m:Int} (h:Cls13 win w cb g mv L) (hi:imB g=true) (hLn:∀ x∈L,zbT g x) (hll:L.length<=10000) (hm:zbT g m) :
 Calls Tryz.prog 58 #[.pointer (some ⟨cb,0,none⟩),.int .i64 m] w λe w'=>e=.returned (.tuple #[])/\∃ mv',Cls13 win w' cb g mv' (zbq g L m)/\Kept13 w w' cb mv mv':=by
 have HP:Hid (Ans 81 #[.pointer (some ⟨cb,0,none⟩),.int .i64 m] w (.int .i64 (znr g L m))):=ziu h hi hLn hm;have HC:Hid (Cls13 win w cb g mv L):=h
 rcases zcD g L m with ⟨hj,hp⟩ | ⟨q,hq,hj,hp⟩
 ·rw[hj]at HP;rw[hp];obtain⟨M,hM⟩:∃ M,M=L ++ [m]:=⟨_,rfl⟩;rw[<- hM];have HM:Hid (M=L ++ [m]):=hM;clear hj hp h hi hLn hm hM;go_enter Tryz.func58,Tryz.ntmps58;go_wp2_with fail
  refine Calls.mono HP.out ?_;rintro e w1 ⟨rfl,hb1⟩;have HB1:Hid (Below w.heap.size w w1):=hb1;have HC1:Hid (Cls13 win w1 cb g mv L):=HC.out.later hb1;obtain⟨c0,c1,c2,c3,c4⟩:=Tb5.of HC1.out.box;obtain⟨ma,mc,hmv,_,hmc⟩:=HC1.out.own.is.shape;subst hmv;unfold maxLen at hmc;clear hb1 HP;obtain⟨wA,hwA⟩:∃ W,W=w1.alloc (.cells #[.int .i64 m] 3):=⟨_,rfl⟩;have HWA:Hid (wA=_):=hwA;have hbA:Below w1.heap.size w1 wA:=by rw[hwA];exact zac _ _ _
  have HBA:Hid (Below w1.heap.size w1 wA):=hbA;have HCA:Hid (Cls13 win wA cb g (.slice ma L.length mc) L):=HC1.out.later hbA;have HSr:Hid (Src Tryz.prog 1 40 (.slice (some ⟨w1.heap.size,0,none⟩) 1 1) 1 [.int .i64 m] wA):=by rw[hwA];exact zbf w1 m _ rfl
  have hmeltA:=HCA.out.box.melt;obtain⟨a0,a1,a2,a3,a4⟩:=Tb5.of HCA.out.box;clear hwA hbA;go_wp2_with (first | rw[<- HWA.out] | (at_builtin;go_must (refine zaC rfl (.tmp 23) (.tmp 25) rfl win.heap.size rfl rfl HCA.out.own HSr.out (by omega) (HCA.out.bel.size) ?_)))
  intro v5 w5 ho5 hg5 hp5;have hbx5:At w5 cb (tbC g (.slice ma L.length mc)) 90:=HCA.out.box.grownI HCA.out.own (by decide) hg5
  have HBe5:Hid (Below win.heap.size win w5):=HCA.out.bel.trans (zar HCA.out.own hg5 (Nat.le_refl _) HCA.out.bel.size);rw[<- HM.out]at ho5;have HO5:Hid (OwnI w5 win.heap.size v5 M):=ho5;have HX5:Hid (At w5 cb (tbC g (.slice ma L.length mc)) 90):=hbx5;have HG5:Hid (wA.grownBy w5 (Value.slice ma L.length mc).ownBlock):=hg5;have HPl:Hid (v5.ownBlock=(Value.slice ma L.length mc).ownBlock∨v5.ownBlock=some wA.heap.size):=hp5;obtain⟨va,vc,hv5,_,_⟩:=ho5.is.shape;subst hv5;have b4:w5.cell? ⟨cb,4,none⟩=some (.slice ma L.length mc):=hbx5.cell 4;have hmelt5:=hbx5.melt;clear ho5 hg5 hp5 hbx5 a0 a1 a2 a3 a4 c0 c1 c2 c3 c4;go_wp2_with fail
  go_end0
  have hne:(Value.slice va M.length vc).ownBlock≠some cb:=HO5.out.ne HX5.out (by decide)
  refine⟨rfl,.slice va M.length vc,⟨HC.out.im, ?_, ?_, ?_,HC.out.lo⟩,⟨?_,λk h1 h2 h3=>?_,λk hk=>?_⟩⟩
  ·exact HBe5.out.setCell HC.out.lo _
  ·have:=HX5.out.set 4 (.slice va M.length vc);exact this
  ·exact HO5.out.of_block λk hk _=>Below.heap_setCell _ _ _ _ (λ (e:k=cb)=>hne (e ▸ hk))
  ·have s1:=HB1.out.size;have s2:=HBA.out.size;have s3:=HG5.out.size;simp;omega
  ·have s1:=HB1.out.size;rw[Below.heap_setCell _ _ _ _ h2,HG5.out.block k (Nat.lt_of_lt_of_le h1 (Nat.le_trans s1 HBA.out.size)) (λe=>h3 e.symm),HBA.out.block k (by omega),HB1.out.block k h1]
  ·rcases HPl.out with e | e
   ·exact Or.inl (e ▸ hk)
   ·rw[e]at hk;refine Or.inr ?_;have s1:=HB1.out.size;have s2:=HBA.out.size;simp at hk;omega
 ·rw[hj]at HP;rw[hp];obtain⟨g0,cap,hv,hrow,hg0,hgs,hlc,hcm⟩:=IRow.of h.own (by intro e;rw[e]at hq;simp at hq)
  subst hv;have hqn:((q:Int) != -1)=true:=by rw[bne_iff_ne];omega
  have hqi:(q:Int)<(L.length:Int):=by omega
  have HQL:Hid (q<L.length):=hq;have HG0:Hid (win.heap.size<=g0):=hg0;unfold maxLen at hcm;clear hj hp h hi hLn hm hrow hq hg0;go_enter Tryz.func58,Tryz.ntmps58;go_wp2_with fail
  refine Calls.mono HP.out ?_;rintro e w1 ⟨rfl,hb1⟩;have HB1:Hid (Below w.heap.size w w1):=hb1;have HC1:Hid (Cls13 win w1 cb g (.slice (some ⟨g0,0,none⟩) L.length cap) L):=HC.out.later hb1;have HR1:Hid (IRow w1 win.heap.size g0 cap L):=HC1.out.own;obtain⟨c0,c1,c2,c3,c4⟩:=Tb5.of HC1.out.box;obtain⟨old,cq⟩:∃ old,w1.cell? ⟨g0,q,none⟩=some (.int .i64 old):=⟨_,HR1.out.cell q HQL.out⟩;have hmelt:=HR1.out.melt;clear hb1 HP;go_wp2_with fail
  refine bodyPost_ret (results_none rfl _ _ _) rfl ?_;have hne:g0≠cb:=λe=>HC1.out.own.ne HC1.out.box (by decide) (by rw[<- e];rfl)
  have HR3:=HR1.out.set q m;refine⟨rfl,.slice (some ⟨g0,0,none⟩) L.length cap,⟨HC.out.im,HC1.out.bel.setCell HG0.out _,HC1.out.box.other (λe=>hne e.symm) _, ?_,HC.out.lo⟩,⟨?_,λk h1 h2 h3=>?_,λk hk=>Or.inl hk⟩⟩
  ·have:OwnI (w1.setCell ⟨g0,q,none⟩ (.int .i64 m)) win.heap.size (.slice (some ⟨g0,0,none⟩) (L.set q m).length cap) (L.set q m):=HR3;rw[List.length_set]at this;exact this
  ·have:=HB1.out.size;simpa using this
  ·rw[Below.heap_setCell _ _ _ _ (λe=>h3 (by rw[e];rfl)),HB1.out.block k h1]
theorem zkS {g:Img} {q:Nat} {w:World} (hg:Im w g) (hi:imB g=true) (hq:q<g.ts.length) :
 Calls Tryz.prog 116 #[imV g,.int .i64 q] w λe w'=>e=.returned (.bool (zfc g (q:Int)))/\Below w.heap.size w w':=by
 obtain⟨w0,hw0⟩:∃ W,W=w.alloc (.cells (imC g) 26):=⟨_,rfl⟩;have HW0:Hid (w0=_):=hw0;obtain⟨hb0,hgb⟩:=GB.made hg hw0;have HB0:Hid (Below w.heap.size w w0):=hb0;have HG:Hid (GB w0 w.heap.size g):=hgb;obtain⟨tb,off,hta,h8,h9,hty⟩:=hgb.ty (by intro e;rw[e]at hq;simp at hq)
 have HTY:Hid (∀ W,Below w0.heap.size w0 W->∀ k (hk:k<g.ts.length),W.cell? ⟨tb,off+k * 4,none⟩=some (.string g.ts[k].nm)/\W.cell? ⟨tb,off+k * 4+1,none⟩=some (.int .i64 g.ts[k].fl)/\W.cell? ⟨tb,off+k * 4+2,none⟩=some (.int .i64 g.ts[k].ex)/\W.cell? ⟨tb,off+k * 4+3,none⟩=some (.slice g.ts[k].fa g.ts[k].fs.length g.ts[k].fc)):=λW hW k hk=>(hty W hW).2 k hk
 have HC4:Hid (∀ W,Below w0.heap.size w0 W->W.cell? ⟨w.heap.size,0,none⟩=some (.slice (some ⟨tb,off,none⟩) g.ts.length g.tc)/\W.cell? ⟨w.heap.size,1,none⟩=some (.slice g.fa g.fs.length g.fc)/\W.cell? ⟨w.heap.size,2,none⟩=some (.slice g.ma g.ms.length g.mc)/\W.cell? ⟨w.heap.size,3,none⟩=some (.int .i64 g.en)):=λW hW=>by
  have:=(HG.out.later hW).cells;rw[hta]at this;exact this
 have HFl:Hid (∀ W,Below w0.heap.size w0 W->Calls Tryz.prog 164 #[.agg (imC g),.int .i64 q] W λe w'=>∃ v,e=.returned v/\OwnI w' W.heap.size v (zbg g (q:Int))/\Below W.heap.size W w'):=λW hW=>zcH (HG.out.im.later hW) hi
 have HMt:Hid (∀ W,Below w0.heap.size w0 W->Calls Tryz.prog 18 #[.agg (imC g),.int .i64 q] W λe w'=>∃ v,e=.returned v/\OwnI w' W.heap.size v (zat g (q:Int))/\Below W.heap.size W w'):=λW hW=>zbI (HG.out.im.later hW) hi
 have HDF:Hid (∀ W v,Below w0.heap.size w0 W->Is W v (zbg g (q:Int))->Calls Tryz.prog 161 #[v,.func (.func 165) #[] #[.pointer (some ⟨w.heap.size,0,none⟩)]] W λe w'=>e=.returned (.bool (zcE (λa b=>decide (fnI g a≠fnI g b)) (zbg g (q:Int))))/\Below W.heap.size W w'):=λW v hW hv =>
  zdT hv ⟨zah Tryz.func165 (by kernel_rfl) rfl,λW2 hW2 x hx y hy=>by
   obtain⟨i,rfl,hil⟩:=zby hx;obtain⟨j,rfl,hjl⟩:=zby hy;rw[zmm hil,zmm hjl];simpa using zmT (HG.out.later (zaa hW hW2)) hil hjl⟩
 have HDM:Hid (∀ W v,Below w0.heap.size w0 W->Is W v (zat g (q:Int))->Calls Tryz.prog 161 #[v,.func (.func 166) #[] #[.pointer (some ⟨w.heap.size,0,none⟩)]] W λe w'=>e=.returned (.bool (zcE (λa b=>!smI g a b) (zat g (q:Int))))/\Below W.heap.size W w'):=λW v hW hv =>
  zdT hv ⟨zah Tryz.func166 (by kernel_rfl) rfl,λW2 hW2 x hx y hy=>by
   obtain⟨i,rfl,hil⟩:=zey hx;obtain⟨j,rfl,hjl⟩:=zey hy;rw[zgh hil hjl];simpa using zm2 (HG.out.later (zaa hW hW2)) hil hjl⟩
 obtain⟨c0,c1,c2,c3⟩:=HC4.out w0 (Below.refl _ _);obtain⟨k0,_,_,_⟩:=HTY.out w0 (Below.refl _ _) q hq;have hqi:(q:Int)<(g.ts.length:Int):=by omega
 have HR:Hid (zfc g (q:Int)=(zjF g (q:Int)&&zcE (λa b=>decide (fnI g a≠fnI g b)) (zbg g (q:Int))&&zcE (λa b=>!smI g a b) (zat g (q:Int)))):=rfl
 unfold maxLen at h9;unfold imC at HW0 HFl HMt;rw[hta]at HW0 HFl HMt;clear hw0 hb0 hgb hg hi hty;unfold imV;rw[hta];clear hta;generalize zfc g (q:Int)=F at *;generalize zcE (λa b=>decide (fnI g a≠fnI g b)) (zbg g (q:Int))=r1 at *
 generalize zcE (λa b=>!smI g a b) (zat g (q:Int))=r2 at *
 go_enter Tryz.func116,Tryz.ntmps116;go_wp2_with (rw[<- HW0.out])
 clear c0 c1 c2 c3 k0;go_loopw [6,7,17] (λ_ _ z wr=>∃ k:Nat,k<=g.ts.length/\z=.int .i64 k/\Hid (zs9 g q k g.ts[q].nm)/\Hid (Below w0.heap.size w0 wr)) (λ_ _ z _=>g.ts.length - (intOf z).toNat)
 case atStart=>exact⟨0,Nat.zero_le _,rfl,λk h hk=>absurd hk (by omega),Below.refl _ _⟩
 case round =>
  obtain⟨k,hk,rfl,HT,HB⟩:=hrel;by_cases hkl:k<g.ts.length
  ·have hki:(k:Int)<(g.ts.length:Int):=by omega
   obtain⟨c0,c1,c2,c3⟩:=HC4.out wr HB.out;obtain⟨k0,k1,k2,k3⟩:=HTY.out wr HB.out k hkl;by_cases hkq:k=q
   ·have hne:((k:Int) != (q:Int))=false:=by simp;omega
    have HT2:Hid (zs9 g q (k+1) g.ts[q].nm):=λi h hlt=>by
     by_cases e:i=k
     ·exact Or.inl (by omega)
     ·exact HT.out i h (by omega)
    clear hkq;generalize g.ts[k]=x at *;go_wp2_with fail
    go_roundw
    case rel=>exact⟨k+1,by omega,by go_num,HT2.out,zbN HB.out _⟩
    case measure=>simp[intOf];omega
   ·have hne:((k:Int) != (q:Int))=true:=by simp;omega
    have HNo:Hid (g.ts[k].nm=g.ts[q].nm->zjF g (q:Int)=false):=λh=>zsi hq hkl hkq h
    have HYs:Hid (g.ts[k].nm≠g.ts[q].nm->zs9 g q (k+1) g.ts[q].nm):=λh i hi hlt=>by
     by_cases e:i=k
     ·subst e;exact Or.inr h
     ·exact HT.out i hi (by omega)
    have hstr:=zcu g.ts[k].nm g.ts[q].nm;by_cases hnm:g.ts[k].nm=g.ts[q].nm
    ·have HBad:Hid (F=false):=by show _=_;rw[HR.out,HNo.out hnm];rfl
     rw[decide_eq_true hnm]at hstr;clear hnm HNo HYs hkq HT;generalize g.ts[q].nm=n2 at *;generalize g.ts[k]=x at *;go_wp2_with fail
     go_ret;exact⟨zab HBad.out.symm,zaa HB0.out (zbN HB.out _)⟩
    ·have HT2:Hid _:=HYs.out hnm;rw[decide_eq_false hnm]at hstr;clear hnm HNo HYs hkq HT;generalize g.ts[q].nm=n2 at *;generalize g.ts[k]=x at *;go_wp2_with fail
     go_roundw
     case rel=>exact⟨k+1,by omega,by go_num,HT2.out,zbN HB.out _⟩
     case measure=>simp[intOf];omega
  ·have hki:¬ (k:Int)<(g.ts.length:Int):=by omega
   have HTn:Hid (zjF g (q:Int)=true):=(zkF hq).2 (λi hi _=>HT.out i hi (by omega))
   have HR1:Hid (F=(r1&&r2)):=by show _=_;rw[HR.out,HTn.out];rfl
   obtain⟨c0,c1,c2,c3⟩:=HC4.out wr HB.out;clear HT HR HTn;go_wp2_with fail
   refine Calls.mono (HFl.out wr HB.out) ?_;rintro e w2 ⟨fv,rfl,hf,hb2⟩;have HB2:Hid (Below w0.heap.size w0 w2):=zaa HB.out hb2;have HC2:Hid (Calls Tryz.prog 161 #[fv,.func (.func 165) #[] #[.pointer (some ⟨w.heap.size,0,none⟩)]] w2 λe w'=>e=.returned (.bool r1)/\Below w2.heap.size w2 w'):=HDF.out w2 fv HB2.out hf.is
   clear hb2 c0 c1 c2 c3 hf;go_wp2_with fail
   refine Calls.mono HC2.out ?_;rintro e w3 ⟨rfl,hb3⟩;have HB3:Hid (Below w0.heap.size w0 w3):=zaa HB2.out hb3;clear hb3 HC2
   cases r1 with
   | false =>
    have HR2:Hid (F=false):=by show _=_;rw[HR1.out];rfl
    go_wp2_with fail
    go_ret;exact⟨zab HR2.out.symm,zaa HB0.out HB3.out⟩
   | true =>
    have HR2:Hid (F=r2):=by show _=_;rw[HR1.out];rfl
    obtain⟨c0,c1,c2,c3⟩:=HC4.out w3 HB3.out;go_wp2_with fail
    refine Calls.mono (HMt.out w3 HB3.out) ?_;rintro e w4 ⟨mv,rfl,hm,hb4⟩;have HB4:Hid (Below w0.heap.size w0 w4):=zaa HB3.out hb4;have HC2:Hid (Calls Tryz.prog 161 #[mv,.func (.func 166) #[] #[.pointer (some ⟨w.heap.size,0,none⟩)]] w4 λe w'=>e=.returned (.bool r2)/\Below w4.heap.size w4 w'):=HDM.out w4 mv HB4.out hm.is
    clear hb4 c0 c1 c2 c3 hm;go_wp2_with fail
    refine Calls.mono HC2.out ?_;rintro e w5 ⟨rfl,hb5⟩;have HB5:Hid (Below w0.heap.size w0 w5):=zaa HB4.out hb5;clear hb5 HC2;go_wp2_with fail
    go_ret;exact⟨zab HR2.out.symm,zaa HB0.out HB5.out⟩
set_option maxRecDepth 20000 in
theorem zhl {g:Img} {gb:Nat} {t:Int} {w:World} (hG:GB w gb g) (hi:imB g=true) :
 Calls Tryz.prog 202 #[.int .i64 t,.pointer (some ⟨gb,0,none⟩)] w λe w'=>∃ v,e=.returned v/\OwnI w' w.heap.size v (za6 g t)/\Below w.heap.size w w':=by
 have HG:Hid (GB w gb g):=hG;have HI:Hid (imB g=true):=hi;have hln:=zax hi;have HFl:Hid (Calls Tryz.prog 164 #[.agg (imC g),.int .i64 t] w λe w'=>∃ v,e=.returned v/\OwnI w' w.heap.size v (zbg g t)/\Below w.heap.size w w'):=zcH hG.im hi
 obtain⟨c0,c1,c2,c3⟩:=hG.cells;unfold imC at HFl;clear hG hi;go_enter Tryz.func202,Tryz.ntmps202;go_wp2_with fail
 refine Calls.mono HFl.out ?_;rintro e w1 ⟨fv,rfl,hf,hb1⟩;have HB1:Hid (Below w.heap.size w w1):=hb1;obtain⟨L,hL⟩:∃ X,X=zbg g t:=⟨_,rfl⟩;have HLE:Hid (L=zbg g t):=hL;rw[<- hL]at hf;have hll:=zcA g t;rw[<- hL]at hll;obtain⟨la,lc,hfv,_,hlc⟩:=(show Is w1 fv L from hf.is).shape
 have HFi:Hid (∀ W,Below w1.heap.size w1 W->Is W (.slice la L.length lc) L):=λW hW=>by
  have:=hf.is.later hW;rw[hfv]at this;exact this
 subst hfv;unfold maxLen at hlc;clear c0 c1 c2 c3 hf hb1 hL HFl;go_wp2_with fail
 go_loopw [4,6,7,12] (λlv _ _ z wr=>∃ i:Nat,i<=L.length/\z=.int .i64 i/\Hid (OwnI wr w1.heap.size lv (((L.take i).filter (zbA g)).map (λi=>(za7 g i).2.1)))/\Hid (Below w1.heap.size w1 wr)) (λ_ _ _ z _=>L.length - (intOf z).toNat)
 case atStart=>exact⟨0,Nat.zero_le _,rfl,OwnI.nil _ _,Below.refl _ _⟩
 case round =>
  obtain⟨i,hil0,rfl,HO,HB⟩:=hrel;by_cases hil:i<L.length
  ·have hii:(i:Int)<(L.length:Int):=by omega
   obtain⟨A,hA,hAl⟩:=zby (show L[i]∈zbg g t by rw[<- HLE.out];exact List.getElem_mem hil)
   have hAi:(A:Int)<(g.fs.length:Int):=by omega
   have HPT:Hid (((L.take (i+1)).filter (zbA g)).map (λi=>(za7 g i).2.1)=((L.take i).filter (zbA g)).map (λi=>(za7 g i).2.1) ++ (if zbA g L[i]=true then [(za7 g L[i]).2.1] else [])):=zmq hil
   have HPL:Hid ((((L.take i).filter (zbA g)).map (λi=>(za7 g i).2.1)).length<=64):=Nat.le_trans zn1 (by omega)
   rw[hA,znQ hAl,ze7 hAl]at HPT;obtain⟨lb,loff,hla,hlb,_,h6',h7,hc⟩:=(HFi.out wr HB.out).at hil;have cA:=hc i hil;rw[hA]at cA;obtain⟨tb,off,hta,h8,h9,hty⟩:=HG.out.fd (by intro e;rw[e]at hAl;simp at hAl)
   have hB1r:Below w.heap.size w wr:=zaa HB1.out HB.out;have HK:Hid (∀ W,Below wr.heap.size wr W->W.cell? ⟨gb,0,none⟩=some (.slice g.ta g.ts.length g.tc)/\W.cell? ⟨gb,1,none⟩=some (.slice (some ⟨tb,off,none⟩) g.fs.length g.fc)/\W.cell? ⟨gb,2,none⟩=some (.slice g.ma g.ms.length g.mc)/\W.cell? ⟨gb,3,none⟩=some (.int .i64 g.en)/\El fdE W tb (off+A * 7) g.fs[A]):=λW hW=>by
    have hz:=hty W (zaa hB1r hW);have hq:=(HG.out.later (zaa hB1r hW)).cells;exact⟨hq.1,hz.1,hq.2.2.1,hq.2.2.2,hz.2 A hAl⟩
   have HKn:Hid (∀ W,Below wr.heap.size wr W->Calls Tryz.prog 16 #[.agg #[.slice g.ta g.ts.length g.tc,.slice (some ⟨tb,off,none⟩) g.fs.length g.fc,.slice g.ma g.ms.length g.mc,.int .i64 g.en],.int .i64 g.fs[A].t.2.1] W λe w'=>e=.returned (.int .i64 (zag g g.fs[A].t.2.1))/\Below W.heap.size W w'):=λW hW=>by
    have:=zaQ g.fs[A].t.2.1 (HG.out.im.later (zaa hB1r hW)) (FlOk.of HI.out);unfold imV at this;rw[hta]at this;exact this
   unfold maxLen at h7 h9;subst hla;clear hc hty hta hA hB1r;obtain⟨kv,hkv⟩:∃ k,k=zag g g.fs[A].t.2.1:=⟨_,rfl⟩;rw[<- hkv]at HPT HKn;clear hkv;generalize g.fs[A]=x at *;obtain⟨wA,hwA⟩:∃ W,W=wr.alloc (.cells #[.int .i64 x.t.1,.int .i64 x.t.2.1,.int .i64 x.t.2.2.1,.bool x.t.2.2.2] 47):=⟨_,rfl⟩;have hbA:Below wr.heap.size wr wA:=by rw[hwA];exact zac _ _ _
   have hAA:At wA wr.heap.size #[.int .i64 x.t.1,.int .i64 x.t.2.1,.int .i64 x.t.2.2.1,.bool x.t.2.2.2] 47:=by rw[hwA];exact At.made _ _ _
   have HBA:Hid (Below wr.heap.size wr wA):=hbA;have HWA:Hid (wA=_):=hwA;have HAA:Hid (∀ W,Below wA.heap.size wA W->At W wr.heap.size #[.int .i64 x.t.1,.int .i64 x.t.2.1,.int .i64 x.t.2.2.1,.bool x.t.2.2.2] 47):=λW hW=>hAA.later hW
   have a0:=hAA.cell 0;have a1:=hAA.cell 1;have a2:=hAA.cell 2;simp at a0 a1 a2;obtain⟨e0,e1,e2,e3,hel⟩:=HK.out wr (Below.refl _ _);obtain⟨k0,k1,k2,k3,k4,k5,k6⟩:=hel.cells_F;obtain⟨f0,f1,f2,f3,hfl⟩:=HK.out wA hbA;obtain⟨_,_,_,_,_,_,l6⟩:=hfl.cells_F;have HOA:Hid (OwnI wA w1.heap.size u4 (((L.take i).filter (zbA g)).map (λi=>(za7 g i).2.1))):=OwnI.later HO.out HBA.out
   have HBA1:Hid (Below w1.heap.size w1 wA):=zaa HB.out HBA.out;clear hwA hbA hAA hel hfl HO
   cases hst:x.st with
   | true =>
    have HP2:Hid (((L.take (i+1)).filter (zbA g)).map (λi=>(za7 g i).2.1)=((L.take i).filter (zbA g)).map (λi=>(za7 g i).2.1)):=by show _=_;rw[HPT.out,hst];simp
    rw[hst]at k6 l6;clear hst HPT;go_wp2_with (rw[<- HWA.out])
    go_roundw
    case rel=>exact⟨i+1,by omega,by go_num,by rw[HP2.out];exact HOA.out,HBA1.out⟩
    case measure=>simp[intOf];omega
   | false =>
    rw[hst]at k6 l6 HPT;clear hst;by_cases h6:x.t.1=6
    ·have h6b:(x.t.1==6)=true:=by simpa using h6
     by_cases hd:x.t.2.2.1=0
     ·have hdb:(x.t.2.2.1==0)=true:=by simpa using hd
      have HP1:Hid (((L.take (i+1)).filter (zbA g)).map (λi=>(za7 g i).2.1)=((L.take i).filter (zbA g)).map (λi=>(za7 g i).2.1) ++ (if kv=1 then [x.t.2.1] else [])):=by show _=_;rw[HPT.out,decide_eq_true h6,decide_eq_true hd];simp
      clear h6 hd HPT;go_wp2_with (rw[<- HWA.out])
      refine Calls.mono (HKn.out wA HBA.out) ?_;rintro e w3 ⟨rfl,hb3⟩;have HO3:Hid (OwnI w3 w1.heap.size u4 (((L.take i).filter (zbA g)).map (λi=>(za7 g i).2.1))):=OwnI.later HOA.out hb3
      have HB3:Hid (Below w1.heap.size w1 w3):=zaa HBA1.out hb3;have hx3:=(HAA.out w3 hb3).cell 1;simp at hx3;clear hb3 a0 a1 a2 f0 f1 f2 f3 l6 e0 e1 e2 e3 k0 k1 k2 k3 k4 k5 k6 HOA HBA1 HKn;by_cases hk1:kv=1
      ·subst hk1;have HP2:Hid (((L.take (i+1)).filter (zbA g)).map (λi=>(za7 g i).2.1)=((L.take i).filter (zbA g)).map (λi=>(za7 g i).2.1) ++ [x.t.2.1]):=by show _=_;rw[HP1.out,if_pos rfl]
       clear HP1;go_wp2_with (at_builtin;go_must (refine zas (v:=u4) rfl (.tmp 46) (.tmp 49) rfl w1.heap.size rfl rfl (HO3.out.later (zac _ _ _)) (zbf w3 x.t.2.1 _ rfl) (by have:=HPL.out;omega) (Nat.le_trans HB3.out.size (zac _ _ _).size) ?_;intro v5 w5 ho5 hg5;have hB5:=(zbN HB3.out _).trans (zar (HO3.out.later (zac _ _ _)) hg5 (Nat.le_refl _) (Nat.le_trans HB3.out.size (zac _ _ _).size))))
       go_roundw
       case rel=>exact⟨i+1,by omega,by go_num,by rw[HP2.out];exact ho5,hB5⟩
       case measure=>simp[intOf];omega
      ·have hkb:(kv==1)=false:=by simpa using hk1
       have HP2:Hid (((L.take (i+1)).filter (zbA g)).map (λi=>(za7 g i).2.1)=((L.take i).filter (zbA g)).map (λi=>(za7 g i).2.1)):=by show _=_;rw[HP1.out,if_neg hk1,List.append_nil]
       clear HP1 hk1;go_wp2_with fail
       go_roundw
       case rel=>exact⟨i+1,by omega,by go_num,by rw[HP2.out];exact HO3.out,HB3.out⟩
       case measure=>simp[intOf];omega
     ·have hdb:(x.t.2.2.1==0)=false:=by simpa using hd
      have HP2:Hid (((L.take (i+1)).filter (zbA g)).map (λi=>(za7 g i).2.1)=((L.take i).filter (zbA g)).map (λi=>(za7 g i).2.1)):=by show _=_;rw[HPT.out,decide_eq_false hd];simp
      clear HPT hd h6;go_wp2_with (rw[<- HWA.out])
      go_roundw
      case rel=>exact⟨i+1,by omega,by go_num,by rw[HP2.out];exact HOA.out,HBA1.out⟩
      case measure=>simp[intOf];omega
    ·have h6b:(x.t.1==6)=false:=by simpa using h6
     have HP2:Hid (((L.take (i+1)).filter (zbA g)).map (λi=>(za7 g i).2.1)=((L.take i).filter (zbA g)).map (λi=>(za7 g i).2.1)):=by show _=_;rw[HPT.out,decide_eq_false h6];simp
     clear HPT h6;go_wp2_with (rw[<- HWA.out])
     go_roundw
     case rel=>exact⟨i+1,by omega,by go_num,by rw[HP2.out];exact HOA.out,HBA1.out⟩
     case measure=>simp[intOf];omega
  ·have hii:¬ (i:Int)<(L.length:Int):=by omega
   have HPE:Hid (((L.take i).filter (zbA g)).map (λi=>(za7 g i).2.1)=za6 g t):=by show _=_;rw[List.take_of_length_le (by omega),HLE.out];rfl
   go_wp2_with fail
   go_ret;exact⟨_,rfl,by rw[<- HPE.out];exact HO.out.mono HB1.out.size,zaa HB1.out HB.out⟩
theorem znu {g:Img} {gb:Nat} {w:World} (hG:GB w gb g) (hi:imB g=true):Steps Tryz.prog w 202 #[] #[.pointer (some ⟨gb,0,none⟩)] g.ts.length (za6 g):=by
 refine⟨zah Tryz.func202 (by kernel_rfl) rfl,λW hW t ht=>?_,λt ht x hx=>?_⟩
 ·have:=zhl (t:=t) (hG.later hW) hi;refine (show Calls Tryz.prog 202 _ W _ by simpa using this).mono ?_
  rintro e w' ⟨v,rfl,ho,hb⟩;exact⟨v,rfl,ho.is,hb,λ_ k hk=>Or.inr (ho.block k hk).1⟩
 ·exact zeG (by have:=(zax hi).1;omega) (zgI hx)
theorem zil {g:Img} (w:World) :
 Calls Tryz.prog 169 #[imV g] w λe w'=>e=.returned (.func (.func 202) #[] #[.pointer (some ⟨w.heap.size,0,none⟩)])/\w'=w.alloc (.cells (imC g) 26):=by
 unfold imV imC;go_enter Tryz.func169,Tryz.ntmps169;go_wp2_with fail
 go_ret;exact⟨rfl,rfl⟩
theorem zbu (x:MD) (h:0<=x.fl/\x.fl<=31) {k:Nat} (hk:1<=k/\k<=16) (w:World):Ans 26 #[mdV x,.int .i64 (k:Int)] w (.bool (zaf x.fl k)):=by
 obtain⟨w0,HW0,HB0,HC,c0,c1,c2,c3,c4,c5,c6,c7,c8,c9,c10,c11⟩:=zcF w x;have HQ:Hid ((x.fl / (k:Int)).tmod 2=(if zaf x.fl k=true then 1 else 0)):=zeC h hk.1
 have hk0:¬ (k:Int)=0:=by omega
 have hk1:((k:Int)==0)=false:=by simp;omega
 unfold mdV;go_enter Tryz.func26,Tryz.ntmps26;go_wp2_with (rw[<- HW0.out])
 go_ret;refine⟨zab ?_,HB0.out⟩;rw[HQ.out]
 cases zaf x.fl k <;> rfl
theorem zbs (x:MD) (h:0<=x.fl/\x.fl<=31) (w:World):Ans 26 #[mdV x,.int .i64 1] w (.bool (zaf x.fl 1))/\Ans 26 #[mdV x,.int .i64 2] w (.bool (zaf x.fl 2))/\Ans 26 #[mdV x,.int .i64 4] w (.bool (zaf x.fl 4))/\Ans 26 #[mdV x,.int .i64 8] w (.bool (zaf x.fl 8))/\Ans 26 #[mdV x,.int .i64 16] w (.bool (zaf x.fl 16)):=
 ⟨zbu x h (k:=1) (by omega) w,zbu x h (k:=2) (by omega) w,zbu x h (k:=4) (by omega) w,zbu x h (k:=8) (by omega) w,zbu x h (k:=16) (by omega) w⟩
theorem zcW {x y:MD} {w:World} (hx:x.ok w) (hy:y.ok w) (h1:0<=x.fl) (h2:0<=y.fl):Ans 77 #[mdV x,mdV y] w (.bool (smM x y)):=by
 obtain⟨w0,hw0⟩:∃ W,W=(w.alloc (.cells (zcN x) 51)).alloc (.cells (zcN y) 51):=⟨_,rfl⟩;have HW0:Hid (w0=_):=hw0;obtain⟨hb0,hat⟩:=zan hw0;have HB0:Hid (Below w.heap.size w w0):=hb0;have HSg:Hid (Ans 98 #[mdV x,mdV y] w0 (.bool (sgM x y))):=zcU (hx.later hb0) (hy.later hb0) h1 h2;obtain⟨c0,c1,c2,c3,c4,c5,c6,c7,c8,c9,c10,c11⟩:=Mt.of (hat w0 (Below.refl _ _)).1;obtain⟨d0,d1,d2,d3,d4,d5,d6,d7,d8,d9,d10,d11⟩:=Mt.of (hat w0 (Below.refl _ _)).2;have hs:=zcu x.nm y.nm;have HR:Hid (smM x y=(decide (x.nm=y.nm)&&sgM x y)):=zsk x y;unfold zcN at HW0;unfold mdV at HSg;clear hw0 hb0 hat hx hy h1 h2;generalize smM x y=F at *;generalize sgM x y=s at *;generalize decide (x.nm=y.nm)=r0 at *;unfold mdV;go_enter Tryz.func77,Tryz.ntmps77
 cases r0 with
 | false =>
  have HR2:Hid (F=false):=by show _=_;rw[HR.out];rfl
  go_wp2_with (rw[<- HW0.out])
  go_ret;exact⟨zab HR2.out.symm,HB0.out⟩
 | true =>
  have HR2:Hid (F=s):=by show _=_;rw[HR.out];rfl
  go_wp2_with (rw[<- HW0.out])
  refine Calls.mono HSg.out ?_;rintro e w1 ⟨rfl,hb1⟩;have HB1:Hid (Below w0.heap.size w0 w1):=hb1;clear hb1 c0 c1 c2 c3 c4 c5 c6 c7 c8 c9 c10 c11 d0 d1 d2 d3 d4 d5 d6 d7 d8 d9 d10 d11 HSg;go_wp2_with fail
  go_ret;exact⟨zab HR2.out.symm,zaa HB0.out HB1.out⟩
end Go.Proofs.YtkedhjdipnhgdaaGreat
