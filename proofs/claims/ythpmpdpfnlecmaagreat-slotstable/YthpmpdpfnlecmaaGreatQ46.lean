/- Texts joined: Check13, RefBit13. -/
import Derived.Test.YthpmpdpfnlecmaaGreatQ43
import Derived.Test.YthpmpdpfnlecmaaGreatQ45
import Derived.Test.YthpmpdpfnlecmaaGreatQ26
import Derived.Test.YthpmpdpfnlecmaaGreatQ24
namespace Go.Proofs.YthpmpdpfnlecmaaGreat
set_option linter.unusedVariables false
set_option linter.unusedSimpArgs false
open Go.RowKit Go.Maps
attribute [local go_sem ↓] Go.wp_at_zero Go.wp_at_succ
theorem im_entry {g : Img} (h : imB g = true) : g.en = -1 ∨ ∃ q : Nat,q < g.ms.length∧g.en = (q : Int):=by
 unfold imB at h
 simp only [Bool.and_eq_true,Bool.or_eq_true,decide_eq_true_iff] at h
 rcases h.2 with h | h
 ·exact Or.inl h
 ·have:=numB_iff.1 h
  exact Or.inr ⟨g.en.toNat,by omega,by omega⟩
theorem md_rt {g : Img} (hi : imB g = true) {q : Nat} (hq : q < g.ms.length) : mayT 3 g.ms[q].rt = true:=by
 have h:=(md_parts hi hq).1
 unfold sigE at h
 split at h
 ·simp at h
 ·split at h
  ·rename_i h2; exact h2.1
  ·simp at h
theorem At.setZ {w : World} {g : Nat} {a b : Value} {t : TypeId} (h : At w g #[a,b] t) (x y : Value) : At ((w.setCell ⟨g,0,none⟩ x).setCell ⟨g,1,none⟩ y) g #[x,y] t:=by
 have:=(h.set 0 x).set 1 y
 simpa using this
theorem below_setZ {B g : Nat} {w w1 : World} (h : Below B w w1) (hg : B ≤ g) (x y : Value) : Below B w ((w1.setCell ⟨g,0,none⟩ x).setCell ⟨g,1,none⟩ y):=(h.setCell hg _).setCell hg _
def spZ : Array Value:=#[.int .i64 0,.int .i64 0]
structure Chk (w : World) (g : Img) (mm : Nat) (W : World) : Prop where
 bel : Below w.heap.size w W
 im : Im W g
 im4 : Im4 W w.heap.size g
 sp : At W (w.heap.size + 1) spZ 41
 us : Us5 W (mm + 1) g mm
theorem chk_box {w w0 w1 wb : World} {g : Img} (hg : Im w g) (hw0 : w0 = (w.alloc (.cells (imC g) 26)).alloc (.cells spZ 41)) (h1 : Below w0.heap.size w0 w1)
  (hwb : wb = (w1.alloc (.map #[] 0)).alloc (.cells (usA g w1.heap.size) 69)) :
  w.heap.size + 1 < w1.heap.size∧UM wb w1.heap.size g 0∧∀ W,Bm w1.heap.size wb W → Chk w g w1.heap.size W:=by
 obtain ⟨hb0,hat⟩:=two_boxes hw0
 have hb1:=bstep hb0 h1
 have hsz : w0.heap.size = w.heap.size + 2:=by subst hw0; simp
 have hs1:=h1.size
 have hbb : Below w1.heap.size w1 wb:=by
  subst hwb
  exact bbox ((Below.refl _ _).alloc (Nat.le_refl _) _) _
 have hUA : At wb (w1.heap.size + 1) (usA g w1.heap.size) 69:=by
  subst hwb
  have:=At.made (w1.alloc (.map #[] 0)) (usA g w1.heap.size) 69
  simpa using this
 refine ⟨by omega, ?_,fun W hW => ?_⟩
 ·refine ⟨0,.map [], ?_,Nat.le_refl _,fun t _ h => ?_⟩
  ·subst hwb
   exact (World.ownsMap_made w1 Tryz.prog 51 (unitElem (H:=Unit))).alloc _
  ·simp [Maps.has] at h
 ·have hbw : Below w.heap.size w W:=Bm.below (bstep hb1 hbb) (Nat.le_refl _) (by omega) hW
  obtain ⟨a1,a2⟩:=hat wb (bstep h1 hbb)
  have b1:=a1.bm hW (by omega)
  have b2:=a2.bm hW (by omega)
  exact ⟨hbw,hg.later hbw,⟨b1.cell 0,b1.cell 1,b1.cell 2,b1.cell 3⟩,b2,Us5.of (hUA.bm hW (by omega))⟩

set_option maxHeartbeats 16000000 in
set_option maxRecDepth 20000 in
theorem check13_any {g : Img} {w : World} (hg : Im w g) : Ans 21 #[imA4 g] w (.tuple #[.agg #[.int .i64 (schI g).1,.int .i64 (schI g).2.1],.int .i64 (schI g).2.2]):=by
 have hmm := @run_makeMap Tryz.prog
 obtain ⟨w0,hw0⟩ : ∃ W,W = (w.alloc (.cells (imC g) 26)).alloc (.cells spZ 41):=⟨_,rfl⟩
 have HW0 : Hid (w0 = _):=hw0
 obtain ⟨hb0,hat⟩:=two_boxes hw0
 have HB0 : Hid (Below w.heap.size w w0):=hb0
 have HFw : Hid (Ans 44 #[imA4 g] w0 (.bool (finB g))):=fieldsWell_any (hg.later hb0)
 have HBx : Hid (∀ w1,Below w0.heap.size w0 w1 → _):=fun w1 h1 => chk_box (wb:=_) hg hw0 h1 rfl
 have HZ : Hid (∀ W,Below w0.heap.size w0 W → Im4 W w.heap.size g∧At W (w.heap.size + 1) spZ 41):=fun W hW => by
  obtain ⟨a1,a2⟩:=hat W hW
  exact ⟨⟨a1.cell 0,a1.cell 1,a1.cell 2,a1.cell 3⟩,a2⟩
 have HWn : Hid (∀ W mm c k,finB g = true → Below w.heap.size w W → w.heap.size ≤ mm → UM W mm g c → c ≤ 500000 → ∀ hk : k < g.ms.length,Calls Tryz.prog 45 #[usV g mm,.int .i64 (k : Nat)] W fun e w' => e = .returned (.int .i64 (errM g g.ms[k]))∧Bm mm W w'∧UM w' mm g (c + 200)):=fun W mm c k hf hW hl hU hc hk => wrong13_any (Fin_.of hf).wel hg hW hl hU hc hk
 have HKn : Hid (finB g = true → ∀ W t,Below w.heap.size w W → Ans 16 #[imA4 g,.int .i64 t] W (.int .i64 (kndI g t))):=fun hf W t hW => kind_any t (hg.later hW) (FlOk.of (Wel.of (Fin_.of hf).wel).im)
 have HCl : Hid (finB g = true → ∀ W (i : Nat),Below w.heap.size w W → kndI g (i : Int) = 0 → Ans 46 #[imA4 g,.int .i64 (i : Int)] W (.bool (bitB (flI g (i : Int)) 4 || whoB g (i : Int)))):=fun hf W i hW hk => class13_any (hg.later hW) (Fin_.of hf).wel hk (wf_num (n:=g.ts.length) (by have:=(im_len (Wel.of (Fin_.of hf).wel).im).1; omega) (knd_num (by rw [hk]; decide)))
 have HMt : Hid (finB g = true → ∀ W u,Below w.heap.size w W → Calls Tryz.prog 47 #[imA4 g,.int .i64 u] W fun e w' => ∃ v,e = .returned v∧OwnI w' W.heap.size v (mtdN g u)∧Below W.heap.size W w'):=fun hf W u hW => methods_any (hg.later hW) (Wel.of (Fin_.of hf).wel).im
 have HMb : Hid (finB g = true → ∀ W q (hq : q < g.ms.length),Ans 48 #[mdV g.ms[q]] W (.bool (begM g.ms[q]))):=fun hf W q hq => mayBegin_any (mfl_bound (Wel.of (Fin_.of hf).wel).im hq) (md_rt (Wel.of (Fin_.of hf).wel).im hq) W
 have HEn : Hid (finB g = true → g.en = -1 ∨ ∃ q : Nat,q < g.ms.length∧g.en = (q : Int)):=fun hf => im_entry (Wel.of (Fin_.of hf).wel).im
 have HLn : Hid (finB g = true → g.ts.length ≤ 32∧g.fs.length ≤ 64∧g.ms.length ≤ 64):=fun hf => im_len (Wel.of (Fin_.of hf).wel).im
 have HR0 : Hid (finB g = false → schI g = (0,0,17)):=sch_fin
 have HR1 : Hid (finB g = true → ∀ (i : Nat) (hi : i < g.ms.length),(∀ j (hj : j < i),errM g g.ms[j] = 0) → errM g g.ms[i] ≠ 0 → schI g = (1,(i : Int),errM g g.ms[i])):=fun h i hi => sch_mth h hi
 have HR2 : Hid (finB g = true → (∀ j (hj : j < g.ms.length),errM g g.ms[j] = 0) → ∀ i : Nat,i < g.ts.length → (∀ j < i,badC g (j : Int) = false) → badC g (i : Int) = true → schI g = (0,(i : Int),18)):=fun h ha i hi => sch_cls h ha hi
 have HR3 : Hid (finB g = true → (∀ j (hj : j < g.ms.length),errM g g.ms[j] = 0) → (∀ j < g.ts.length,badC g (j : Int) = false) → ∀ i : Nat,i < g.ts.length → (∀ j < i,badD g (j : Int) = false) → badD g (i : Int) = true → schI g = (0,(i : Int),8)):=fun h ha hb i hi => sch_del h ha hb hi
 have HR4 : Hid (finB g = true → (∀ j (hj : j < g.ms.length),errM g g.ms[j] = 0) → (∀ j < g.ts.length,badC g (j : Int) = false) → (∀ j < g.ts.length,badD g (j : Int) = false) → schI g = if entB g = false then (1,g.en,11) else (0,0,0)):=fun h ha hb hc => sch_end h ha hb hc
 have HMq : Hid (∀ (q : Nat) (hq : q < g.ms.length),∃ mb moff,g.ma = some ⟨mb,moff,none⟩∧g.ms.length ≤ g.mc∧g.mc ≤ maxLen∧∀ W,Below w.heap.size w W → ∀ k (hk : k < g.ms.length),MtA W mb (moff + k * 12) g.ms[k]):=fun q hq => hg.mth hq
 generalize schI g = R at *
 unfold imC spZ at HW0
 unfold imA4 at HFw HKn HCl HMt ⊢
 unfold usA at HBx
 unfold usV at HWn
 clear hw0 hb0 hat hg
 obtain ⟨⟨c0,c1,c2,c3⟩,hz⟩:=HZ.out w0 (Below.refl _ _)
 go_enter Tryz.func21,Tryz.ntmps21
 go_wp2_with (rw [← HW0.out])
 refine Calls.mono HFw.out ?_
 rintro e w1 ⟨rfl,hb1⟩
 have HB1 : Hid (Below w0.heap.size w0 w1):=hb1
 clear hb1 hz c0 c1 c2 c3 HFw
 rcases Bool.eq_false_or_eq_true (finB g) with hfi | hfi
 rotate_left
 ·rw [hfi]
  have HR : Hid (R = (0,0,17)):=HR0.out hfi
  clear hfi
  obtain ⟨_,hz⟩:=HZ.out w1 HB1.out
  have d0:=hz.cell
  have dm:=hz.melt
  have HFc:=(At.setZ (show At w1 (w.heap.size + 1) #[.int .i64 0,.int .i64 0] 41 from hz) (.int .i64 0) (.int .i64 0)).cell
  unfold spZ at d0
  clear hz
  go_wp2_with fail
  exact bodyPost_ret (v := .tuple #[.agg #[.int .i64 0,.int .i64 0],.int .i64 17]) (by simp [results,Tryz.results21,go_sem,HFc]) rfl ⟨by rw [HR.out],below_setZ (bstep HB0.out HB1.out) (by omega) _ _⟩
 ·rw [hfi]
  have HF : Hid (finB g = true):=hfi
  clear hfi
  obtain ⟨hlt,hU,hCk⟩:=HBx.out w1 HB1.out
  obtain ⟨wb,hwb⟩ : ∃ W,W = (w1.alloc (.map #[] 0)).alloc (.cells #[.slice g.ta g.ts.length g.tc,.slice g.fa g.fs.length g.fc,.slice g.ma g.ms.length g.mc,.int .i64 g.en,.map (some w1.heap.size)] 69):=⟨_,rfl⟩
  rw [← hwb] at hU hCk
  have HWb : Hid (wb = _):=hwb
  have HLt : Hid (w.heap.size + 1 < w1.heap.size):=hlt
  obtain ⟨⟨c0,c1,c2,c3⟩,hz⟩:=HZ.out w1 HB1.out
  have HCk : Hid (∀ W,Bm w1.heap.size wb W → Chk w g w1.heap.size W):=hCk
  have HU : Hid (UM wb w1.heap.size g 0):=hU
  obtain ⟨_,_,⟨e0,e1,e2,e3⟩,_,_⟩:=hCk wb (Bm.refl _ _)
  clear hlt hU hCk hwb hz
  have HC4 : Hid (∀ W,Bm w1.heap.size wb W → Im4 W w.heap.size g):=fun W hW => (HCk.out W hW).im4
  have HKw : Hid (∀ W t,Bm w1.heap.size wb W → Ans 16 #[.agg #[.slice g.ta g.ts.length g.tc,.slice g.fa g.fs.length g.fc,.slice g.ma g.ms.length g.mc,.int .i64 g.en],.int .i64 t] W (.int .i64 (kndI g t))):=fun W t hW => HKn.out HF.out W t (HCk.out W hW).bel
  have HCw : Hid (∀ W (i : Nat),Bm w1.heap.size wb W → kndI g (i : Int) = 0 → Ans 46 #[.agg #[.slice g.ta g.ts.length g.tc,.slice g.fa g.fs.length g.fc,.slice g.ma g.ms.length g.mc,.int .i64 g.en],.int .i64 (i : Int)] W (.bool (bitB (flI g (i : Int)) 4 || whoB g (i : Int)))):=fun W i hW hk => HCl.out HF.out W i (HCk.out W hW).bel hk
  have HMw : Hid (∀ W u,Bm w1.heap.size wb W → Calls Tryz.prog 47 #[.agg #[.slice g.ta g.ts.length g.tc,.slice g.fa g.fs.length g.fc,.slice g.ma g.ms.length g.mc,.int .i64 g.en],.int .i64 u] W fun e w' => ∃ v,e = .returned v∧OwnI w' W.heap.size v (mtdN g u)∧Below W.heap.size W w'):=fun W u hW => HMt.out HF.out W u (HCk.out W hW).bel
  have HWw : Hid (∀ W c k,Bm w1.heap.size wb W → UM W w1.heap.size g c → c ≤ 500000 → ∀ hk : k < g.ms.length,Calls Tryz.prog 45 #[.agg #[.slice g.ta g.ts.length g.tc,.slice g.fa g.fs.length g.fc,.slice g.ma g.ms.length g.mc,.int .i64 g.en,.map (some w1.heap.size)],.int .i64 (k : Nat)] W fun e w' => e = .returned (.int .i64 (errM g g.ms[k]))∧Bm w1.heap.size W w'∧UM w' w1.heap.size g (c + 200)):=fun W c k hW hU hc hk => HWn.out W _ c k HF.out (HCk.out W hW).bel (by have:=HLt.out; omega) hU hc hk
  have HMx : Hid (∀ W q (hq : q < g.ms.length),Ans 48 #[mdV g.ms[q]] W (.bool (begM g.ms[q]))):=HMb.out HF.out
  have HFin : Hid (∀ W a b,Bm w1.heap.size wb W → (∀ o,W.cell? ⟨w.heap.size + 1,o,none⟩ = spZ[o]?)∧(∀ o,W.frozen? ⟨w.heap.size + 1,o,none⟩ = false)∧(∀ o,((W.setCell ⟨w.heap.size + 1,0,none⟩ a).setCell ⟨w.heap.size + 1,1,none⟩ b).cell? ⟨w.heap.size + 1,o,none⟩ = (#[a,b] : Array Value)[o]?)∧Below w.heap.size w ((W.setCell ⟨w.heap.size + 1,0,none⟩ a).setCell ⟨w.heap.size + 1,1,none⟩ b)):=fun W a b hW => by
   have h:=(HCk.out W hW).sp
   refine ⟨h.cell,h.melt, ?_,below_setZ (HCk.out W hW).bel (by omega) _ _⟩
   exact (At.setZ (show At W (w.heap.size + 1) #[.int .i64 0,.int .i64 0] 41 from h) a b).cell
  have hln:=HLn.out HF.out
  obtain ⟨hn1,hn2,hn3⟩:=hln
  clear HLn HWn HKn HCl HMt HMb HBx HZ
  go_wp2_with (rw [← HWb.out])
  clear c0 c1 c2 c3 e0 e1 e2 e3 hmm HW0 HWb
  go_loopw [5,6,19] (fun _ _ z wr => ∃ i : Nat,i ≤ g.ms.length∧z = .int .i64 i∧Hid (Bm w1.heap.size wb wr)∧Hid (UM wr w1.heap.size g (i * 200))∧Hid (∀ j (hj : j < g.ms.length),j < i → errM g g.ms[j] = 0)) (fun _ _ z _ => g.ms.length - (intOf z).toNat)
  case atStart => exact ⟨0,Nat.zero_le _,rfl,Bm.refl _ _,HU.out,(show ∀ j (hj : j < g.ms.length),j < 0 → _ from fun j hj h => absurd h (by omega))⟩
  case round =>
   obtain ⟨i,hil0,rfl,HB,HUr,HA⟩:=hrel
   by_cases hil : i < g.ms.length
   ·have hii : (i : Int) < (g.ms.length : Int):=by omega
    have HWi : Hid _:=HWw.out wr (i * 200) i HB.out HUr.out (by omega) hil
    have HBd : Hid (errM g g.ms[i] ≠ 0 → R = (1,(i : Int),errM g g.ms[i])):=fun h => HR1.out HF.out i hil (fun j hj => HA.out j (by omega) hj) h
    have HGd : Hid (errM g g.ms[i] = 0 → ∀ j (hj : j < g.ms.length),j < i + 1 → errM g g.ms[j] = 0):=fun h j hj hji => by
     by_cases hjj : j = i
     ·subst hjj; exact h
     ·exact HA.out j hj (by omega)
    obtain ⟨u0,u1,u2,u3,u4⟩:=(HCk.out wr HB.out).us
    clear HUr HA
    generalize errM g g.ms[i] = er at *
    go_wp2_with fail
    refine Calls.mono HWi.out ?_
    rintro e w3 ⟨rfl,hb3,hu3⟩
    have HB3 : Hid (Bm w1.heap.size wb w3):=HB.out.trans hb3
    have HU3 : Hid (UM w3 w1.heap.size g ((i + 1) * 200)):=hu3.mono (by omega)
    clear hb3 hu3 HWi u0 u1 u2 u3 u4 HB
    by_cases he : er = 0
    ·subst he
     have HA2 : Hid _:=HGd.out rfl
     go_wp2_with fail
     go_roundw
     case rel => exact ⟨i + 1,by omega,by go_num,HB3.out,HU3.out,HA2.out⟩
     case measure => simp [intOf] <;> omega
    ·have HR : Hid (R = _):=HBd.out he
     have heb : (er != 0) = true:=by simpa using he
     obtain ⟨d0,dm,HFc,hbf⟩:=HFin.out w3 (.int .i64 1) (.int .i64 i) HB3.out
     have HBf : Hid _:=hbf
     unfold spZ at d0
     clear he hbf HBd HGd
     go_wp2_with fail
     exact bodyPost_ret (v := .tuple #[.agg #[.int .i64 1,.int .i64 i],.int .i64 er]) (by simp [results,Tryz.results21,go_sem,HFc]) rfl ⟨by rw [HR.out],HBf.out⟩
   ·have hii : ¬ (i : Int) < (g.ms.length : Int):=by omega
    have HAm : Hid (∀ j (hj : j < g.ms.length),errM g g.ms[j] = 0):=fun j hj => HA.out j hj (by omega)
    obtain ⟨e0,e1,e2,e3⟩:=HC4.out wr HB.out
    have HBc : Hid (Bm w1.heap.size wb wr):=HB.out
    clear HUr HA HB HR1
    go_wp2_with fail
    clear e0 e1 e2 e3
    obtain ⟨wo,hwo⟩ : ∃ W,W = wr:=⟨_,rfl⟩
    subst hwo
    go_loopw [7,34] (fun _ z wr => ∃ i : Nat,i ≤ g.ts.length∧z = .int .i64 i∧Hid (Bm w1.heap.size wb wr)∧Hid (∀ j < i,badC g (j : Int) = false)) (fun _ z _ => g.ts.length - (intOf z).toNat)
    case atStart => exact ⟨0,Nat.zero_le _,rfl,HBc.out,(show ∀ j < 0,_ from fun j hj => absurd hj (by omega))⟩
    case round =>
     obtain ⟨i,hil0,rfl,HB,HA⟩:=hrel
     by_cases hil : i < g.ts.length
     ·have hii : (i : Int) < (g.ts.length : Int):=by omega
      have HKi : Hid (∀ W,Bm w1.heap.size wb W → Ans 16 _ W (.int .i64 (kndI g (i : Int)))):=fun W hW => HKw.out W (i : Int) hW
      have HCi : Hid (∀ W,Bm w1.heap.size wb W → kndI g (i : Int) = 0 → Ans 46 _ W (.bool (bitB (flI g (i : Int)) 4 || whoB g (i : Int)))):=fun W hW hk => HCw.out W i hW hk
      have HBC : Hid (badC g (i : Int) = (decide (kndI g (i : Int) = 0) && !(bitB (flI g (i : Int)) 4 || whoB g (i : Int)))):=by
       show _ = _
       unfold badC
       rw [Bool.not_or]
      have HBd : Hid (badC g (i : Int) = true → R = (0,(i : Int),18)):=fun h => HR2.out HF.out HAm.out i hil HA.out h
      have HGd : Hid (badC g (i : Int) = false → ∀ j < i + 1,badC g (j : Int) = false):=fun h j hji => by
       by_cases hjj : j = i
       ·subst hjj; exact h
       ·exact HA.out j (by omega)
      clear HA
      generalize badC g (i : Int) = bc at *
      generalize (bitB (flI g (i : Int)) 4 || whoB g (i : Int)) = cw at *
      generalize kndI g (i : Int) = kn at *
      by_cases hkn : kn = 0
      ·have HKn0 : Hid (kn = 0):=hkn
       subst hkn
       obtain ⟨e0,e1,e2,e3⟩:=HC4.out wr HB.out
       go_wp2_with fail
       refine Calls.mono (HKi.out wr HB.out) ?_
       rintro e w3 ⟨rfl,hb3⟩
       have hB3 : Bm w1.heap.size wb w3:=HB.out.trans (Bm.of hb3)
       clear e0 e1 e2 e3
       obtain ⟨e0,e1,e2,e3⟩:=HC4.out w3 hB3
       go_wp2_with fail
       refine Calls.mono (HCi.out w3 hB3 (by trivial)) ?_
       rintro e w4 ⟨rfl,hb4⟩
       have hB4 : Bm w1.heap.size wb w4:=hB3.trans (Bm.of hb4)
       clear e0 e1 e2 e3
       have HB4 : Hid (Bm w1.heap.size wb w4):=hB4
       clear hB4 hb4 hB3 hb3
       cases cw with
       | true =>
        have HA2 : Hid _:=HGd.out (by rw [HBC.out]; rfl)
        go_wp2_with fail
        go_roundw
        case rel => exact ⟨i + 1,by omega,by go_num,HB4.out,HA2.out⟩
        case measure => simp [intOf] <;> omega
       | false =>
        have HR : Hid (R = _):=HBd.out (by rw [HBC.out]; rfl)
        obtain ⟨d0,dm,HFc,hbf⟩:=HFin.out w4 (.int .i64 0) (.int .i64 i) HB4.out
        have HBf : Hid _:=hbf
        unfold spZ at d0
        clear hbf HBd HGd
        go_wp2_with fail
        exact bodyPost_ret (v := .tuple #[.agg #[.int .i64 0,.int .i64 i],.int .i64 18]) (by simp [results,Tryz.results21,go_sem,HFc]) rfl ⟨by rw [HR.out],HBf.out⟩
      ·have hkb : (kn == 0) = false:=by simpa using hkn
       have HA2 : Hid _:=HGd.out (by rw [HBC.out,decide_eq_false hkn]; rfl)
       clear hkn HBd HGd
       obtain ⟨e0,e1,e2,e3⟩:=HC4.out wr HB.out
       go_wp2_with fail
       refine Calls.mono (HKi.out wr HB.out) ?_
       rintro e w3 ⟨rfl,hb3⟩
       have hB3 : Bm w1.heap.size wb w3:=HB.out.trans (Bm.of hb3)
       clear e0 e1 e2 e3
       have HB3 : Hid (Bm w1.heap.size wb w3):=hB3
       clear hB3 hb3
       go_wp2_with fail
       go_roundw
       case rel => exact ⟨i + 1,by omega,by go_num,HB3.out,HA2.out⟩
       case measure => simp [intOf] <;> omega
     ·have hii : ¬ (i : Int) < (g.ts.length : Int):=by omega
      have HAc : Hid (∀ j < g.ts.length,badC g (j : Int) = false):=fun j hj => HA.out j (by omega)
      obtain ⟨e0,e1,e2,e3⟩:=HC4.out wr HB.out
      have HBe : Hid (Bm w1.heap.size wb wr):=HB.out
      clear HA HB HR2 HBc HCw
      go_wp2_with fail
      clear e0 e1 e2 e3
      obtain ⟨wo2,hwo2⟩ : ∃ W,W = wr:=⟨_,rfl⟩
      subst hwo2
      go_loopw [8,53] (fun _ z wr => ∃ i : Nat,i ≤ g.ts.length∧z = .int .i64 i∧Hid (Bm w1.heap.size wb wr)∧Hid (∀ j < i,badD g (j : Int) = false)) (fun _ z _ => g.ts.length - (intOf z).toNat)
      case atStart => exact ⟨0,Nat.zero_le _,rfl,HBe.out,(show ∀ j < 0,_ from fun j hj => absurd hj (by omega))⟩
      case round =>
       obtain ⟨i,hil0,rfl,HB,HA⟩:=hrel
       by_cases hil : i < g.ts.length
       ·have hii : (i : Int) < (g.ts.length : Int):=by omega
        have HKi : Hid (∀ W,Bm w1.heap.size wb W → Ans 16 _ W (.int .i64 (kndI g (i : Int)))):=fun W hW => HKw.out W (i : Int) hW
        have HMi : Hid _:=fun W hW => HMw.out W (i : Int) hW
        have HBD : Hid (badD g (i : Int) = (decide (kndI g (i : Int) = 3) && decide (mtdN g (i : Int) = []))):=rfl
        have HBd : Hid (badD g (i : Int) = true → R = (0,(i : Int),8)):=fun h => HR3.out HF.out HAm.out HAc.out i hil HA.out h
        have HGd : Hid (badD g (i : Int) = false → ∀ j < i + 1,badD g (j : Int) = false):=fun h j hji => by
         by_cases hjj : j = i
         ·subst hjj; exact h
         ·exact HA.out j (by omega)
        clear HA
        generalize badD g (i : Int) = bd at *
        generalize mtdN g (i : Int) = M at *
        generalize kndI g (i : Int) = kn at *
        by_cases hkn : kn = 3
        ·have HKn0 : Hid (kn = 3):=hkn
         have hml : ((M.length : Int) == 0) = decide (M = []):=len_nil13 _
         generalize decide (M = []) = mn at *
         subst hkn
         obtain ⟨e0,e1,e2,e3⟩:=HC4.out wr HB.out
         go_wp2_with fail
         refine Calls.mono (HKi.out wr HB.out) ?_
         rintro e w3 ⟨rfl,hb3⟩
         have hB3 : Bm w1.heap.size wb w3:=HB.out.trans (Bm.of hb3)
         clear e0 e1 e2 e3
         obtain ⟨e0,e1,e2,e3⟩:=HC4.out w3 hB3
         go_wp2_with fail
         refine Calls.mono (HMi.out w3 hB3) ?_
         rintro e w4 ⟨v4,rfl,ho4,hb4⟩
         have hB4 : Bm w1.heap.size wb w4:=hB3.trans (Bm.of hb4)
         obtain ⟨va,vc,hvv,_,_⟩:=ho4.is.shape
         subst hvv
         clear e0 e1 e2 e3
         have HB4 : Hid (Bm w1.heap.size wb w4):=hB4
         clear hB4 hb4 hB3 hb3 ho4
         cases mn with
         | false =>
          have HA2 : Hid _:=HGd.out (by rw [HBD.out]; rfl)
          go_wp2_with fail
          go_roundw
          case rel => exact ⟨i + 1,by omega,by go_num,HB4.out,HA2.out⟩
          case measure => simp [intOf] <;> omega
         | true =>
          have HR : Hid (R = _):=HBd.out (by rw [HBD.out]; rfl)
          obtain ⟨d0,dm,HFc,hbf⟩:=HFin.out w4 (.int .i64 0) (.int .i64 i) HB4.out
          have HBf : Hid _:=hbf
          unfold spZ at d0
          clear hbf HBd HGd
          go_wp2_with fail
          exact bodyPost_ret (v := .tuple #[.agg #[.int .i64 0,.int .i64 i],.int .i64 8]) (by simp [results,Tryz.results21,go_sem,HFc]) rfl ⟨by rw [HR.out],HBf.out⟩
        ·have hkb : (kn == 3) = false:=by simpa using hkn
         have HA2 : Hid _:=HGd.out (by rw [HBD.out,decide_eq_false hkn]; rfl)
         clear hkn HBd HGd
         obtain ⟨e0,e1,e2,e3⟩:=HC4.out wr HB.out
         go_wp2_with fail
         refine Calls.mono (HKi.out wr HB.out) ?_
         rintro e w3 ⟨rfl,hb3⟩
         have hB3 : Bm w1.heap.size wb w3:=HB.out.trans (Bm.of hb3)
         clear e0 e1 e2 e3
         have HB3 : Hid (Bm w1.heap.size wb w3):=hB3
         clear hB3 hb3
         go_wp2_with fail
         go_roundw
         case rel => exact ⟨i + 1,by omega,by go_num,HB3.out,HA2.out⟩
         case measure => simp [intOf] <;> omega
       ·have hii : ¬ (i : Int) < (g.ts.length : Int):=by omega
        have HR5 : Hid (R = if entB g = false then (1,g.en,11) else (0,0,0)):=HR4.out HF.out HAm.out HAc.out (fun j hj => HA.out j (by omega))
        obtain ⟨e0,e1,e2,e3⟩:=HC4.out wr HB.out
        clear HA HR3 HR4 HBe HMw HKw HWw
        rcases HEn.out HF.out with hen | ⟨q,hq,hen⟩
        ·have HEb : Hid (entB g = true):=by
          show _ = _
          unfold entB
          rw [hen]; rfl
         have HR : Hid (R = (0,0,0)):=by
          show _ = _
          rw [HR5.out,HEb.out]; rfl
         obtain ⟨d0,dm,HFc,hbf⟩:=HFin.out wr (.int .i64 0) (.int .i64 0) HB.out
         have HBf : Hid _:=hbf
         rw [hen] at e3
         unfold spZ at d0
         clear hbf hen HEb HR5 HEn
         go_wp2_with fail
         exact bodyPost_ret (v := .tuple #[.agg #[.int .i64 0,.int .i64 0],.int .i64 0]) (by simp [results,Tryz.results21,go_sem,HFc]) rfl ⟨by rw [HR.out],HBf.out⟩
        ·have HEb : Hid (entB g = begM g.ms[q]):=by
          show _ = _
          unfold entB
          rw [hen,decide_eq_false (by omega),Bool.false_or,Int.toNat_natCast,List.getElem?_eq_getElem hq]
         have hqi : (q : Int) < (g.ms.length : Int):=by omega
         obtain ⟨mb,moff,hma,h3,h4,hcm⟩:=HMq.out q hq
         have HMA : Hid (∀ W,Bm w1.heap.size wb W → MtA W mb (moff + q * 12) g.ms[q]):=fun W hW => hcm W (HCk.out W hW).bel q hq
         have HMxq : Hid (∀ W,Ans 48 #[mdV g.ms[q]] W (.bool (begM g.ms[q]))):=fun W => HMx.out W q hq
         have HR6 : Hid (R = if begM g.ms[q] = false then (1,(q : Int),11) else (0,0,0)):=by
          show _ = _
          rw [HR5.out,HEb.out,hen]
         obtain ⟨k0,k1,k2,k3,k4,k5,k6,k7,k8,k9,k10,k11⟩:=HMA.out wr HB.out
         rw [hen] at e3
         rw [hma] at e2
         have HEn2 : Hid (g.en = (q : Int)):=hen
         have HMa2 : Hid (g.ma = some ⟨mb,moff,none⟩):=hma
         unfold maxLen at h4
         unfold mdV at HMxq
         clear hen hma hcm HEb HR5 HEn HMq HMx
         generalize begM g.ms[q] = bq at *
         generalize g.ms[q] = x at *
         go_wp2_with fail
         refine Calls.mono (HMxq.out wr) ?_
         rintro e w5 ⟨rfl,hb5⟩
         have HB5 : Hid (Bm w1.heap.size wb w5):=HB.out.trans (Bm.of hb5)
         clear hb5 e0 e1 e2 e3 k0 k1 k2 k3 k4 k5 k6 k7 k8 k9 k10 k11
         obtain ⟨e0,e1,e2,e3⟩:=HC4.out w5 HB5.out
         rw [HEn2.out] at e3
         cases bq with
         | true =>
          have HR : Hid (R = (0,0,0)):=by
           show _ = _
           rw [HR6.out,if_neg (by decide)]
          obtain ⟨d0,dm,HFc,hbf⟩:=HFin.out w5 (.int .i64 0) (.int .i64 0) HB5.out
          have HBf : Hid _:=hbf
          unfold spZ at d0
          clear hbf
          go_wp2_with fail
          exact bodyPost_ret (v := .tuple #[.agg #[.int .i64 0,.int .i64 0],.int .i64 0]) (by simp [results,Tryz.results21,go_sem,HFc]) rfl ⟨by rw [HR.out],HBf.out⟩
         | false =>
          have HR : Hid (R = (1,(q : Int),11)):=by
           show _ = _
           rw [HR6.out,if_pos rfl]
          obtain ⟨d0,dm,HFc,hbf⟩:=HFin.out w5 (.int .i64 1) (.int .i64 q) HB5.out
          have HBf : Hid _:=hbf
          unfold spZ at d0
          clear hbf
          go_wp2_with fail
          exact bodyPost_ret (v := .tuple #[.agg #[.int .i64 1,.int .i64 q],.int .i64 11]) (by simp [results,Tryz.results21,go_sem,HFc]) rfl ⟨by rw [HR.out],HBf.out⟩
end Go.Proofs.YthpmpdpfnlecmaaGreat

namespace Go.Proofs.YthpmpdpfnlecmaaGreat
set_option linter.unusedVariables false
set_option linter.unusedSimpArgs false
open Go.RowKit
attribute [local go_sem ↓] Go.wp_at_zero Go.wp_at_succ
set_option maxHeartbeats 1000000 in
theorem refBit13_any (x : MD) (h : 0 ≤ x.fl∧x.fl ≤ 31) {k : Nat} (hk : 1 ≤ k∧k ≤ 16) (w : World) : Ans 53 #[mdV x,.int .i64 (k : Int)] w (.bool (bitB x.fl k)):=by
 obtain ⟨w0,HW0,HB0,HC,c0,c1,c2,c3,c4,c5,c6,c7,c8,c9,c10,c11⟩:=mth_head w x
 have HQ : Hid ((x.fl / (k : Int)).tmod 2 = (if bitB x.fl k = true then 1 else 0)):=quo_flag h hk.1
 have hk0 : ¬ (k : Int) = 0:=by omega
 have hk1 : ((k : Int) == 0) = false:=by simp; omega
 unfold mdV
 go_enter Tryz.func53,Tryz.ntmps53
 go_wp2_with (rw [← HW0.out])
 go_ret
 refine ⟨ret_bool ?_,HB0.out⟩
 rw [HQ.out]
 cases bitB x.fl k <;> rfl
theorem refBits13 (x : MD) (h : 0 ≤ x.fl∧x.fl ≤ 31) (w : World) : Ans 53 #[mdV x,.int .i64 1] w (.bool (bitB x.fl 1))∧Ans 53 #[mdV x,.int .i64 2] w (.bool (bitB x.fl 2))∧Ans 53 #[mdV x,.int .i64 4] w (.bool (bitB x.fl 4))∧Ans 53 #[mdV x,.int .i64 8] w (.bool (bitB x.fl 8))∧Ans 53 #[mdV x,.int .i64 16] w (.bool (bitB x.fl 16)) :=
 ⟨refBit13_any x h (k := 1) (by omega) w,refBit13_any x h (k := 2) (by omega) w,refBit13_any x h (k := 4) (by omega) w,refBit13_any x h (k := 8) (by omega) w,refBit13_any x h (k := 16) (by omega) w⟩

set_option maxHeartbeats 2000000 in
theorem refAlike13_any {x y : MD} {w : World} (hx : x.ok w) (hy : y.ok w) (h1 : 0 ≤ x.fl) (h2 : 0 ≤ y.fl) : Ans 30 #[mdV x,mdV y] w (.bool (smM x y)):=by
 obtain ⟨w0,hw0⟩ : ∃ W,W = (w.alloc (.cells (mdA13 x) 55)).alloc (.cells (mdA13 y) 55):=⟨_,rfl⟩
 have HW0 : Hid (w0 = _):=hw0
 obtain ⟨hb0,hat⟩:=two_boxes hw0
 have HB0 : Hid (Below w.heap.size w w0):=hb0
 have HSg : Hid (Ans 61 #[mdV x,mdV y] w0 (.bool (sgM x y))):=refSameSig_any (hx.later hb0) (hy.later hb0) h1 h2
 obtain ⟨c0,c1,c2,c3,c4,c5,c6,c7,c8,c9,c10,c11⟩:=Mt.of (hat w0 (Below.refl _ _)).1
 obtain ⟨d0,d1,d2,d3,d4,d5,d6,d7,d8,d9,d10,d11⟩:=Mt.of (hat w0 (Below.refl _ _)).2
 have hs:=str_dec x.nm y.nm
 have HR : Hid (smM x y = (decide (x.nm = y.nm) && sgM x y)):=smM_eq x y
 unfold mdA13 at HW0
 unfold mdV at HSg
 clear hw0 hb0 hat hx hy h1 h2
 generalize smM x y = F at *
 generalize sgM x y = s at *
 generalize decide (x.nm = y.nm) = r0 at *
 unfold mdV
 go_enter Tryz.func30,Tryz.ntmps30
 cases r0 with
 | false =>
  have HR2 : Hid (F = false):=by show _ = _; rw [HR.out]; rfl
  go_wp2_with (rw [← HW0.out])
  go_ret
  exact ⟨ret_bool HR2.out.symm,HB0.out⟩
 | true =>
  have HR2 : Hid (F = s):=by show _ = _; rw [HR.out]; rfl
  go_wp2_with (rw [← HW0.out])
  refine Calls.mono HSg.out ?_
  rintro e w1 ⟨rfl,hb1⟩
  have HB1 : Hid (Below w0.heap.size w0 w1):=hb1
  clear hb1 c0 c1 c2 c3 c4 c5 c6 c7 c8 c9 c10 c11 d0 d1 d2 d3 d4 d5 d6 d7 d8 d9 d10 d11 HSg
  go_wp2_with fail
  go_ret
  exact ⟨ret_bool HR2.out.symm,bstep HB0.out HB1.out⟩
end Go.Proofs.YthpmpdpfnlecmaaGreat
