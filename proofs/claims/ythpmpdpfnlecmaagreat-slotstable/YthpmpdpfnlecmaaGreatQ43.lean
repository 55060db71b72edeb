/- Texts joined: Class13, Key13. -/
import Derived.Test.YthpmpdpfnlecmaaGreatQ41
import Derived.Test.YthpmpdpfnlecmaaGreatQ42
import Derived.Test.YthpmpdpfnlecmaaGreatQ02
import Derived.Test.YthpmpdpfnlecmaaGreatQ01
import Derived.DeepKeys4
import Derived.DeepKeys3
import Derived.Maps.OwnSet
import Derived.Maps.OwnOps
namespace Go.Proofs.YthpmpdpfnlecmaaGreat
set_option linter.unusedVariables false
set_option linter.unusedSimpArgs false
open Go.RowKit
attribute [local go_sem ↓] Go.wp_at_zero Go.wp_at_succ
theorem mem_mtd {g : Img} {t m : Int} (h : m ∈ mtdN g t) : mNum g m∧mowI g m = t:=by
 obtain ⟨q,hq,rfl,ho⟩:=mtd_mem h
 exact ⟨numB_iff.2 (by omega),by rw [mowI_at hq,ho]⟩
theorem who_tab {g : Img} {t : Int} {i : Nat} (hi : i < (tabL g t).length) (hb : bitB (mflI g (tabL g t)[i]) 4 = true) : whoB g t = false:=by
 unfold whoB
 have : (tabL g t).all (fun m => !bitB (mflI g m) 4) = false:=by
  rw [List.all_eq_false]
  exact ⟨_,List.getElem_mem hi,by rw [hb]; simp⟩
 rw [this]; rfl
theorem who_face {g : Img} {t f m : Int} (hf : f ∈ facL g t) (hm : m ∈ mtdN g f) (h : donI g t m = -1) : whoB g t = false:=by
 unfold whoB
 have : (facL g t).all (fun f => (mtdN g f).all (fun m => decide (donI g t m ≠ -1))) = false:=by
  rw [List.all_eq_false]
  refine ⟨f,hf, ?_⟩
  rw [Bool.not_eq_true,List.all_eq_false]
  exact ⟨m,hm,by rw [h]; simp⟩
 rw [this,Bool.and_false]
theorem who_yes {g : Img} {t : Int} (h1 : ∀ m ∈ tabL g t,bitB (mflI g m) 4 = false) (h2 : ∀ f ∈ facL g t,∀ m ∈ mtdN g f,donI g t m ≠ -1) : whoB g t = true:=by
 unfold whoB
 rw [Bool.and_eq_true,List.all_eq_true,List.all_eq_true]
 refine ⟨fun m hm => by rw [h1 m hm]; rfl,fun f hf => ?_⟩
 rw [List.all_eq_true]
 exact fun m hm => by simpa using h2 f hf m hm

set_option maxHeartbeats 16000000 in
set_option maxRecDepth 20000 in
theorem class13_any {g : Img} {t : Int} {w : World} (hg : Im w g) (hw : welB g = true) (ht : kndI g t = 0) (hwf : Wf t) : Ans 46 #[imA4 g,.int .i64 t] w (.bool (bitB (flI g t) 4 || whoB g t)):=by
 obtain ⟨w0,HW0,HB0,HG,HC,HI,c0,c1,c2,c3⟩:=img_head hg
 have W0:=Wel.of hw
 have hi:=W0.im
 have hln:=im_len hi
 have hn : numB t g.ts.length = true:=knd_num (by rw [ht]; decide)
 have HAb : Hid (∀ W,Below w0.heap.size w0 W → Ans 83 #[imA4 g,.int .i64 t] W (.bool (bitB (flI g t) 4))):=fun W hW => by
  obtain ⟨q,hq,hql⟩:=num_nat hn
  rw [hq]
  exact isAbstract13_any (HI.out W hW) hi hql
 have HTb : Hid (∀ W,Below w0.heap.size w0 W → Calls Tryz.prog 55 #[imA4 g,.int .i64 t] W fun e w' => ∃ v,e = .returned (tbV g v)∧OwnI w' W.heap.size v (tabL g t)∧Below W.heap.size W w'):=fun W hW => tableOf_any hw hn (HI.out W hW)
 have HFc : Hid (∀ W,Below w0.heap.size w0 W → Calls Tryz.prog 15 #[imA4 g,.int .i64 t] W fun e w' => ∃ v l,e = .returned v∧l.Perm (facL g t)∧OwnI w' W.heap.size v l∧Below W.heap.size W w'):=fun W hW => faces_any (HI.out W hW) hi hwf
 have HMt : Hid (∀ W u,Below w0.heap.size w0 W → Calls Tryz.prog 47 #[imA4 g,.int .i64 u] W fun e w' => ∃ v,e = .returned v∧OwnI w' W.heap.size v (mtdN g u)∧Below W.heap.size W w'):=fun W u hW => methods_any (HI.out W hW) hi
 have HDn : Hid (∀ W f m,Below w0.heap.size w0 W → f ∈ facL g t → m ∈ mtdN g f → Ans 76 #[imA4 g,.int .i64 t,.int .i64 m] W (.int .i64 (donI g t m))):=fun W f m hW hf hm => by
  obtain ⟨h1,h2⟩:=mem_mtd hm
  exact doneBy_any (HI.out W hW) hw h1 ht hwf (bel_iff.2 (Or.inr (by rw [h2]; exact hf)))
 have HHs : Hid (∀ W (q : Nat) (hq : q < g.ms.length),Ans 84 #[mdV g.ms[q],.int .i64 4] W (.bool (bitB (mflI g (q : Int)) 4))):=fun W q hq => by
  rw [mflI_at hq]
  exact (has13_any _ (mfl_bound hi hq) W).2.2.1
 have HMq : Hid (∀ (q : Nat) (hq : q < g.ms.length),∃ mb moff,g.ma = some ⟨mb,moff,none⟩∧g.ms.length ≤ g.mc∧g.mc ≤ maxLen∧∀ W,Below w0.heap.size w0 W → ∀ k (hk : k < g.ms.length),MtA W mb (moff + k * 12) g.ms[k]):=fun q hq => (HI.out w0 (Below.refl _ _)).mth hq
 have HTn : Hid (∀ m ∈ tabL g t,∃ (q : Nat) (hq : q < g.ms.length),m = (q : Int)):=fun m hm => mNum_at (tab_num hm)
 have HW1 : Hid (∀ (i : Nat) (hi : i < (tabL g t).length),bitB (mflI g (tabL g t)[i]) 4 = true → whoB g t = false):=fun i hi h => who_tab hi h
 have HW2 : Hid (∀ f m,f ∈ facL g t → m ∈ mtdN g f → donI g t m = -1 → whoB g t = false):=fun f m hf hm h => who_face hf hm h
 have HW3 : Hid ((∀ m ∈ tabL g t,bitB (mflI g m) 4 = false) → (∀ f ∈ facL g t,∀ m ∈ mtdN g f,donI g t m ≠ -1) → whoB g t = true):=who_yes
 have HML : Hid (∀ u,(mtdN g u).length ≤ 64):=fun u => by
  show (mtdN g u).length ≤ 64
  unfold mtdN
  cases numB u g.ts.length with
  | false => simp
  | true =>
   have:=pkN_len (fun x : MD => decide (x.ow = u)) g.ms 0
   rw [if_pos rfl]
   omega
 have HR : Hid ((bitB (flI g t) 4 || whoB g t) = (bitB (flI g t) 4 || whoB g t)):=rfl
 have HC4 : Hid (∀ W,Below w0.heap.size w0 W → Im4 W w.heap.size g):=HC.out
 have hfl:=field_tb
 unfold imA4 at HAb HTb HFc HMt HDn ⊢
 unfold tbV at HTb
 unfold mdV at HHs
 unfold Im4 at HC4
 clear hg hw ht hwf hn W0 hi HG HC HI
 generalize g.ma = ma at *
 generalize tabL g t = T at *
 generalize facL g t = FL at *
 generalize whoB g t = wh at *
 generalize bitB (flI g t) 4 = ab at *
 go_enter Tryz.func46,Tryz.ntmps46
 go_wp2_with (rw [← HW0.out])
 refine Calls.mono (HAb.out w0 (Below.refl _ _)) ?_
 rintro e w1 ⟨rfl,hb1⟩
 have HB1 : Hid (Below w0.heap.size w0 w1):=hb1
 clear hb1 c0 c1 c2 c3 HAb
 cases ab with
 | true =>
  go_wp2_with fail
  go_ret
  exact ⟨rfl,bstep HB0.out HB1.out⟩
 | false =>
  obtain ⟨c0,c1,c2,c3⟩:=HC4.out w1 HB1.out
  go_wp2_with fail
  refine Calls.mono (HTb.out w1 HB1.out) ?_
  rintro e w2 ⟨tv,rfl,ho2,hb2⟩
  have HB2 : Hid (Below w0.heap.size w0 w2):=bstep HB1.out hb2
  obtain ⟨ta,tc,htv,_,htc⟩:=ho2.is.shape
  have HTs : Hid (∀ W,Below w2.heap.size w2 W → Is W (.slice ta T.length tc) T):=fun W hW => by
   have:=ho2.is.later hW
   rw [htv] at this; exact this
  have htl:=ho2.is.len
  rw [i64s_length] at htl
  subst htv
  unfold maxLen at htc htl
  clear ho2 hb2 c0 c1 c2 c3 HTb
  go_wp2_with fail
  go_loopw [6,19] (fun _ z wr => ∃ i : Nat,i ≤ T.length∧z = .int .i64 i∧Hid (Below w2.heap.size w2 wr)∧Hid (∀ m ∈ T.take i,bitB (mflI g m) 4 = false)) (fun _ z _ => T.length - (intOf z).toNat)
  case atStart => exact ⟨0,Nat.zero_le _,rfl,Below.refl _ _,(show ∀ t ∈ _,_ from by simp)⟩
  case round =>
   obtain ⟨i,hil0,rfl,HB,HA⟩:=hrel
   by_cases hil : i < T.length
   ·have hii : (i : Int) < (T.length : Int):=by omega
    have HB0r : Hid (Below w0.heap.size w0 wr):=bstep HB2.out HB.out
    obtain ⟨r,hr,hTr⟩:=HTn.out T[i] (List.getElem_mem hil)
    have hri : (r : Int) < (g.ms.length : Int):=by omega
    obtain ⟨mb,moff,hma,h3,h4,hcm⟩:=HMq.out r hr
    obtain ⟨lb,loff,hla,hlb,_,h6',h7',hcv⟩:=(HTs.out wr HB.out).at hil
    have cA:=hcv i hil
    have hM:=hcm wr HB0r.out r hr
    obtain ⟨k0,k1,k2,k3,k4,k5,k6,k7,k8,k9,k10,k11⟩:=hM
    have HHq : Hid (Ans 84 _ wr (.bool (bitB (mflI g (r : Int)) 4))):=HHs.out wr r hr
    have HBd : Hid (bitB (mflI g (r : Int)) 4 = true → wh = false):=fun h => HW1.out i hil (by rw [hTr]; exact h)
    have HGd : Hid (bitB (mflI g (r : Int)) 4 = false → ∀ m ∈ T.take (i + 1),bitB (mflI g m) 4 = false):=fun h m hm => by
     rw [List.take_succ_eq_append_getElem hil] at hm
     rcases List.mem_append.1 hm with hm | hm
     ·exact HA.out m hm
     ·simp at hm; subst hm; rw [hTr]; exact h
    obtain ⟨c0,c1,c2,c3⟩:=HC4.out wr HB0r.out
    rw [hTr] at cA
    unfold maxLen at h4
    subst hla hma
    clear hcv hTr hcm
    generalize bitB (mflI g (r : Int)) 4 = b4 at *
    generalize g.ms[r] = x at *
    go_wp2_with fail
    refine Calls.mono HHq.out ?_
    rintro e w3 ⟨rfl,hb3⟩
    have HB3 : Hid (Below w2.heap.size w2 w3):=bstep HB.out hb3
    have HB03 : Hid (Below w0.heap.size w0 w3):=bstep HB0r.out hb3
    clear hb3 HHq cA c0 c1 c2 c3 k0 k1 k2 k3 k4 k5 k6 k7 k8 k9 k10 k11
    cases b4 with
    | true =>
     have HF : Hid (wh = false):=HBd.out (by trivial)
     go_wp2_with fail
     go_ret
     exact ⟨ret_bool (by rw [HF.out]; rfl),bstep HB0.out HB03.out⟩
    | false =>
     have HA2 : Hid _:=HGd.out (by trivial)
     go_wp2_with fail
     go_roundw
     case rel => exact ⟨i + 1,by omega,by go_num,HB3.out,HA2.out⟩
     case measure => simp [intOf] <;> omega
   ·have hii : ¬ (i : Int) < (T.length : Int):=by omega
    have HAll : Hid (∀ m ∈ T,bitB (mflI g m) 4 = false):=fun m hm => HA.out m (by rw [List.take_of_length_le (by omega)]; exact hm)
    have HB0r : Hid (Below w0.heap.size w0 wr):=bstep HB2.out HB.out
    obtain ⟨c0,c1,c2,c3⟩:=HC4.out wr HB0r.out
    clear HA HB
    go_wp2_with fail
    refine Calls.mono (HFc.out wr HB0r.out) ?_
    rintro e w3 ⟨fv,FL2,rfl,hperm,ho3,hb3⟩
    have HPm : Hid (FL2.Perm FL):=hperm
    have HB3 : Hid (Below w0.heap.size w0 w3):=bstep HB0r.out hb3
    obtain ⟨fa,fc,hfv,_,hfc⟩:=ho3.is.shape
    have HFs : Hid (∀ W,Below w3.heap.size w3 W → Is W (.slice fa FL2.length fc) FL2):=fun W hW => by
     have:=ho3.is.later hW
     rw [hfv] at this; exact this
    have hfl2:=ho3.is.len
    rw [i64s_length] at hfl2
    subst hfv
    unfold maxLen at hfc hfl2
    clear ho3 hb3 hperm c0 c1 c2 c3 HFc HB0r
    go_wp2_with fail
    obtain ⟨wo,hwo⟩ : ∃ W,W = wr:=⟨_,rfl⟩
    subst hwo
    go_loopw [8,10,34] (fun _ _ z wx => ∃ j : Nat,j ≤ FL2.length∧z = .int .i64 j∧Hid (Below w3.heap.size w3 wx)∧Hid (∀ f ∈ FL2.take j,∀ m ∈ mtdN g f,donI g t m ≠ -1)) (fun _ _ z _ => FL2.length - (intOf z).toNat)
    case atStart => exact ⟨0,Nat.zero_le _,rfl,Below.refl _ _,(show ∀ t ∈ _,_ from by simp)⟩
    case round =>
     obtain ⟨j,hjl0,rfl,HB,HA⟩:=hrel
     by_cases hjl : j < FL2.length
     ·have hji : (j : Int) < (FL2.length : Int):=by omega
      have HB0r : Hid (Below w0.heap.size w0 wr):=bstep HB3.out HB.out
      obtain ⟨lb,loff,hla,hlb,_,h6',h7',hcv⟩:=(HFs.out wr HB.out).at hjl
      have cA:=hcv j hjl
      have hfm : FL2[j] ∈ FL:=HPm.out.mem_iff.1 (List.getElem_mem hjl)
      have HMu : Hid _:=HMt.out wr FL2[j] HB0r.out
      have HBd : Hid (∀ m ∈ mtdN g FL2[j],donI g t m = -1 → wh = false):=fun m hm h => HW2.out _ m hfm hm h
      have HDq : Hid (∀ W m,Below w0.heap.size w0 W → m ∈ mtdN g FL2[j] → Ans 76 #[.agg #[.slice g.ta g.ts.length g.tc,.slice g.fa g.fs.length g.fc,.slice ma g.ms.length g.mc,.int .i64 g.en],.int .i64 t,.int .i64 m] W (.int .i64 (donI g t m))):=fun W m hW hm => HDn.out W FL2[j] m hW hfm hm
      have HGd : Hid ((∀ m ∈ mtdN g FL2[j],donI g t m ≠ -1) → ∀ f ∈ FL2.take (j + 1),∀ m ∈ mtdN g f,donI g t m ≠ -1):=fun h f hf m hm => by
       rw [List.take_succ_eq_append_getElem hjl] at hf
       rcases List.mem_append.1 hf with hf | hf
       ·exact HA.out f hf m hm
       ·simp at hf; subst hf; exact h m hm
      have hml:=HML.out FL2[j]
      obtain ⟨c0,c1,c2,c3⟩:=HC4.out wr HB0r.out
      subst hla
      clear hcv hfm
      generalize mtdN g FL2[j] = M at *
      generalize FL2[j] = f at *
      go_wp2_with fail
      refine Calls.mono HMu.out ?_
      rintro e w4 ⟨mv,rfl,ho4,hb4⟩
      have HB4 : Hid (Below w3.heap.size w3 w4):=bstep HB.out hb4
      obtain ⟨va,vc,hvv,_,hvc⟩:=ho4.is.shape
      have HVs : Hid (∀ W,Below w4.heap.size w4 W → Is W (.slice va M.length vc) M):=fun W hW => by
       have:=ho4.is.later hW
       rw [hvv] at this; exact this
      subst hvv
      unfold maxLen at hvc
      clear ho4 hb4 c0 c1 c2 c3 cA HMu HB0r
      go_wp2_with fail
      obtain ⟨wo2,hwo2⟩ : ∃ W,W = wr:=⟨_,rfl⟩
      subst hwo2
      go_loopw [10,42] (fun _ z wx => ∃ s : Nat,s ≤ M.length∧z = .int .i64 s∧Hid (Below w4.heap.size w4 wx)∧Hid (∀ m ∈ M.take s,donI g t m ≠ -1)) (fun _ z _ => M.length - (intOf z).toNat)
      case atStart => exact ⟨0,Nat.zero_le _,rfl,Below.refl _ _,(show ∀ t ∈ _,_ from by simp)⟩
      case round =>
       obtain ⟨s,hsl0,rfl,HBs,HAs⟩:=hrel
       by_cases hsl : s < M.length
       ·have hsi : (s : Int) < (M.length : Int):=by omega
        have HB0r : Hid (Below w0.heap.size w0 wr):=bstep HB3.out (bstep HB4.out HBs.out)
        obtain ⟨lb2,loff2,hla,hlb2,_,h8',h9',hcv⟩:=(HVs.out wr HBs.out).at hsl
        have cB:=hcv s hsl
        have HDs : Hid _:=HDq.out wr M[s] HB0r.out (List.getElem_mem hsl)
        have HBs1 : Hid (donI g t M[s] = -1 → wh = false):=fun h => HBd.out _ (List.getElem_mem hsl) h
        have HGs : Hid (donI g t M[s] ≠ -1 → ∀ m ∈ M.take (s + 1),donI g t m ≠ -1):=fun h m hm => by
         rw [List.take_succ_eq_append_getElem hsl] at hm
         rcases List.mem_append.1 hm with hm | hm
         ·exact HAs.out m hm
         ·simp at hm; subst hm; exact h
        obtain ⟨c0,c1,c2,c3⟩:=HC4.out wr HB0r.out
        subst hla
        clear hcv
        generalize donI g t M[s] = d at *
        generalize M[s] = m at *
        go_wp2_with fail
        refine Calls.mono HDs.out ?_
        rintro e w5 ⟨rfl,hb5⟩
        have HB5 : Hid (Below w4.heap.size w4 w5):=bstep HBs.out hb5
        have HB05 : Hid (Below w0.heap.size w0 w5):=bstep HB0r.out hb5
        clear hb5 HDs cB c0 c1 c2 c3
        by_cases hd : d = -1
        ·subst hd
         have HF : Hid (wh = false):=HBs1.out (by trivial)
         go_wp2_with fail
         go_ret
         exact ⟨ret_bool (by rw [HF.out]; rfl),bstep HB0.out HB05.out⟩
        ·have hdb : (d == -1) = false:=by simpa using hd
         have HA2 : Hid _:=HGs.out hd
         clear hd
         go_wp2_with fail
         go_roundw
         case rel => exact ⟨s + 1,by omega,by go_num,HB5.out,HA2.out⟩
         case measure => simp [intOf] <;> omega
       ·have hsi : ¬ (s : Int) < (M.length : Int):=by omega
        have HA2 : Hid _:=HGd.out (fun m hm => HAs.out m (by rw [List.take_of_length_le (by omega)]; exact hm))
        go_wp2_with fail
        go_roundw
        case rel => exact ⟨j + 1,by omega,by go_num,bstep HB4.out HBs.out,HA2.out⟩
        case measure => simp [intOf] <;> omega
     ·have hji : ¬ (j : Int) < (FL2.length : Int):=by omega
      have HF : Hid (wh = true):=HW3.out HAll.out (fun f hf => HA.out f (by rw [List.take_of_length_le (by omega)]; exact HPm.out.mem_iff.2 hf))
      go_wp2_with fail
      go_ret
      exact ⟨ret_bool (by rw [HF.out]),bstep HB0.out (bstep HB3.out HB.out)⟩

theorem beg_rt {t : Ty} (h : mayT 3 t = true) : (decide (t = (1,0,0,false)) || (decide (t = (2,0,0,false)) || decide (t = (3,0,0,false)))) = (decide (t.2.2.1 = 0) && decide (1 ≤ t.1∧t.1 ≤ 3)):=by
 obtain ⟨k,i,d,r⟩:=t
 have h0 : plainB k i d r = true∧r = false:=by
  unfold mayT mayB at h
  rw [if_neg (by decide),if_neg (by decide),if_pos rfl,Bool.and_eq_true,Bool.not_eq_true'] at h
  exact h
 obtain ⟨h1,h5⟩:=h0
 unfold plainB at h1
 rw [decide_eq_true_iff] at h1
 obtain ⟨h1,h2,h3,h4⟩:=h1
 subst h5
 rw [Bool.eq_iff_iff]
 simp only [Bool.or_eq_true,decide_eq_true_iff,Bool.and_eq_true,Prod.mk.injEq,and_true]
 omega

set_option maxHeartbeats 4000000 in
theorem mayBegin_any {x : MD} (hx : 0 ≤ x.fl∧x.fl ≤ 31) (hr : mayT 3 x.rt = true) (w : World) : Ans 48 #[mdV x] w (.bool (begM x)):=by
 obtain ⟨w0,HW0,HB0,HC,c0,c1,c2,c3,c4,c5,c6,c7,c8,c9,c10,c11⟩:=mth_head w x
 have HH : Hid (∀ W,Ans 84 #[mdV x,.int .i64 1] W (.bool (bitB x.fl 1))∧Ans 84 #[mdV x,.int .i64 4] W (.bool (bitB x.fl 4))):=fun W => ⟨(has13_any x hx W).1,(has13_any x hx W).2.2.1⟩
 have HR : Hid (begM x = (bitB x.fl 1 && (decide (x.ps = []) && (!bitB x.fl 4 && (decide (x.rt = (1,0,0,false)) || (decide (x.rt = (2,0,0,false)) || decide (x.rt = (3,0,0,false)))))))):=by
  show _ = _
  rw [beg_rt hr]; rfl
 have q1 : ∀ W : World,(binOp .eql 51 (.agg #[.int .i64 x.rt.1,.int .i64 x.rt.2.1,.int .i64 x.rt.2.2.1,.bool x.rt.2.2.2]) (.agg #[.int .i64 1,.int .i64 0,.int .i64 0,.bool false])).run Tryz.prog W = .ok (.bool (decide (x.rt = (1,0,0,false)))) W:=fun W => eq_ty2 W x.rt (1,0,0,false)
 have q2 : ∀ W : World,(binOp .eql 51 (.agg #[.int .i64 x.rt.1,.int .i64 x.rt.2.1,.int .i64 x.rt.2.2.1,.bool x.rt.2.2.2]) (.agg #[.int .i64 2,.int .i64 0,.int .i64 0,.bool false])).run Tryz.prog W = .ok (.bool (decide (x.rt = (2,0,0,false)))) W:=fun W => eq_ty2 W x.rt (2,0,0,false)
 have q3 : ∀ W : World,(binOp .eql 51 (.agg #[.int .i64 x.rt.1,.int .i64 x.rt.2.1,.int .i64 x.rt.2.2.1,.bool x.rt.2.2.2]) (.agg #[.int .i64 3,.int .i64 0,.int .i64 0,.bool false])).run Tryz.prog W = .ok (.bool (decide (x.rt = (3,0,0,false)))) W:=fun W => eq_ty2 W x.rt (3,0,0,false)
 have HE : Hid (decide (x.ps = []) = decide (x.ps.length = 0)):=by
  show _ = _
  rw [decide_eq_decide]
  exact List.length_eq_zero_iff.symm
 unfold mdV at HH
 clear hx hr
 generalize begM x = R at *
 generalize bitB x.fl 1 = b1 at *
 generalize bitB x.fl 4 = b4 at *
 generalize decide (x.rt = (1,0,0,false)) = r1 at *
 generalize decide (x.rt = (2,0,0,false)) = r2 at *
 generalize decide (x.rt = (3,0,0,false)) = r3 at *
 unfold mdV
 generalize decide (x.ps = []) = e0 at *
 generalize hxn : x.ps.length = n at *
 have HXn : Hid (x.ps.length = n):=hxn
 clear hxn
 go_enter Tryz.func48,Tryz.ntmps48
 go_wp2_with (rw [← HW0.out])
 refine Calls.mono (HH.out _).1 ?_
 rintro e w1 ⟨rfl,hb1⟩
 have HB1 : Hid (Below w0.heap.size w0 w1):=hb1
 clear hb1 c0 c1 c2 c3 c4 c5 c6 c7 c8 c9 c10 c11
 cases b1 with
 | false =>
  go_wp2_with fail
  go_ret
  exact ⟨ret_bool (by rw [HR.out]; rfl),bstep HB0.out HB1.out⟩
 | true =>
  obtain ⟨c0,c1,c2,c3,c4,c5,c6,c7,c8,c9,c10,c11⟩:=HC.out w1 HB1.out
  rw [HXn.out] at c3
  by_cases hn : n = 0
  ·have HP : Hid (e0 = true):=by
    show _ = _
    rw [HE.out]; exact decide_eq_true hn
   subst hn
   go_wp2_with fail
   refine Calls.mono (HH.out _).2 ?_
   rintro e w2 ⟨rfl,hb2⟩
   have HB2 : Hid (Below w0.heap.size w0 w2):=bstep HB1.out hb2
   clear hb2 c0 c1 c2 c3 c4 c5 c6 c7 c8 c9 c10 c11
   cases b4 with
   | true =>
    go_wp2_with fail
    go_ret
    exact ⟨ret_bool (by rw [HR.out,HP.out]; rfl),bstep HB0.out HB2.out⟩
   | false =>
    obtain ⟨c0,c1,c2,c3,c4,c5,c6,c7,c8,c9,c10,c11⟩:=HC.out w2 HB2.out
    rw [HXn.out] at c3
    cases r1 with
    | true =>
     go_wp2_with fail
     go_ret
     exact ⟨ret_bool (by rw [HR.out,HP.out]; rfl),bstep HB0.out HB2.out⟩
    | false =>
     cases r2 with
     | true =>
      go_wp2_with fail
      go_ret
      exact ⟨ret_bool (by rw [HR.out,HP.out]; rfl),bstep HB0.out HB2.out⟩
     | false =>
      cases r3 with
      | true =>
       go_wp2_with fail
       go_ret
       exact ⟨ret_bool (by rw [HR.out,HP.out]; rfl),bstep HB0.out HB2.out⟩
      | false =>
       go_wp2_with fail
       go_ret
       exact ⟨ret_bool (by rw [HR.out,HP.out]; rfl),bstep HB0.out HB2.out⟩
  ·have HP : Hid (e0 = false):=by
    show _ = _
    rw [HE.out]; exact decide_eq_false hn
   have hpn : 0 < n:=by omega
   have hpi : (0 : Int) < (n : Int):=by omega
   go_wp2_with fail
   go_ret
   exact ⟨ret_bool (by rw [HR.out,HP.out]; rfl),bstep HB0.out HB1.out⟩
end Go.Proofs.YthpmpdpfnlecmaaGreat

namespace Go.Proofs.YthpmpdpfnlecmaaGreat
set_option linter.unusedVariables false
set_option linter.unusedSimpArgs false
open Go.RowKit Go.Maps
theorem keyOf_gen {P : Program} {k ki kb : TypeId} {fs : Array Field} {f0 f1 f2 f3 : Field} (hk : P.underlying k = some (.struct fs)) (hfs : fs.toList = [f0,f1,f2,f3]) (hn : (f0.name != "_" && (f1.name != "_" && (f2.name != "_" && f3.name != "_"))) = true)
  (h0 : f0.type = ki) (h1 : f1.type = ki) (h2 : f2.type = ki) (h3 : f3.type = kb) (o0 : f0.offset = 0) (o1 : f1.offset = 1) (o2 : f2.offset = 2) (o3 : f3.offset = 3) (hi : P.underlying ki = some (.int .i64)) (hb : P.underlying kb = some .bool)
  (hc : P.cellsOf k = 4) (ci : P.cellsOf ki = 1) (cb : P.cellsOf kb = 1) (hkt : P.keyType k = true) (hs : k < P.types.size) {a b c : Int} {d : Bool} (ha : (Lit.int .i64 a).wf = true) (hb2 : (Lit.int .i64 b).wf = true) (hc2 : (Lit.int .i64 c).wf = true) :
  keyOf P k (.agg #[.int .i64 a,.int .i64 b,.int .i64 c,.bool d]) = some (.string (keyBytes [.int .i64 a,.int .i64 b,.int .i64 c,.bool d])):=by
 have hf : (Value.agg #[.int .i64 a,.int .i64 b,.int .i64 c,.bool d]).formed P k = true:=by simp [Value.formed,hk,hc]
 have hpos : 0 < P.types.size:=Nat.lt_of_le_of_lt (Nat.zero_le k) hs
 obtain ⟨m,hm⟩ : ∃ m,P.types.size = m + 1:=⟨P.types.size - 1,by omega⟩
 have hall : fs.all (fun f => f.name != "_") = true:=by
  rw [← Array.all_toList,hfs]
  simpa [Bool.and_eq_true] using hn
 unfold keyOf
 rw [hk]
 simp only [hkt,hf,Bool.and_self,if_true]
 rw [hm]
 simp [Program.keyLits,hk,hi,hb,hc,ci,cb,hfs,hall,h0,h1,h2,h3,o0,o1,o2,o3,Value.cells,ha,hb2,hc2]

theorem Tryz.laid13 : laidOutB Tryz.prog = true:=by kernel_rfl
theorem Tryz.row13 : (51 : TypeId) < Tryz.prog.types.size:=of_decide_eq_true (by kernel_rfl)
theorem Tryz.deep13 : Tryz.prog.keyTypeAt 2 51 = true:=by kernel_rfl
theorem lawTy : Keyed Tryz.prog 51:=Keyed.of_law (deep_law_laid Tryz.laid13 (m := 2) (by omega) Tryz.row13 Tryz.deep13 (by rw [Tryz.underlying51]))
theorem Tryz.key13 : Tryz.prog.keyType 51 = true:=by kernel_rfl
theorem Tryz.cells13 : Tryz.prog.cellsOf 51 = 4:=by kernel_rfl
theorem Tryz.cellsI13 : Tryz.prog.cellsOf 3 = 1:=by kernel_rfl
theorem Tryz.cellsB13 : Tryz.prog.cellsOf 4 = 1:=by kernel_rfl
def tyV13 (t : Ty) : Value := .agg #[.int .i64 t.1,.int .i64 t.2.1,.int .i64 t.2.2.1,.bool t.2.2.2]
def keyTy (t : Ty) : Lit := .string (keyBytes [.int .i64 t.1,.int .i64 t.2.1,.int .i64 t.2.2.1,.bool t.2.2.2])
def WfT (t : Ty) : Prop:=(Lit.int .i64 t.1).wf = true∧(Lit.int .i64 t.2.1).wf = true∧(Lit.int .i64 t.2.2.1).wf = true
theorem keyTy_of {t : Ty} (h : WfT t) : keyOf Tryz.prog 51 (tyV13 t) = some (keyTy t) :=
 keyOf_gen Tryz.underlying51 rfl rfl rfl rfl rfl rfl rfl rfl rfl rfl Tryz.underlying3 Tryz.underlying4 Tryz.cells13 Tryz.cellsI13 Tryz.cellsB13 Tryz.key13 Tryz.row13 h.1 h.2.1 h.2.2
theorem Tryz.tiled13 : Tryz.prog.tiled 2 51 = true:=by kernel_rfl
theorem keyTy_inj {s t : Ty} (hs : WfT s) (ht : WfT t) (h : keyTy s = keyTy t) : s = t:=by
 have:=keyOf_inj_deep Tryz.tiled13 (by rw [Tryz.underlying51]) (keyTy_of hs) (by rw [h]; exact keyTy_of ht)
 unfold tyV13 at this
 obtain ⟨a,b,c,d⟩:=s
 obtain ⟨a',b',c',d'⟩:=t
 simpa using this
end Go.Proofs.YthpmpdpfnlecmaaGreat
