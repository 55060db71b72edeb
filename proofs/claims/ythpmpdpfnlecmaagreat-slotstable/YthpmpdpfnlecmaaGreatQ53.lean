/- Texts joined: RefCheck12, OpenE9. -/
import Derived.Test.YthpmpdpfnlecmaaGreatQ49
import Derived.Test.YthpmpdpfnlecmaaGreatQ52
import Derived.Test.YthpmpdpfnlecmaaGreatQ02
import Derived.Test.YthpmpdpfnlecmaaGreatQ07
namespace Go.Proofs.YthpmpdpfnlecmaaGreat
set_option linter.unusedVariables false
set_option linter.unusedSimpArgs false
open Go.RowKit
attribute [local go_sem ↓] Go.wp_at_zero Go.wp_at_succ
theorem too_val {g : Img} {t : Int} (h : kndI g t = 1) : tooB g t = decide (8 < cutN 8 (celL g (6,t,0,false)).length):=by
 unfold tooB; rw [if_pos h]
 have:=(cut_cn 8 (celL g (6,t,0,false)).length).lt
 rw [Bool.eq_iff_iff,decide_eq_true_iff,decide_eq_true_iff]; exact this.symm
theorem too_cls {g : Img} {t : Int} (h : kndI g t = 0) {n : Nat} (hn : CnB 32 n (objP g (upL g t) g.fs.length).length) : tooB g t = decide (32 < n):=by
 unfold tooB; rw [h,if_neg (by decide),if_pos rfl]
 rw [objP_len] at hn
 rw [Bool.eq_iff_iff,decide_eq_true_iff,decide_eq_true_iff]; exact hn.lt.symm
theorem too_rest {g : Img} {t : Int} (h0 : kndI g t ≠ 0) (h1 : kndI g t ≠ 1) : tooB g t = false:=by
 unfold tooB; rw [if_neg h1,if_neg h0]

set_option maxHeartbeats 16000000 in
set_option maxRecDepth 20000 in
theorem refCheck12_any {g : Img} {w : World} (hg : Im w g) (hnm : g.nmOk) :
  Ans 58 #[imA4 g] w (.tuple #[.int .i64 (lchI g).1,.int .i64 (lchI g).2]):=by
 obtain ⟨w0,HW0,HB0,HG,HC,HI,c0,c1,c2,c3⟩:=img_head hg
 have htl:=hg.ts.len
 have hfl:=hg.fs.len
 unfold maxLen at htl hfl
 have HCk : Hid (Ans 11 #[imA4 g] w0 (.bool (welB g))):=refWell_any (HI.out w0 (Below.refl _ _)) hnm
 have HFs : Hid (∀ W,Below w0.heap.size w0 W → Es fdE W (.slice g.fa g.fs.length g.fc) g.fs):=fun W hW => (HI.out W hW).fs
 have HC4 : Hid (∀ W,Below w0.heap.size w0 W → Im4 W w.heap.size g):=HC.out
 have HUw : Hid (∀ W t,Below w0.heap.size w0 W → welB g = true → Ans 87 #[imA4 g,.agg #[.int .i64 t.1,.int .i64 t.2.1,.int .i64 t.2.2.1,.bool t.2.2.2]] W (.bool (usdB g t))):=fun W t hW hw => refUsed_any t (HI.out W hW) (Wel.of hw).im
 have HKn : Hid (∀ W t,Below w0.heap.size w0 W → welB g = true → Ans 27 #[imA4 g,.int .i64 t] W (.int .i64 (kndI g t))):=fun W t hW hw => refKind_any t (HI.out W hW) (FlOk.of (Wel.of hw).im)
 have HUp : Hid (∀ W t,Below w0.heap.size w0 W → welB g = true → Calls Tryz.prog 34 #[imA4 g,.int .i64 t] W fun e w' => ∃ v,e = .returned v∧OwnI w' W.heap.size v (upL g t)∧Below W.heap.size W w'):=fun W t hW hw => refUp_any (HI.out W hW) (Wel.of hw).im
 have HCo : Hid (∀ W t (b : Nat),Below w0.heap.size w0 W → welB g = true → AllU g → 1 ≤ b → b ≤ 100 → usdB g t = true → Ans 96 #[imA4 g,.agg #[.int .i64 t.1,.int .i64 t.2.1,.int .i64 t.2.2.1,.bool t.2.2.2],.int .i64 (b : Int)] W (.int .i64 (cutN b (celL g t).length))):=fun W t b hW hw hu h1 h2 h3 => refCount_any ⟨hw,hu⟩ h1 h2 (HI.out W hW) h3
 have HS6 : Hid (∀ t,welB g = true → AllU g → kndI g t = 1 → usdB g (6,t,0,false) = true):=fun t hw hu hk => (WU.mk hw hu).six hk
 have HK4 : Hid (∀ q : Nat,q < g.ts.length → kndI g (q : Int) = 0 ∨ kndI g (q : Int) = 2 ∨ kndI g (q : Int) = 1 ∨ kndI g (q : Int) = 3):=fun q hq => by rw [knd_at hq]; exact kindF_four _
 have HL1 : Hid (welB g = false → lchI g = (0,17)):=lch_wel
 have HL2 : Hid (welB g = true → ∀ (i : Nat) (hi : i < g.fs.length),(∀ x ∈ g.fs.take i,usdB g x.t = true) → usdB g g.fs[i].t = false → lchI g = ((i : Int),10)):=fun h i hi => lch_used h hi
 have HL3 : Hid (welB g = true → AllU g → ∀ i : Nat,i < g.ts.length → (∀ j < i,tooB g (j : Int) = false) → tooB g (i : Int) = true → lchI g = ((i : Int),20)):=fun h U i hi => lch_too h U hi
 have HL4 : Hid (welB g = true → AllU g → (∀ j < g.ts.length,tooB g (j : Int) = false) → lchI g = (0,0)):=lch_ok
 unfold imA4 at HCk HUw HKn HUp HCo ⊢
 unfold Im4 at HC4
 generalize g.fa = fa at *
 clear hg hnm HC HI HG
 go_enter Tryz.func58,Tryz.ntmps58
 go_wp2_with (rw [← HW0.out])
 refine Calls.mono HCk.out ?_
 rintro e w1 ⟨rfl,hb1⟩
 have HB1 : Hid (Below w0.heap.size w0 w1):=hb1
 clear hb1 c0 c1 c2 c3 HCk
 obtain ⟨c0,c1,c2,c3⟩:=HC4.out w1 HB1.out
 cases hwe : welB g with
 | false =>
  have HR : Hid _:=HL1.out hwe
  clear hwe
  go_wp2_with fail
  go_ret2
  exact ⟨ret_pr12 HR.out,bstep HB0.out HB1.out⟩
 | true =>
  have HW : Hid (welB g = true):=hwe
  clear hwe
  go_wp2_with fail
  clear c0 c1 c2 c3
  go_loopw [4] (fun z wr => ∃ i : Nat,i ≤ g.fs.length∧z = .int .i64 i∧Hid (∀ x ∈ g.fs.take i,usdB g x.t = true)∧Hid (Below w0.heap.size w0 wr)) (fun z _ => g.fs.length - (intOf z).toNat)
  case atStart => exact ⟨0,Nat.zero_le _,rfl,(show ∀ x ∈ _,_ from by simp),HB1.out⟩
  case round =>
   obtain ⟨i,hi,rfl,HA,HB⟩:=hrel
   by_cases hil : i < g.fs.length
   ·have hii : (i : Int) < (g.fs.length : Int):=by omega
    obtain ⟨tb,off,hla,_,hel⟩:=(HFs.out w0 (Below.refl _ _)).elAll (by intro e; rw [e] at hil; simp at hil)
    subst hla
    have HEl : Hid (∀ W,Below w0.heap.size w0 W → El fdE W tb (off + i * 7) g.fs[i]):=fun W hW => hel W hW i hil
    have HBad : Hid (usdB g g.fs[i].t = false → lchI g = ((i : Int),10)):=HL2.out HW.out i hil HA.out
    have HGood : Hid (usdB g g.fs[i].t = true → ∀ x ∈ g.fs.take (i + 1),usdB g x.t = true):=fun h x hx => by
     rw [List.take_succ_eq_append_getElem hil] at hx
     rcases List.mem_append.1 hx with hx | hx
     ·exact HA.out x hx
     ·simp at hx; subst hx; exact h
    have HUq : Hid (∀ W,Below w0.heap.size w0 W → Ans 87 #[.agg #[.slice g.ta g.ts.length g.tc,.slice (some ⟨tb,off,none⟩) g.fs.length g.fc,.slice g.ma g.ms.length g.mc,.int .i64 g.en],.agg #[.int .i64 g.fs[i].t.1,.int .i64 g.fs[i].t.2.1,.int .i64 g.fs[i].t.2.2.1,.bool g.fs[i].t.2.2.2]] W (.bool (usdB g g.fs[i].t))):=fun W hW => HUw.out W _ hW HW.out
    clear hel
    generalize g.fs[i] = x at *
    have HK : Hid (∀ W,Below w0.heap.size w0 W → (W.cell? ⟨w.heap.size,0,none⟩ = some (.slice g.ta g.ts.length g.tc)∧W.cell? ⟨w.heap.size,1,none⟩ = some (.slice (some ⟨tb,off,none⟩) g.fs.length g.fc)∧W.cell? ⟨w.heap.size,2,none⟩ = some (.slice g.ma g.ms.length g.mc)∧W.cell? ⟨w.heap.size,3,none⟩ = some (.int .i64 g.en))∧W.cell? ⟨tb,off + i * 7,none⟩ = some (.string x.nm)∧W.cell? ⟨tb,off + i * 7 + 1,none⟩ = some (.int .i64 x.ow)∧W.cell? ⟨tb,off + i * 7 + 2,none⟩ = some (.int .i64 x.t.1)∧W.cell? ⟨tb,off + i * 7 + 3,none⟩ = some (.int .i64 x.t.2.1)∧W.cell? ⟨tb,off + i * 7 + 4,none⟩ = some (.int .i64 x.t.2.2.1)∧W.cell? ⟨tb,off + i * 7 + 5,none⟩ = some (.bool x.t.2.2.2)∧W.cell? ⟨tb,off + i * 7 + 6,none⟩ = some (.bool x.st)):=fun W hW => ⟨HC4.out W hW,(HEl.out W hW).cells_F⟩
    obtain ⟨⟨c0,c1,c2,c3⟩,k0,k1,k2,k3,k4,k5,k6⟩:=HK.out wr HB.out
    go_wp2_with fail
    go_region_held3 (fun W : World => (W.cell? ⟨w.heap.size,0,none⟩ = some (.slice g.ta g.ts.length g.tc)∧W.cell? ⟨w.heap.size,1,none⟩ = some (.slice (some ⟨tb,off,none⟩) g.fs.length g.fc)∧W.cell? ⟨w.heap.size,2,none⟩ = some (.slice g.ma g.ms.length g.mc)∧W.cell? ⟨w.heap.size,3,none⟩ = some (.int .i64 g.en))∧W.cell? ⟨tb,off + i * 7,none⟩ = some (.string x.nm)∧W.cell? ⟨tb,off + i * 7 + 1,none⟩ = some (.int .i64 x.ow)∧W.cell? ⟨tb,off + i * 7 + 2,none⟩ = some (.int .i64 x.t.1)∧W.cell? ⟨tb,off + i * 7 + 3,none⟩ = some (.int .i64 x.t.2.1)∧W.cell? ⟨tb,off + i * 7 + 4,none⟩ = some (.int .i64 x.t.2.2.1)∧W.cell? ⟨tb,off + i * 7 + 5,none⟩ = some (.bool x.t.2.2.2)∧W.cell? ⟨tb,off + i * 7 + 6,none⟩ = some (.bool x.st))
     (first | (exact HK.out _ (bstep HB.out hBc)) | (exact HK.out _ (bstep HB.out (bdrew _))))
     ((go_at_call 87; refine (HUq.out _ (bstep HB.out (bdrew _))).mono ?_; rintro e w2 ⟨rfl,hb2⟩; have hBc : Below wr.heap.size wr w2:=bstep (bdrew _) hb2))
    rename_i hheld
    clear hheld
    have HB2 : Hid (Below w0.heap.size w0 w2):=bstep HB.out hBc
    clear hb2 hBc c0 c1 c2 c3 k0 k1 k2 k3 k4 k5 k6 HUq HK
    cases hu : usdB g x.t with
    | false =>
     have HR : Hid _:=HBad.out hu
     clear hu HBad HGood
     go_wp2_with fail
     go_ret2
     exact ⟨ret_pr12 HR.out,bstep HB0.out HB2.out⟩
    | true =>
     have HR : Hid _:=HGood.out hu
     clear hu HBad HGood
     go_wp2_with fail
     go_roundw
     case rel => exact ⟨i + 1,by omega,by go_num,HR.out,HB2.out⟩
     case measure => simp [intOf]; omega
   ·have hii : ¬ (i : Int) < (g.fs.length : Int):=by omega
    have HU : Hid (AllU g):=fun x hx => HA.out x (by rw [List.take_of_length_le (by omega)]; exact hx)
    obtain ⟨c0,c1,c2,c3⟩:=HC4.out wr HB.out
    have HBs : Hid (Below w0.heap.size w0 wr):=HB.out
    clear HA HB
    go_wp2_with fail
    clear c0 c1 c2 c3
    go_loopw [5,6,7,8,9] (fun z _ _ _ _ wx => ∃ q : Nat,q ≤ g.ts.length∧z = .int .i64 q∧Hid (∀ j < q,tooB g (j : Int) = false)∧Hid (Below w0.heap.size w0 wx)) (fun z _ _ _ _ _ => g.ts.length - (intOf z).toNat)
    case atStart => exact ⟨0,Nat.zero_le _,rfl,(show ∀ j < 0,_ from by simp),HBs.out⟩
    case round =>
     clear HBs
     obtain ⟨q,hq,rfl,HA,HB⟩:=hrel
     by_cases hql : q < g.ts.length
     ·have hqi : (q : Int) < (g.ts.length : Int):=by omega
      have HBad : Hid (tooB g (q : Int) = true → lchI g = ((q : Int),20)):=HL3.out HW.out HU.out q hql HA.out
      have HGood : Hid (tooB g (q : Int) = false → ∀ j < q + 1,tooB g (j : Int) = false):=fun h j hj => by
       by_cases e : j = q
       ·subst e; exact h
       ·exact HA.out j (by omega)
      have HKq : Hid _:=HKn.out wr (q : Int) HB.out HW.out
      have HT1 : Hid (kndI g (q : Int) = 1 → tooB g (q : Int) = decide (8 < cutN 8 (celL g (6,(q : Int),0,false)).length)):=too_val
      have HT0 : Hid (kndI g (q : Int) = 0 → ∀ n,CnB 32 n (objP g (upL g (q : Int)) g.fs.length).length → tooB g (q : Int) = decide (32 < n)):=fun h n => too_cls h
      have HTr : Hid (kndI g (q : Int) ≠ 0 → kndI g (q : Int) ≠ 1 → tooB g (q : Int) = false):=too_rest
      have HC8 : Hid (∀ W,Below w0.heap.size w0 W → kndI g (q : Int) = 1 → Ans 96 #[.agg #[.slice g.ta g.ts.length g.tc,.slice fa g.fs.length g.fc,.slice g.ma g.ms.length g.mc,.int .i64 g.en],.agg #[.int .i64 6,.int .i64 (q : Int),.int .i64 0,.bool false],.int .i64 8] W (.int .i64 (cutN 8 (celL g (6,(q : Int),0,false)).length))):=fun W hW hk => HCo.out W (6,(q : Int),0,false) 8 hW HW.out HU.out (by decide) (by decide) (HS6.out _ HW.out HU.out hk)
      have hk4:=HK4.out q hql
      obtain ⟨c0,c1,c2,c3⟩:=HC4.out wr HB.out
      generalize tooB g (q : Int) = too at *
      generalize cutN 8 (celL g (6,(q : Int),0,false)).length = C8 at *
      generalize kndI g (q : Int) = kn at *
      go_wp2_with fail
      refine Calls.mono HKq.out ?_
      rintro e w2 ⟨rfl,hb2⟩
      have HB2 : Hid (Below w0.heap.size w0 w2):=bstep HB.out hb2
      clear hb2 c0 c1 c2 c3 HKq
      obtain ⟨c0,c1,c2,c3⟩:=HC4.out w2 HB2.out
      rcases hk4 with rfl | rfl | rfl | rfl
      ·-- a class
       clear HT1 HTr HC8
       go_wp2_with fail
       refine Calls.mono (HUp.out w2 (q : Int) HB2.out HW.out) ?_
       rintro e w3 ⟨uv,rfl,hu,hb3⟩
       have HB3 : Hid (Below w0.heap.size w0 w3):=bstep HB2.out hb3
       obtain ⟨up,hup⟩ : ∃ X,X = upL g (q : Int):=⟨_,rfl⟩
       rw [← hup] at hu HT0
       have HU3 : Hid (∀ W,Below w3.heap.size w3 W → Is W uv up):=fun W hW => hu.is.later hW
       obtain ⟨ua,uc,huv,_,_⟩:=(show Is w3 uv up from hu.is).shape
       subst huv
       have HMo : Hid (∀ i,(objP g up i).length ≤ (objP g up g.fs.length).length):=objP_mono
       clear c0 c1 c2 c3 hu hb3 hup
       go_wp2_with fail
       go_loopw [7,9] (fun nv z wx => ∃ i n : Nat,i ≤ g.fs.length∧z = .int .i64 i∧nv = .int .i64 n∧Hid (CnB 32 n (objP g up i).length)∧n ≤ 65∧Hid (Below w3.heap.size w3 wx)) (fun _ z _ => g.fs.length - (intOf z).toNat)
       case atStart => exact ⟨0,0,Nat.zero_le _,rfl,rfl,Or.inl rfl,by omega,Below.refl _ _⟩
       case round =>
        obtain ⟨i,n,hi,rfl,rfl,HN,hn2,HBx⟩:=hrel
        have HB0x : Hid (Below w0.heap.size w0 wr):=bstep HB3.out HBx.out
        by_cases hgo : i < g.fs.length∧n ≤ 32
        ·obtain ⟨hil,hnb⟩:=hgo
         have hii : (i : Int) < (g.fs.length : Int):=by omega
         have hni : (n : Int) ≤ 32:=by omega
         obtain ⟨tb,off,hla,_,hel⟩:=(HFs.out w0 (Below.refl _ _)).elAll (by intro e; rw [e] at hil; simp at hil)
         subst hla
         have HEl : Hid (∀ W,Below w0.heap.size w0 W → El fdE W tb (off + i * 7) g.fs[i]):=fun W hW => hel W hW i hil
         have HT : Hid (objP g up (i + 1) = objP g up i ++ (if (up.contains g.fs[i].ow && !g.fs[i].st) = true then celL g g.fs[i].t else [])):=objP_take hil
         have HCq : Hid (∀ W,Below w0.heap.size w0 W → Ans 96 #[.agg #[.slice g.ta g.ts.length g.tc,.slice (some ⟨tb,off,none⟩) g.fs.length g.fc,.slice g.ma g.ms.length g.mc,.int .i64 g.en],.agg #[.int .i64 g.fs[i].t.1,.int .i64 g.fs[i].t.2.1,.int .i64 g.fs[i].t.2.2.1,.bool g.fs[i].t.2.2.2],.int .i64 32] W (.int .i64 (cutN 32 (celL g g.fs[i].t).length))):=fun W hW => HCo.out W g.fs[i].t 32 hW HW.out HU.out (by decide) (by decide) (HU.out _ (List.getElem_mem hil))
         clear hel
         generalize g.fs[i] = x at *
         have HK : Hid (∀ W,Below w0.heap.size w0 W → (W.cell? ⟨w.heap.size,0,none⟩ = some (.slice g.ta g.ts.length g.tc)∧W.cell? ⟨w.heap.size,1,none⟩ = some (.slice (some ⟨tb,off,none⟩) g.fs.length g.fc)∧W.cell? ⟨w.heap.size,2,none⟩ = some (.slice g.ma g.ms.length g.mc)∧W.cell? ⟨w.heap.size,3,none⟩ = some (.int .i64 g.en))∧W.cell? ⟨tb,off + i * 7,none⟩ = some (.string x.nm)∧W.cell? ⟨tb,off + i * 7 + 1,none⟩ = some (.int .i64 x.ow)∧W.cell? ⟨tb,off + i * 7 + 2,none⟩ = some (.int .i64 x.t.1)∧W.cell? ⟨tb,off + i * 7 + 3,none⟩ = some (.int .i64 x.t.2.1)∧W.cell? ⟨tb,off + i * 7 + 4,none⟩ = some (.int .i64 x.t.2.2.1)∧W.cell? ⟨tb,off + i * 7 + 5,none⟩ = some (.bool x.t.2.2.2)∧W.cell? ⟨tb,off + i * 7 + 6,none⟩ = some (.bool x.st)):=fun W hW => ⟨HC4.out W hW,(HEl.out W hW).cells_F⟩
         obtain ⟨⟨c0,c1,c2,c3⟩,k0,k1,k2,k3,k4,k5,k6⟩:=HK.out wr HB0x.out
         have HHas : Hid (Calls Tryz.prog 18 #[.slice ua up.length uc,.int .i64 x.ow] wr fun e w' => e = .returned (.bool (up.contains x.ow))∧w' = wr):=refHas_any (HU3.out wr HBx.out) x.ow
         go_wp2_with fail
         refine Calls.mono HHas.out ?_
         rintro e wz ⟨rfl,hz⟩
         subst wz
         clear HHas
         cases hob : up.contains x.ow with
         | false =>
          have HT2 : Hid (CnB 32 n (objP g up (i + 1)).length):=by show CnB _ _ _; rw [HT.out,hob]; simpa using HN.out
          clear HT hob
          go_wp2_with fail
          go_roundw
          case rel => exact ⟨i + 1,n,by omega,by go_num,rfl,HT2.out,by omega,HBx.out⟩
          case measure => simp [intOf]; omega
         | true =>
          cases hst : x.st with
          | true =>
           have HT2 : Hid (CnB 32 n (objP g up (i + 1)).length):=by show CnB _ _ _; rw [HT.out,hob,hst]; simpa using HN.out
           rw [hst] at k6
           clear HT hob hst
           go_wp2_with fail
           go_roundw
           case rel => exact ⟨i + 1,n,by omega,by go_num,rfl,HT2.out,by omega,HBx.out⟩
           case measure => simp [intOf]; omega
          | false =>
           have HT2 : Hid (CnB 32 (n + cutN 32 (celL g x.t).length) (objP g up (i + 1)).length):=by
            show CnB _ _ _
            rw [HT.out,hob,hst,if_pos (by decide),List.length_append]
            exact HN.out.add (cut_cn _ _)
           have hcl : cutN 32 (celL g x.t).length ≤ 33:=cut_le _ _
           rw [hst] at k6 HK
           clear HT hob hst
           generalize cutN 32 (celL g x.t).length = C at *
           go_wp2_with fail
           go_region_held3 (fun W : World => (W.cell? ⟨w.heap.size,0,none⟩ = some (.slice g.ta g.ts.length g.tc)∧W.cell? ⟨w.heap.size,1,none⟩ = some (.slice (some ⟨tb,off,none⟩) g.fs.length g.fc)∧W.cell? ⟨w.heap.size,2,none⟩ = some (.slice g.ma g.ms.length g.mc)∧W.cell? ⟨w.heap.size,3,none⟩ = some (.int .i64 g.en))∧W.cell? ⟨tb,off + i * 7,none⟩ = some (.string x.nm)∧W.cell? ⟨tb,off + i * 7 + 1,none⟩ = some (.int .i64 x.ow)∧W.cell? ⟨tb,off + i * 7 + 2,none⟩ = some (.int .i64 x.t.1)∧W.cell? ⟨tb,off + i * 7 + 3,none⟩ = some (.int .i64 x.t.2.1)∧W.cell? ⟨tb,off + i * 7 + 4,none⟩ = some (.int .i64 x.t.2.2.1)∧W.cell? ⟨tb,off + i * 7 + 5,none⟩ = some (.bool x.t.2.2.2)∧W.cell? ⟨tb,off + i * 7 + 6,none⟩ = some (.bool false))
            (first | (exact HK.out _ (bstep HB0x.out hBc)) | (exact HK.out _ (bstep HB0x.out (bdrew _))))
            ((go_at_call 96; refine (HCq.out _ (bstep HB0x.out (bdrew _))).mono ?_; rintro e w4 ⟨rfl,hb4⟩; have hBc : Below wr.heap.size wr w4:=bstep (bdrew _) hb4))
           rename_i hheld
           clear hheld
           have HB5 : Hid (Below w3.heap.size w3 w4):=bstep HBx.out hBc
           clear hb4 hBc c0 c1 c2 c3 k0 k1 k2 k3 k4 k5 k6 HK HCq
           go_wp2_with fail
           go_roundw
           case rel => exact ⟨i + 1,n + C,by omega,by go_num,by simp [IntKind.wrap,IntKind.bits,IntKind.signed]; omega,HT2.out,by omega,HB5.out⟩
           case measure => simp [intOf]; omega
        ·have HN2 : Hid (CnB 32 n (objP g up g.fs.length).length):=by
          show CnB _ _ _
          by_cases h1 : i < g.fs.length
          ·have h2 : 32 < n:=by
            rcases Nat.lt_or_ge 32 n with h | h
            ·exact h
            ·exact absurd ⟨h1,h⟩ hgo
           exact HN.out.more h2 (HMo.out i)
          ·have h2 : i = g.fs.length:=by omega
           have:=HN.out
           rwa [h2] at this
         have HRn : Hid (too = decide (32 < n)):=HT0.out (by trivial) n HN2.out
         obtain ⟨c0,c1,c2,c3⟩:=HC4.out wr HB0x.out
         clear HN HN2 HT0
         by_cases hbn : 32 < n
         ·have hbi : (32 : Int) < (n : Int):=by omega
          have hnb : ¬ (n : Int) ≤ 32:=by omega
          have HR : Hid _:=HBad.out (by rw [HRn.out]; simpa using hbn)
          clear HBad HGood HRn
          by_cases hil : i < g.fs.length
          ·have hii : (i : Int) < (g.fs.length : Int):=by omega
           clear hgo hbn
           go_wp2_with fail
           go_ret2
           exact ⟨ret_pr12 HR.out,bstep HB0.out HB0x.out⟩
          ·have hii : ¬ (i : Int) < (g.fs.length : Int):=by omega
           clear hgo hbn
           go_wp2_with fail
           go_ret2
           exact ⟨ret_pr12 HR.out,bstep HB0.out HB0x.out⟩
         ·have hbi : ¬ (32 : Int) < (n : Int):=by omega
          have hii : ¬ (i : Int) < (g.fs.length : Int):=by omega
          have HR : Hid _:=HGood.out (by rw [HRn.out]; simpa using hbn)
          clear HBad HGood HRn hgo hbn
          go_wp2_with fail
          go_roundw
          case rel => exact ⟨q + 1,by omega,by go_num,HR.out,HB0x.out⟩
          case measure => simp [intOf]; omega
      ·have HR : Hid _:=HGood.out (HTr.out (by decide) (by decide))
       clear HT1 HT0 HTr HC8 HBad HGood
       go_wp2_with fail
       go_roundw
       case rel => exact ⟨q + 1,by omega,by go_num,HR.out,HB2.out⟩
       case measure => simp [intOf]; omega
      ·have HC9 : Hid _:=HC8.out w2 HB2.out (by trivial)
       have HT : Hid (too = decide (8 < C8)):=HT1.out (by trivial)
       clear HT1 HT0 HTr HC8
       go_wp2_with fail
       refine Calls.mono HC9.out ?_
       rintro e w3 ⟨rfl,hb3⟩
       have HB3 : Hid (Below w0.heap.size w0 w3):=bstep HB2.out hb3
       clear hb3 HC9 c0 c1 c2 c3
       by_cases h8 : 8 < C8
       ·have h8i : (8 : Int) < (C8 : Int):=by omega
        have HR : Hid _:=HBad.out (by rw [HT.out]; simpa using h8)
        clear h8 HBad HGood HT
        go_wp2_with fail
        go_ret2
        exact ⟨ret_pr12 HR.out,bstep HB0.out HB3.out⟩
       ·have h8i : ¬ (8 : Int) < (C8 : Int):=by omega
        have HR : Hid _:=HGood.out (by rw [HT.out]; simpa using h8)
        clear h8 HBad HGood HT
        go_wp2_with fail
        go_roundw
        case rel => exact ⟨q + 1,by omega,by go_num,HR.out,HB3.out⟩
        case measure => simp [intOf]; omega
      ·have HR : Hid _:=HGood.out (HTr.out (by decide) (by decide))
       clear HT1 HT0 HTr HC8 HBad HGood
       go_wp2_with fail
       go_roundw
       case rel => exact ⟨q + 1,by omega,by go_num,HR.out,HB2.out⟩
       case measure => simp [intOf]; omega
     ·have hqi : ¬ (q : Int) < (g.ts.length : Int):=by omega
      have HR : Hid _:=HL4.out HW.out HU.out (fun j hj => HA.out j (by omega))
      obtain ⟨c0,c1,c2,c3⟩:=HC4.out wr HB.out
      go_wp2_with fail
      go_ret2
      exact ⟨ret_pr12 HR.out,bstep HB0.out HB.out⟩

set_option maxHeartbeats 1000000 in
theorem refFine12_any {g : Img} {w : World} (hg : Im w g) (hnm : g.nmOk) : Ans 26 #[imA4 g] w (.bool (finB g)):=by
 obtain ⟨w0,HW0,HB0,HG,HC,HI,c0,c1,c2,c3⟩:=img_head hg
 have HCk : Hid (Ans 58 #[imA4 g] w0 (.tuple #[.int .i64 (lchI g).1,.int .i64 (lchI g).2])):=refCheck12_any (HI.out w0 (Below.refl _ _)) hnm
 have HF : Hid (((lchI g).2 == 0) = finB g):=fin_eq
 unfold imA4 at HCk ⊢
 clear hg HC
 generalize (lchI g).1 = k1 at *
 generalize (lchI g).2 = k2 at *
 go_enter Tryz.func26,Tryz.ntmps26
 go_wp2_with (rw [← HW0.out])
 refine Calls.mono HCk.out ?_
 rintro e w1 ⟨rfl,hb1⟩
 have HB1 : Hid (Below w0.heap.size w0 w1):=hb1
 clear hb1 c0 c1 c2 c3 HCk
 go_wp2
 all_goals go_ret
 all_goals exact ⟨ret_bool (by rw [← HF.out]),bstep HB0.out HB1.out⟩
end Go.Proofs.YthpmpdpfnlecmaaGreat

namespace Go.Proofs.YthpmpdpfnlecmaaGreat
set_option linter.unusedVariables false
set_option linter.unusedSimpArgs false
open Go.ChangeShapes Go.WideShapes Go.ChangeAt Go.RowKit
theorem openEs1 {α : Type} (E : Enc α) (dft : α) {P : Program} {H : Type} {enc : TypeId × Value → H} {W : World} {v : Value} {n : Nat} {y : DataW H × List MemPlace} (ts t : TypeId) (ht : P.underlying ts = some (.slice t)) (hcells : P.cellsOf t = E.size)
  (hel : ∀ (cs : List Value) (n : Nat) (y : DataW H × List MemPlace),cs.length = E.size → DataW.trod enc P W 0 (fun _ => true) true n t cs = some y → ∃ x,cs = E.cells x)
  (h : DataW.trod enc P W 0 (fun _ => true) true n ts [v] = some y) : ∃ l,Es E W v l:=by
 haveI : Inhabited α:=⟨dft⟩
 rcases Go.Deep.open_slice ht h with ⟨hcs,_⟩ | ⟨a,len,cap,m,k,D,Pl,hcs,_,hl,hm,hmm,_,hx⟩
 ·simp at hcs
  subst hcs
  exact ⟨[],Es.nil E W⟩
 ·simp at hcs
  subst hcs
  simp only [if_true] at hmm
  rw [hcells] at hx
  obtain ⟨f,hf⟩:=Go.Deep.choose_lt (n:=len) (p:=fun i (x : α) => ∀ j u,(E.cells x)[j]? = some u → W.cell? (a.add (i * E.size + j)) = some u) fun i hi => by
   obtain ⟨cs',h1,h2⟩:=hx i (by omega)
   obtain ⟨_,hlen,h3⟩:=World.cells?_some h1
   obtain ⟨x,hxc⟩:=hel _ _ _ (by simpa using hlen) h2
   refine ⟨x,fun j u hj => ?_⟩
   have hjl : j < E.size:=by rw [← E.len x]; exact (List.getElem?_eq_some_iff.1 hj).1
   have g:=h3 j hjl
   rw [Go.Deep.add_add a (i * E.size) j] at g
   rw [g]
   have hx2 : cs'[j]? = some u:=by
    have:=congrArg (fun t => t[j]?) hxc
    rw [hj] at this
    simpa using this
   exact hx2
  refine ⟨(List.range len).map f,some a,cap,by simp,by simpa using hl,hm,fun hne => ?_⟩
  have hpos : 0 < len:=by
   rcases Nat.eq_zero_or_pos len with h | h
   ·subst h; simp at hne
   ·exact h
  obtain ⟨u0,hu0⟩ : ∃ u,(E.cells (f 0))[0]? = some u:=by
   have:=E.pos
   rw [← E.len (f 0)] at this
   exact ⟨_,List.getElem?_eq_getElem this⟩
  have h0:=hf 0 hpos 0 u0 hu0
  obtain ⟨b,off,spot⟩:=a
  have hspot : spot = none:=by simpa [Addr.add] using World.cell?_spot h0
  subst hspot
  have hplain : ∀ i,(⟨b,off,none⟩ : Addr).add i = ⟨b,off + i,none⟩:=fun i => by unfold Addr.add; split <;> simp_all
  have hb : b < W.heap.size:=by have:=World.block_lt_of_cell? W _ h0; simpa [Addr.add] using this
  have hes : Es E W (.slice (some ⟨b,off,none⟩) ((List.range len).map f).length cap) ((List.range len).map f):=by
   refine Es.of_parts (by simpa using hl) hm hb fun i hi j u hj => ?_
   simp only [List.length_map,List.length_range] at hi
   simp only [List.getElem_map,List.getElem_range] at hj
   have:=hf i hi j u hj
   rw [hplain,← Nat.add_assoc] at this
   exact this
  obtain ⟨_,_,he,_,_,h3⟩:=hes
  simp only [Value.slice.injEq] at he
  obtain ⟨rfl,_,_⟩:=he
  exact h3 hne

theorem list10 {α : Type} {cs : List α} (h : cs.length = 10) : ∃ c0 c1 c2 c3 c4 c5 c6 c7 c8 c9,cs = [c0,c1,c2,c3,c4,c5,c6,c7,c8,c9]:=by
 match cs,h with
 | [c0,c1,c2,c3,c4,c5,c6,c7,c8,c9],_ => exact ⟨c0,c1,c2,c3,c4,c5,c6,c7,c8,c9,rfl⟩
theorem list7 {α : Type} {cs : List α} (h : cs.length = 7) : ∃ c0 c1 c2 c3 c4 c5 c6,cs = [c0,c1,c2,c3,c4,c5,c6]:=by
 match cs,h with
 | [c0,c1,c2,c3,c4,c5,c6],_ => exact ⟨c0,c1,c2,c3,c4,c5,c6,rfl⟩
theorem Tryz.cellsClause : Tryz.prog.cellsOf 101 = 10:=by kernel_rfl

theorem clauseCells {H : Type} {enc : TypeId × Value → H} {W : World} (cs : List Value) (n : Nat) (y : DataW H × List MemPlace) (hl : cs.length = 10)
  (h : DataW.trod enc Tryz.prog W 0 (fun _ => true) true n 101 cs = some y) : ∃ x : Cl,cs = clC x:=by
 obtain ⟨c0,c1,c2,c3,c4,c5,c6,c7,c8,c9,rfl⟩:=list10 hl
 obtain ⟨xs,m,_,_,_,hlen,hf⟩:=DataW.trod_struct Tryz.underlying101 h
 obtain ⟨y0,y1,y2,y3,y4,y5,y6,rfl⟩:=list7 (show xs.length = 7 from hlen)
 have h0 : DataW.trod enc Tryz.prog W 0 (fun _ => true) true m 3 [c0] = some y0:=by
  have:=hf 0 _ rfl
  simpa [Tryz.cellsInt] using this
 have h1 : DataW.trod enc Tryz.prog W 0 (fun _ => true) true m 3 [c1] = some y1:=by
  have:=hf 1 _ rfl
  simpa [Tryz.cellsInt] using this
 have h2 : DataW.trod enc Tryz.prog W 0 (fun _ => true) true m 3 [c2] = some y2:=by
  have:=hf 2 _ rfl
  simpa [Tryz.cellsInt] using this
 have h3 : DataW.trod enc Tryz.prog W 0 (fun _ => true) true m 3 [c3] = some y3:=by
  have:=hf 3 _ rfl
  simpa [Tryz.cellsInt] using this
 have h4 : DataW.trod enc Tryz.prog W 0 (fun _ => true) true m 3 [c4] = some y4:=by
  have:=hf 4 _ rfl
  simpa [Tryz.cellsInt] using this
 have h5 : DataW.trod enc Tryz.prog W 0 (fun _ => true) true m 3 [c5] = some y5:=by
  have:=hf 5 _ rfl
  simpa [Tryz.cellsInt] using this
 have h6 : DataW.trod enc Tryz.prog W 0 (fun _ => true) true m 51 [c6,c7,c8,c9] = some y6:=by
  have:=hf 6 _ rfl
  simpa [Tryz.cellsInt,Tryz.cellsTy] using this
 obtain ⟨x0,e0,_,_⟩:=DataW.trod_int Tryz.underlying3 h0
 obtain ⟨x1,e1,_,_⟩:=DataW.trod_int Tryz.underlying3 h1
 obtain ⟨x2,e2,_,_⟩:=DataW.trod_int Tryz.underlying3 h2
 obtain ⟨x3,e3,_,_⟩:=DataW.trod_int Tryz.underlying3 h3
 obtain ⟨x4,e4,_,_⟩:=DataW.trod_int Tryz.underlying3 h4
 obtain ⟨x5,e5,_,_⟩:=DataW.trod_int Tryz.underlying3 h5
 obtain ⟨t,e6⟩:=tyCells h6
 simp only [List.cons.injEq,and_true] at e0 e1 e2 e3 e4 e5 e6
 obtain ⟨rfl,rfl,rfl,rfl⟩:=e6
 subst e0 e1 e2 e3 e4 e5
 exact ⟨⟨x0,x1,x2,x3,x4,x5,t.1,t.2.1,t.2.2.1,t.2.2.2⟩,rfl⟩
end Go.Proofs.YthpmpdpfnlecmaaGreat
