/- Texts joined: ChkValues11, ChkHolds11. -/
import Derived.Test.YthpmpdpfnlecmaaGreatQ31
import Derived.Test.YthpmpdpfnlecmaaGreatQ29
import Derived.Test.YthpmpdpfnlecmaaGreatQ35
namespace Go.Proofs.YthpmpdpfnlecmaaGreat
set_option linter.unusedVariables false
set_option linter.unusedSimpArgs false
open Go.RowKit
attribute [local go_sem ↓] Go.wp_at_zero Go.wp_at_succ
set_option maxHeartbeats 8000000 in
set_option maxRecDepth 20000 in
theorem byValues1_any {g : Img} {gb : Nat} {t : Int} {w : World} (hG : GB w gb g) (hi : imB g = true) :
  Calls Tryz.prog 204 #[.int .i64 t,.pointer (some ⟨gb,0,none⟩)] w fun e w' => ∃ v,e = .returned v∧OwnI w' w.heap.size v (prtL g t)∧Below w.heap.size w w':=by
 have HG : Hid (GB w gb g):=hG
 have HI : Hid (imB g = true):=hi
 have hln:=im_len hi
 have HFl : Hid (Calls Tryz.prog 163 #[.agg (imC g),.int .i64 t] w fun e w' => ∃ v,e = .returned v∧OwnI w' w.heap.size v (fldN g t)∧Below w.heap.size w w'):=fields_any hG.im hi
 obtain ⟨c0,c1,c2,c3⟩:=hG.cells
 unfold imC at HFl
 clear hG hi
 go_enter Tryz.func204,Tryz.ntmps204
 go_wp2_with fail
 refine Calls.mono HFl.out ?_
 rintro e w1 ⟨fv,rfl,hf,hb1⟩
 have HB1 : Hid (Below w.heap.size w w1):=hb1
 obtain ⟨L,hL⟩ : ∃ X,X = fldN g t:=⟨_,rfl⟩
 have HLE : Hid (L = fldN g t):=hL
 rw [← hL] at hf
 have hll:=fldN_len g t
 rw [← hL] at hll
 obtain ⟨la,lc,hfv,_,hlc⟩:=(show Is w1 fv L from hf.is).shape
 have HFi : Hid (∀ W,Below w1.heap.size w1 W → Is W (.slice la L.length lc) L):=fun W hW => by
  have:=hf.is.later hW
  rw [hfv] at this; exact this
 subst hfv
 unfold maxLen at hlc
 clear c0 c1 c2 c3 hf hb1 hL HFl
 go_wp2_with fail
 go_loopw [4,6,7,12] (fun lv _ _ z wr => ∃ i : Nat,i ≤ L.length∧z = .int .i64 i∧Hid (OwnI wr w1.heap.size lv (((L.take i).filter (prtB g)).map (fun i => (fvtI g i).2.1)))∧Hid (Below w1.heap.size w1 wr)) (fun _ _ _ z _ => L.length - (intOf z).toNat)
 case atStart => exact ⟨0,Nat.zero_le _,rfl,OwnI.nil _ _,Below.refl _ _⟩
 case round =>
  obtain ⟨i,hil0,rfl,HO,HB⟩:=hrel
  by_cases hil : i < L.length
  ·have hii : (i : Int) < (L.length : Int):=by omega
   obtain ⟨A,hA,hAl⟩:=fldN_num (show L[i] ∈ fldN g t by rw [← HLE.out]; exact List.getElem_mem hil)
   have hAi : (A : Int) < (g.fs.length : Int):=by omega
   have HPT : Hid (((L.take (i + 1)).filter (prtB g)).map (fun i => (fvtI g i).2.1) = ((L.take i).filter (prtB g)).map (fun i => (fvtI g i).2.1) ++ (if prtB g L[i] = true then [(fvtI g L[i]).2.1] else [])):=prt_take hil
   have HPL : Hid ((((L.take i).filter (prtB g)).map (fun i => (fvtI g i).2.1)).length ≤ 64):=Nat.le_trans prt_len (by omega)
   rw [hA,prtB_at hAl,fvtI_at hAl] at HPT
   obtain ⟨lb,loff,hla,hlb,_,h6',h7,hc⟩:=(HFi.out wr HB.out).at hil
   have cA:=hc i hil
   rw [hA] at cA
   obtain ⟨tb,off,hta,h8,h9,hty⟩:=HG.out.fd (by intro e; rw [e] at hAl; simp at hAl)
   have hB1r : Below w.heap.size w wr:=bstep HB1.out HB.out
   have HK : Hid (∀ W,Below wr.heap.size wr W → W.cell? ⟨gb,0,none⟩ = some (.slice g.ta g.ts.length g.tc)∧W.cell? ⟨gb,1,none⟩ = some (.slice (some ⟨tb,off,none⟩) g.fs.length g.fc)∧W.cell? ⟨gb,2,none⟩ = some (.slice g.ma g.ms.length g.mc)∧W.cell? ⟨gb,3,none⟩ = some (.int .i64 g.en)∧El fdE W tb (off + A * 7) g.fs[A]):=fun W hW => by
    have hz:=hty W (bstep hB1r hW)
    have hq:=(HG.out.later (bstep hB1r hW)).cells
    exact ⟨hq.1,hz.1,hq.2.2.1,hq.2.2.2,hz.2 A hAl⟩
   have HKn : Hid (∀ W,Below wr.heap.size wr W → Calls Tryz.prog 16 #[.agg #[.slice g.ta g.ts.length g.tc,.slice (some ⟨tb,off,none⟩) g.fs.length g.fc,.slice g.ma g.ms.length g.mc,.int .i64 g.en],.int .i64 g.fs[A].t.2.1] W fun e w' => e = .returned (.int .i64 (kndI g g.fs[A].t.2.1))∧Below W.heap.size W w'):=fun W hW => by
    have:=kind_any g.fs[A].t.2.1 (HG.out.im.later (bstep hB1r hW)) (FlOk.of HI.out)
    unfold imV at this
    rw [hta] at this
    exact this
   unfold maxLen at h7 h9
   subst hla
   clear hc hty hta hA hB1r
   obtain ⟨kv,hkv⟩ : ∃ k,k = kndI g g.fs[A].t.2.1:=⟨_,rfl⟩
   rw [← hkv] at HPT HKn
   clear hkv
   generalize g.fs[A] = x at *
   obtain ⟨wA,hwA⟩ : ∃ W,W = wr.alloc (.cells #[.int .i64 x.t.1,.int .i64 x.t.2.1,.int .i64 x.t.2.2.1,.bool x.t.2.2.2] 51):=⟨_,rfl⟩
   have hbA : Below wr.heap.size wr wA:=by rw [hwA]; exact made_below _ _ _
   have hAA : At wA wr.heap.size #[.int .i64 x.t.1,.int .i64 x.t.2.1,.int .i64 x.t.2.2.1,.bool x.t.2.2.2] 51:=by rw [hwA]; exact At.made _ _ _
   have HBA : Hid (Below wr.heap.size wr wA):=hbA
   have HWA : Hid (wA = _):=hwA
   have HAA : Hid (∀ W,Below wA.heap.size wA W → At W wr.heap.size #[.int .i64 x.t.1,.int .i64 x.t.2.1,.int .i64 x.t.2.2.1,.bool x.t.2.2.2] 51):=fun W hW => hAA.later hW
   have a0:=hAA.cell 0
   have a1:=hAA.cell 1
   have a2:=hAA.cell 2
   simp at a0 a1 a2
   obtain ⟨e0,e1,e2,e3,hel⟩:=HK.out wr (Below.refl _ _)
   obtain ⟨k0,k1,k2,k3,k4,k5,k6⟩:=hel.cells_F
   obtain ⟨f0,f1,f2,f3,hfl⟩:=HK.out wA hbA
   obtain ⟨_,_,_,_,_,_,l6⟩:=hfl.cells_F
   have HOA : Hid (OwnI wA w1.heap.size u4 (((L.take i).filter (prtB g)).map (fun i => (fvtI g i).2.1))):=OwnI.later HO.out HBA.out
   have HBA1 : Hid (Below w1.heap.size w1 wA):=bstep HB.out HBA.out
   clear hwA hbA hAA hel hfl HO
   cases hst : x.st with
   | true =>
    have HP2 : Hid (((L.take (i + 1)).filter (prtB g)).map (fun i => (fvtI g i).2.1) = ((L.take i).filter (prtB g)).map (fun i => (fvtI g i).2.1)):=by show _ = _; rw [HPT.out,hst]; simp
    rw [hst] at k6 l6
    clear hst HPT
    go_wp2_with (rw [← HWA.out])
    go_roundw
    case rel => exact ⟨i + 1,by omega,by go_num,by rw [HP2.out]; exact HOA.out,HBA1.out⟩
    case measure => simp [intOf]; omega
   | false =>
    rw [hst] at k6 l6 HPT
    clear hst
    by_cases h6 : x.t.1 = 6
    ·have h6b : (x.t.1 == 6) = true:=by simpa using h6
     by_cases hd : x.t.2.2.1 = 0
     ·have hdb : (x.t.2.2.1 == 0) = true:=by simpa using hd
      have HP1 : Hid (((L.take (i + 1)).filter (prtB g)).map (fun i => (fvtI g i).2.1) = ((L.take i).filter (prtB g)).map (fun i => (fvtI g i).2.1) ++ (if kv = 1 then [x.t.2.1] else [])):=by show _ = _; rw [HPT.out,decide_eq_true h6,decide_eq_true hd]; simp
      clear h6 hd HPT
      go_wp2_with (rw [← HWA.out])
      refine Calls.mono (HKn.out wA HBA.out) ?_
      rintro e w3 ⟨rfl,hb3⟩
      have HO3 : Hid (OwnI w3 w1.heap.size u4 (((L.take i).filter (prtB g)).map (fun i => (fvtI g i).2.1))):=OwnI.later HOA.out hb3
      have HB3 : Hid (Below w1.heap.size w1 w3):=bstep HBA1.out hb3
      have hx3:=(HAA.out w3 hb3).cell 1
      simp at hx3
      clear hb3 a0 a1 a2 f0 f1 f2 f3 l6 e0 e1 e2 e3 k0 k1 k2 k3 k4 k5 k6 HOA HBA1 HKn
      by_cases hk1 : kv = 1
      ·subst hk1
       have HP2 : Hid (((L.take (i + 1)).filter (prtB g)).map (fun i => (fvtI g i).2.1) = ((L.take i).filter (prtB g)).map (fun i => (fvtI g i).2.1) ++ [x.t.2.1]):=by show _ = _; rw [HP1.out,if_pos rfl]
       clear HP1
       go_wp2_with (at_builtin; go_must (refine wpList_append_int (v:=u4) rfl (.tmp 46) (.tmp 49) rfl w1.heap.size rfl rfl (HO3.out.later (made_below _ _ _)) (one_int w3 x.t.2.1 _ rfl) (by have:=HPL.out; omega) (Nat.le_trans HB3.out.size (made_below _ _ _).size) ?_; intro v5 w5 ho5 hg5; have hB5:=(bbox HB3.out _).trans (grown_below11 (HO3.out.later (made_below _ _ _)) hg5 (Nat.le_refl _) (Nat.le_trans HB3.out.size (made_below _ _ _).size))))
       go_roundw
       case rel => exact ⟨i + 1,by omega,by go_num,by rw [HP2.out]; exact ho5,hB5⟩
       case measure => simp [intOf]; omega
      ·have hkb : (kv == 1) = false:=by simpa using hk1
       have HP2 : Hid (((L.take (i + 1)).filter (prtB g)).map (fun i => (fvtI g i).2.1) = ((L.take i).filter (prtB g)).map (fun i => (fvtI g i).2.1)):=by show _ = _; rw [HP1.out,if_neg hk1,List.append_nil]
       clear HP1 hk1
       go_wp2_with fail
       go_roundw
       case rel => exact ⟨i + 1,by omega,by go_num,by rw [HP2.out]; exact HO3.out,HB3.out⟩
       case measure => simp [intOf]; omega
     ·have hdb : (x.t.2.2.1 == 0) = false:=by simpa using hd
      have HP2 : Hid (((L.take (i + 1)).filter (prtB g)).map (fun i => (fvtI g i).2.1) = ((L.take i).filter (prtB g)).map (fun i => (fvtI g i).2.1)):=by show _ = _; rw [HPT.out,decide_eq_false hd]; simp
      clear HPT hd h6
      go_wp2_with (rw [← HWA.out])
      go_roundw
      case rel => exact ⟨i + 1,by omega,by go_num,by rw [HP2.out]; exact HOA.out,HBA1.out⟩
      case measure => simp [intOf]; omega
    ·have h6b : (x.t.1 == 6) = false:=by simpa using h6
     have HP2 : Hid (((L.take (i + 1)).filter (prtB g)).map (fun i => (fvtI g i).2.1) = ((L.take i).filter (prtB g)).map (fun i => (fvtI g i).2.1)):=by show _ = _; rw [HPT.out,decide_eq_false h6]; simp
     clear HPT h6
     go_wp2_with (rw [← HWA.out])
     go_roundw
     case rel => exact ⟨i + 1,by omega,by go_num,by rw [HP2.out]; exact HOA.out,HBA1.out⟩
     case measure => simp [intOf]; omega
  ·have hii : ¬ (i : Int) < (L.length : Int):=by omega
   have HPE : Hid (((L.take i).filter (prtB g)).map (fun i => (fvtI g i).2.1) = prtL g t):=by show _ = _; rw [List.take_of_length_le (by omega),HLE.out]; rfl
   go_wp2_with fail
   go_ret
   exact ⟨_,rfl,by rw [← HPE.out]; exact HO.out.mono HB1.out.size,bstep HB1.out HB.out⟩

theorem steps_val {g : Img} {gb : Nat} {w : World} (hG : GB w gb g) (hi : imB g = true) : Steps Tryz.prog w 204 #[] #[.pointer (some ⟨gb,0,none⟩)] g.ts.length (prtL g):=by
 refine ⟨run_enter9 Tryz.func204 (by kernel_rfl) rfl,fun W hW t ht => ?_,fun t ht x hx => ?_⟩
 ·have:=byValues1_any (t:=t) (hG.later hW) hi
  refine (show Calls Tryz.prog 204 _ W _ by simpa using this).mono ?_
  rintro e w' ⟨v,rfl,ho,hb⟩
  exact ⟨v,rfl,ho.is,hb,fun _ k hk => Or.inr (ho.block k hk).1⟩
 ·exact wf_num (by have:=(im_len hi).1; omega) (prtL_num hx)

theorem byValues_any {g : Img} (w : World) :
  Calls Tryz.prog 168 #[imV g] w fun e w' => e = .returned (.func (.func 204) #[] #[.pointer (some ⟨w.heap.size,0,none⟩)])∧w' = w.alloc (.cells (imC g) 26):=by
 unfold imV imC
 go_enter Tryz.func168,Tryz.ntmps168
 go_wp2_with fail
 go_ret
 exact ⟨rfl,rfl⟩
set_option maxHeartbeats 1000000 in
theorem holds1_any {g : Img} {gb i : Nat} {w : World} (hG : GB w gb g) (hi : i < g.fs.length) :
  Calls Tryz.prog 167 #[.int .i64 i,.pointer (some ⟨gb,0,none⟩)] w fun e w' => e = .returned (.bool (!g.fs[i].st))∧w' = w:=by
 obtain ⟨tb,off,hta,h1,h2,hty⟩:=hG.fd (by intro e; rw [e] at hi; simp at hi)
 obtain ⟨d1,hd⟩:=hty w (Below.refl _ _)
 obtain ⟨k0,k1,k2,k3,k4,k5,k6⟩:=(hd i hi).cells_F
 unfold maxLen at h2
 have hii : (i : Int) < (g.fs.length : Int):=by omega
 clear hta hG hty hd
 generalize g.fs[i] = x at *
 go_enter Tryz.func167,Tryz.ntmps167
 go_wp2_with fail
 go_ret
 exact ⟨rfl,rfl⟩

theorem kndI_four (g : Img) (t : Int) (h : numB t g.ts.length = true) : kndI g t = 0 ∨ kndI g t = 2 ∨ kndI g t = 1 ∨ kndI g t = 3:=by
 unfold kndI
 rw [if_pos h]
 exact kindF_four _

set_option maxHeartbeats 8000000 in
set_option maxRecDepth 20000 in
theorem holds11_any {g : Img} {q : Nat} {w : World} (hg : Im w g) (hi : imB g = true) (hq : q < g.ts.length) :
  Calls Tryz.prog 112 #[imV g,.int .i64 q] w fun e w' => e = .returned (.bool (szdB g (q : Int)))∧Below w.heap.size w w':=by
 obtain ⟨w0,hw0⟩ : ∃ W,W = w.alloc (.cells (imC g) 26):=⟨_,rfl⟩
 have HW0 : Hid (w0 = _):=hw0
 obtain ⟨hb0,hgb⟩:=GB.made hg hw0
 have HB0 : Hid (Below w.heap.size w w0):=hb0
 have HG : Hid (GB w0 w.heap.size g):=hgb
 have HK : Hid (∀ W,Below w0.heap.size w0 W → W.cell? ⟨w.heap.size,0,none⟩ = some (.slice g.ta g.ts.length g.tc)∧W.cell? ⟨w.heap.size,1,none⟩ = some (.slice g.fa g.fs.length g.fc)∧W.cell? ⟨w.heap.size,2,none⟩ = some (.slice g.ma g.ms.length g.mc)∧W.cell? ⟨w.heap.size,3,none⟩ = some (.int .i64 g.en)):=fun W hW => (hgb.later hW).cells
 have HFl : Hid (Calls Tryz.prog 163 #[.agg (imC g),.int .i64 q] w0 fun e w' => ∃ v,e = .returned v∧OwnI w' w0.heap.size v (fldN g (q : Int))∧Below w0.heap.size w0 w'):=fields_any hgb.im hi
 have HKd : Hid (∀ W,Below w0.heap.size w0 W → Calls Tryz.prog 16 #[.agg (imC g),.int .i64 q] W fun e w' => e = .returned (.int .i64 (kndI g (q : Int)))∧Below W.heap.size W w'):=fun W hW => kind_any (q : Int) (HG.out.im.later hW) (FlOk.of hi)
 have HBV : Hid (∀ W,Calls Tryz.prog 168 #[.agg (imC g)] W fun e w' => e = .returned (.func (.func 204) #[] #[.pointer (some ⟨W.heap.size,0,none⟩)])∧w' = W.alloc (.cells (imC g) 26)):=fun W => byValues_any W
 have HCB : Hid (∀ W,Below w0.heap.size w0 W → Calls Tryz.prog 162 #[.agg (imC g),.int .i64 q,.func (.func 204) #[] #[.pointer (some ⟨W.heap.size,0,none⟩)]] (W.alloc (.cells (imC g) 26)) fun e w' => e = .returned (.bool ((reachL g.ts.length (prtL g) (prtL g (q : Int))).contains (q : Int)))∧Below W.heap.size W w'):=fun W hW => by
  have hG:=GB.made (HG.out.im.later hW) (rfl : W.alloc (.cells (imC g) 26) = _)
  refine (comesBack_any hG.2.im hi hq (steps_val hG.2 hi)).mono ?_
  rintro e w' ⟨rfl,hb⟩
  exact ⟨rfl,bstep hG.1 hb⟩
 have HAny : Hid (∀ W v,Below w0.heap.size w0 W → Is W v (fldN g (q : Int)) → Calls Tryz.prog 158 #[v,.func (.func 167) #[] #[.pointer (some ⟨w.heap.size,0,none⟩)]] W fun e w' => e = .returned (.bool (!((fldN g (q : Int)).all (fstI g))))∧Below W.heap.size W w'):=fun W v hW hv => by
  have:=containsN10_any hv.toEs (f := 167) (bs:=#[]) (cs:=#[.pointer (some ⟨w.heap.size,0,none⟩)]) (p:=fun f => !fstI g f) ⟨run_enter9 Tryz.func167 (by kernel_rfl) rfl,fun W2 hW2 x hx => by
   obtain ⟨i,rfl,hil⟩:=fldN_num hx
   rw [fstI_at hil]
   have:=holds1_any (HG.out.later (bstep hW hW2)) hil
   refine (show Calls Tryz.prog 167 _ W2 _ by simpa [intV] using this).mono ?_
   rintro e w' ⟨rfl,rfl⟩
   exact ⟨rfl,Below.refl _ _⟩⟩
  rw [all_not_any] at this
  exact this
 have hk4:=kndI_four g (q : Int) (by rw [numB_iff]; omega)
 have HR : Hid (szdB g (q : Int) = (if kndI g (q : Int) = 2 then (fldN g (q : Int)).all (fstI g) else if kndI g (q : Int) = 3 then decide (fldN g (q : Int) = []) else if kndI g (q : Int) = 1 then !(reachL g.ts.length (prtL g) (prtL g (q : Int))).contains (q : Int) else true)):=rfl
 obtain ⟨c0,c1,c2,c3⟩:=hgb.cells
 unfold imC at HW0 HFl HKd HBV HCB
 clear hw0 hb0 hgb hg hi HG
 generalize (fldN g (q : Int)).all (fstI g) = r1 at *
 generalize (reachL g.ts.length (prtL g) (prtL g (q : Int))).contains (q : Int) = r2 at *
 generalize szdB g (q : Int) = F at *
 generalize fldN g (q : Int) = L at *
 generalize kndI g (q : Int) = k at *
 unfold imV
 go_enter Tryz.func112,Tryz.ntmps112
 go_wp2_with (rw [← HW0.out])
 refine Calls.mono HFl.out ?_
 rintro e w1 ⟨fv,rfl,hf,hb1⟩
 have HB1 : Hid (Below w0.heap.size w0 w1):=hb1
 have HFv : Hid (∀ W,Below w1.heap.size w1 W → Is W fv L):=fun W hW => hf.is.later hW
 obtain ⟨la,lc,hfv,_,hlc⟩:=(show Is w1 fv L from hf.is).shape
 clear c0 c1 c2 c3 hf hb1 HFl
 obtain ⟨c0,c1,c2,c3⟩:=HK.out w1 HB1.out
 go_wp2_with fail
 refine Calls.mono (HKd.out w1 HB1.out) ?_
 rintro e w2 ⟨rfl,hb2⟩
 have HB2 : Hid (Below w0.heap.size w0 w2):=bstep HB1.out hb2
 have HFv2 : Hid (∀ W,Below w2.heap.size w2 W → Is W fv L):=fun W hW => HFv.out W (bstep hb2 hW)
 clear c0 c1 c2 c3 hb2 HFv
 rcases hk4 with rfl | rfl | rfl | rfl
 ·have HR2 : Hid (F = true):=by show _ = _; rw [HR.out]; rfl
  go_wp2_with fail
  go_ret
  exact ⟨ret_bool HR2.out.symm,bstep HB0.out HB2.out⟩
 ·have HR2 : Hid (F = r1):=by show _ = _; rw [HR.out]; rfl
  have HC : Hid (Calls Tryz.prog 158 #[fv,.func (.func 167) #[] #[.pointer (some ⟨w.heap.size,0,none⟩)]] w2 fun e w' => e = .returned (.bool (!r1))∧Below w2.heap.size w2 w'):=HAny.out w2 fv HB2.out (HFv2.out w2 (Below.refl _ _))
  subst hfv
  go_wp2_with fail
  refine Calls.mono HC.out ?_
  rintro e w3 ⟨rfl,hb3⟩
  have HB3 : Hid (Below w0.heap.size w0 w3):=bstep HB2.out hb3
  clear hb3 HC
  go_wp2_with fail
  go_ret
  exact ⟨ret_bool (by rw [HR2.out]; try simp),bstep HB0.out HB3.out⟩
 ·have HR2 : Hid (F = !r2):=by show _ = _; rw [HR.out]; rfl
  have HQ : Hid (∀ W,Below w2.heap.size w2 W → W.cell? ⟨w.heap.size,0,none⟩ = some (.slice g.ta g.ts.length g.tc)∧W.cell? ⟨w.heap.size,1,none⟩ = some (.slice g.fa g.fs.length g.fc)∧W.cell? ⟨w.heap.size,2,none⟩ = some (.slice g.ma g.ms.length g.mc)∧W.cell? ⟨w.heap.size,3,none⟩ = some (.int .i64 g.en)):=fun W hW => HK.out W (bstep HB2.out hW)
  obtain ⟨c0,c1,c2,c3⟩:=HQ.out w2 (Below.refl _ _)
  subst hfv
  go_wp2_with fail
  go_region_held3 (fun W : World => W.cell? ⟨w.heap.size,0,none⟩ = some (.slice g.ta g.ts.length g.tc)∧W.cell? ⟨w.heap.size,1,none⟩ = some (.slice g.fa g.fs.length g.fc)∧W.cell? ⟨w.heap.size,2,none⟩ = some (.slice g.ma g.ms.length g.mc)∧W.cell? ⟨w.heap.size,3,none⟩ = some (.int .i64 g.en))
   (first | (exact HQ.out _ hB3) | (exact HQ.out _ (bbox (bdrew _) _)) | (exact HQ.out _ (bdrew _)))
   (first | (go_at_call 168; refine (HBV.out _).mono ?_; rintro e wz ⟨rfl,hz2⟩; subst hz2) | (go_at_call 162; refine (HCB.out _ (bstep HB2.out (bdrew _))).mono ?_; rintro e w3 ⟨rfl,hz3⟩; have hB3 : Below w2.heap.size w2 w3:=bstep (bdrew _) hz3))
  rename_i hheld
  clear hheld
  have HBe : Hid (Below w0.heap.size w0 w3):=bstep HB2.out hB3
  clear hz3 hB3 c0 c1 c2 c3
  go_wp2_with fail
  go_ret
  exact ⟨ret_bool (by rw [HR2.out]; try simp),bstep HB0.out HBe.out⟩
 ·have hd : ((L.length : Int) == 0) = decide (L = []):=by
   rw [Bool.eq_iff_iff]
   simp
  have HR2 : Hid (F = ((L.length : Int) == 0)):=by show _ = _; rw [HR.out,hd]; rfl
  clear hd
  subst hfv
  go_wp2_with fail
  go_ret
  exact ⟨ret_bool (by rw [HR2.out]; try simp),bstep HB0.out HB2.out⟩
end Go.Proofs.YthpmpdpfnlecmaaGreat
