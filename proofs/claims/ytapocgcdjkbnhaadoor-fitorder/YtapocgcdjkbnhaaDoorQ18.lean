/- Texts joined: RefParts11, RefName6, RefOf6, RefFits6. -/
import Derived.Test.YtapocgcdjkbnhaaDoorQ16
import Derived.Deep.RegionHeld3
import Derived.Test.YtapocgcdjkbnhaaDoorQ01
import Derived.Laws.DeepStrings4
import Derived.Deep.RegionLaw
namespace Go.Proofs.YtapocgcdjkbnhaaDoor
set_option linter.unusedVariables false
set_option linter.unusedSimpArgs false
open Go.RowKit
attribute [local go_sem ↓] Go.wp_at_zero Go.wp_at_succ
theorem prt_take {L : List Int} {p : Int → Bool} {f : Int → Int} {i : Nat} (hi : i < L.length) : ((L.take (i + 1)).filter p).map f = ((L.take i).filter p).map f ++ (if p L[i] = true then [f L[i]] else []):=by
 rw [List.take_succ_eq_append_getElem hi,List.filter_append,List.map_append]
 congr 1
 cases h : p L[i] <;> simp only [List.filter_cons,List.filter_nil,h] <;> rfl
theorem prt_len {L : List Int} {p : Int → Bool} {f : Int → Int} {i : Nat} : (((L.take i).filter p).map f).length ≤ L.length:=by
 rw [List.length_map]
 exact Nat.le_trans (List.length_filter_le _ _) (by rw [List.length_take]; omega)
theorem fstI_at {g : Img} {k : Nat} (h : k < g.fs.length) : fstI g (k : Int) = g.fs[k].st:=by unfold fstI; rw [Int.toNat_natCast,List.getElem?_eq_getElem h]
theorem fvtI_at {g : Img} {k : Nat} (h : k < g.fs.length) : fvtI g (k : Int) = g.fs[k].t:=by unfold fvtI; rw [Int.toNat_natCast,List.getElem?_eq_getElem h]
theorem prtB_at {g : Img} {k : Nat} (h : k < g.fs.length) : prtB g (k : Int) = (!g.fs[k].st && (decide (g.fs[k].t.1 = 6) && decide (g.fs[k].t.2.2.1 = 0) && decide (kndI g g.fs[k].t.2.1 = 1))):=by unfold prtB; rw [fstI_at h,fvtI_at h]

set_option maxHeartbeats 8000000 in
set_option maxRecDepth 100000 in
theorem refParts_any {g : Img} {t : Int} {w : World} (hg : Im w g) (hi : imB g = true) :
  Calls Tryd.prog 41 #[imV g,.int .i64 t] w fun e w' => ∃ v,e = .returned v∧OwnI w' w.heap.size v (prtL g t)∧Below w.heap.size w w':=by
 obtain ⟨w0,hw0⟩ : ∃ W,W = w.alloc (.cells (imC g) 26):=⟨_,rfl⟩
 have HW0 : Hid (w0 = _):=hw0
 obtain ⟨hb0,hgb⟩:=GB.made hg hw0
 have HB0 : Hid (Below w.heap.size w w0):=hb0
 have HG : Hid (GB w0 w.heap.size g):=hgb
 have HI : Hid (imB g = true):=hi
 have hln:=im_len hi
 have HFl : Hid (Calls Tryd.prog 38 #[.agg (imC g),.int .i64 t] w0 fun e w' => ∃ v,e = .returned v∧OwnI w' w0.heap.size v (fldN g t)∧Below w0.heap.size w0 w'):=refFields_any HG.out.im HI.out
 obtain ⟨c0,c1,c2,c3⟩:=hgb.cells
 unfold imC at HW0 HFl
 clear hw0 hb0 hgb hg hi
 unfold imV
 go_enter Tryd.func41,Tryd.ntmps41
 go_wp2_with (rw [← HW0.out])
 refine Calls.mono HFl.out ?_
 rintro e w1 ⟨fv,rfl,hf,hb1⟩
 have HB1 : Hid (Below w0.heap.size w0 w1):=hb1
 obtain ⟨L,hL⟩ : ∃ X,X = fldN g t:=⟨_,rfl⟩
 have HLE : Hid (L = fldN g t):=hL
 rw [← hL] at hf
 have hll:=fldN_len g t
 rw [← hL] at hll
 obtain ⟨la,lc,hfv,_,hlc⟩:=(show Is w1 fv L from hf.is).shape
 subst hfv
 have HOL:=LiF.of hf
 obtain ⟨len9,h99⟩ : ∃ n,n = L.length:=⟨_,rfl⟩
 rw [← h99] at HOL
 have HOL : Hid (LiF w1 la len9 lc L):=HOL
 rw [← h99]
 clear hf hb1 c0 c1 c2 c3 hL HFl
 go_wp2_with fail
 go_loopw [5,7,8] (fun lv z _ wr => ∃ i : Nat,i ≤ L.length∧z = .int .i64 i∧Hid (OwnI wr w1.heap.size lv (((L.take i).filter (prtB g)).map (fun i => (fvtI g i).2.1)))∧Hid (Below w1.heap.size w1 wr)) (fun _ z _ _ => L.length - (intOf z).toNat)
 case atStart => exact ⟨0,Nat.zero_le _,rfl,OwnI.nil _ _,Below.refl _ _⟩
 case round =>
  obtain ⟨i,hi2,rfl,HO,HB⟩:=hrel
  by_cases hil : i < L.length
  ·have hii : (i : Int) < (len9 : Int):=by omega
   obtain ⟨A,hA,hAl⟩:=fldN_num (show L[i] ∈ fldN g t by rw [← HLE.out]; exact List.getElem_mem hil)
   have hAi : (A : Int) < (g.fs.length : Int):=by omega
   have HPT : Hid (((L.take (i + 1)).filter (prtB g)).map (fun i => (fvtI g i).2.1) = ((L.take i).filter (prtB g)).map (fun i => (fvtI g i).2.1) ++ (if prtB g L[i] = true then [(fvtI g L[i]).2.1] else [])):=prt_take hil
   have HPL : Hid ((((L.take i).filter (prtB g)).map (fun i => (fvtI g i).2.1)).length ≤ 64):=Nat.le_trans prt_len (by omega)
   rw [hA,prtB_at hAl,fvtI_at hAl] at HPT
   obtain ⟨gl,hgl⟩:=HOL.out.at0 hil
   obtain ⟨gl2,goff,hgl2,hgb,_,h6,h7,hc⟩:=(show Is wr (.slice la len9 lc) L from Sl.later HOL.out.is HB.out).at hil
   rw [hgl] at hgl2
   cases hgl2
   have cA:=hc i hil
   rw [hA,Nat.zero_add] at cA
   obtain ⟨tb,off,hta,h8,h9,hty⟩:=HG.out.fd (by intro e; rw [e] at hAl; simp at hAl)
   have hB1r : Below w0.heap.size w0 wr:=bstep HB1.out HB.out
   have HK : Hid (∀ W,Below wr.heap.size wr W → W.cell? ⟨w.heap.size,0,none⟩ = some (.slice g.ta g.ts.length g.tc)∧W.cell? ⟨w.heap.size,1,none⟩ = some (.slice (some ⟨tb,off,none⟩) g.fs.length g.fc)∧W.cell? ⟨w.heap.size,2,none⟩ = some (.slice g.ma g.ms.length g.mc)∧W.cell? ⟨w.heap.size,3,none⟩ = some (.int .i64 g.en)∧W.cell? ⟨gl,i,none⟩ = some (.int .i64 A)∧W.cell? ⟨tb,off + A * 7,none⟩ = some (.string g.fs[A].nm)∧W.cell? ⟨tb,off + A * 7 + 1,none⟩ = some (.int .i64 g.fs[A].ow)∧W.cell? ⟨tb,off + A * 7 + 2,none⟩ = some (.int .i64 g.fs[A].t.1)∧W.cell? ⟨tb,off + A * 7 + 3,none⟩ = some (.int .i64 g.fs[A].t.2.1)∧W.cell? ⟨tb,off + A * 7 + 4,none⟩ = some (.int .i64 g.fs[A].t.2.2.1)∧W.cell? ⟨tb,off + A * 7 + 5,none⟩ = some (.bool g.fs[A].t.2.2.2)∧W.cell? ⟨tb,off + A * 7 + 6,none⟩ = some (.bool g.fs[A].st)):=fun W hW => by
    have hz:=hty W (bstep hB1r hW)
    have hq:=(HG.out.later (bstep hB1r hW)).cells
    have h1 : W.cell? ⟨gl,i,none⟩ = some (.int .i64 A):=by rw [← cA]; exact hW.cell (p:=⟨gl,i,none⟩) hgb
    exact ⟨hq.1,hz.1,hq.2.2.1,hq.2.2.2,h1,(hz.2 A hAl).cells_F⟩
   have HKn : Hid (∀ W,Below wr.heap.size wr W → Calls Tryd.prog 14 #[.agg #[.slice g.ta g.ts.length g.tc,.slice (some ⟨tb,off,none⟩) g.fs.length g.fc,.slice g.ma g.ms.length g.mc,.int .i64 g.en],.int .i64 g.fs[A].t.2.1] W fun e w' => e = .returned (.int .i64 (kndI g g.fs[A].t.2.1))∧Below W.heap.size W w'):=fun W hW => by
    have:=refKind_any g.fs[A].t.2.1 (HG.out.im.later (bstep hB1r hW)) (FlOk.of HI.out)
    unfold imV at this
    rw [hta] at this
    exact this
   unfold maxLen at h7 h9
   subst hgl
   clear hc hty hta cA hA hB1r
   obtain ⟨kv,hkv⟩ : ∃ k,k = kndI g g.fs[A].t.2.1:=⟨_,rfl⟩
   rw [← hkv] at HPT HKn
   clear hkv
   generalize g.fs[A] = x at *
   obtain ⟨wA,hwA⟩ : ∃ W,W = (wr.alloc (.cells #[.string x.nm,.int .i64 x.ow,.int .i64 x.t.1,.int .i64 x.t.2.1,.int .i64 x.t.2.2.1,.bool x.t.2.2.2,.bool x.st] 59)).drew:=⟨_,rfl⟩
   have hbA : Below wr.heap.size wr wA:=by rw [hwA]; exact Below.drewN (made_below _ _ _) 1
   have hAA : At wA wr.heap.size #[.string x.nm,.int .i64 x.ow,.int .i64 x.t.1,.int .i64 x.t.2.1,.int .i64 x.t.2.2.1,.bool x.t.2.2.2,.bool x.st] 59:=by rw [hwA]; exact At.made _ _ _
   have HBA : Hid (Below wr.heap.size wr wA):=hbA
   have HWA : Hid (wA = _):=hwA
   have HAA : Hid (∀ W,Below wA.heap.size wA W → At W wr.heap.size #[.string x.nm,.int .i64 x.ow,.int .i64 x.t.1,.int .i64 x.t.2.1,.int .i64 x.t.2.2.1,.bool x.t.2.2.2,.bool x.st] 59):=fun W hW => hAA.later hW
   have a0:=hAA.cell
   obtain ⟨e0,e1,e2,e3,e4,e5,e6,e7,e8,e9,e10,e11⟩:=HK.out wr (Below.refl _ _)
   obtain ⟨f0,f1,f2,f3,_⟩:=HK.out wA hbA
   clear hwA hbA hAA
   go_wp2_with fail
   go_region_held3 (fun W : World => W.cell? ⟨w.heap.size,0,none⟩ = some (.slice g.ta g.ts.length g.tc)∧W.cell? ⟨w.heap.size,1,none⟩ = some (.slice (some ⟨tb,off,none⟩) g.fs.length g.fc)∧W.cell? ⟨w.heap.size,2,none⟩ = some (.slice g.ma g.ms.length g.mc)∧W.cell? ⟨w.heap.size,3,none⟩ = some (.int .i64 g.en)∧W.cell? ⟨gl,i,none⟩ = some (.int .i64 A)∧W.cell? ⟨tb,off + A * 7,none⟩ = some (.string x.nm)∧W.cell? ⟨tb,off + A * 7 + 1,none⟩ = some (.int .i64 x.ow)∧W.cell? ⟨tb,off + A * 7 + 2,none⟩ = some (.int .i64 x.t.1)∧W.cell? ⟨tb,off + A * 7 + 3,none⟩ = some (.int .i64 x.t.2.1)∧W.cell? ⟨tb,off + A * 7 + 4,none⟩ = some (.int .i64 x.t.2.2.1)∧W.cell? ⟨tb,off + A * 7 + 5,none⟩ = some (.bool x.t.2.2.2)∧W.cell? ⟨tb,off + A * 7 + 6,none⟩ = some (.bool x.st))
    (first | (exact HK.out _ (bdrew _)) | (exact HK.out _ (bbox (bdrew _) _)))
    (fail)
   rename_i hheld
   clear hheld e0 e1 e2 e3 e4 e5 e6 e7 e8 e9 e10 e11
   rw [← HWA.out]
   have HOA : Hid (OwnI wA w1.heap.size u5 (((L.take i).filter (prtB g)).map (fun i => (fvtI g i).2.1))):=OwnI.later HO.out HBA.out
   have HBA1 : Hid (Below w1.heap.size w1 wA):=bstep HB.out HBA.out
   clear HO
   cases hst : x.st with
   | true =>
    have HP2 : Hid (((L.take (i + 1)).filter (prtB g)).map (fun i => (fvtI g i).2.1) = ((L.take i).filter (prtB g)).map (fun i => (fvtI g i).2.1)):=by show _ = _; rw [HPT.out,hst]; simp
    rw [hst] at a0
    clear hst HPT
    go_wp2_with fail
    go_roundw
    case rel => exact ⟨i + 1,by omega,by go_num,by rw [HP2.out]; exact HOA.out,HBA1.out⟩
    case measure => simp [intOf]; omega
   | false =>
    rw [hst] at a0 HPT
    clear hst
    by_cases h6 : x.t.1 = 6
    ·have h6b : (x.t.1 == 6) = true:=by simpa using h6
     by_cases hd : x.t.2.2.1 = 0
     ·have hdb : (x.t.2.2.1 == 0) = true:=by simpa using hd
      have HP1 : Hid (((L.take (i + 1)).filter (prtB g)).map (fun i => (fvtI g i).2.1) = ((L.take i).filter (prtB g)).map (fun i => (fvtI g i).2.1) ++ (if kv = 1 then [x.t.2.1] else [])):=by show _ = _; rw [HPT.out,decide_eq_true h6,decide_eq_true hd]; simp
      clear h6 hd HPT
      go_wp2_with fail
      refine Calls.mono (HKn.out wA HBA.out) ?_
      rintro e w3 ⟨rfl,hb3⟩
      have HO3 : Hid (OwnI w3 w1.heap.size u5 (((L.take i).filter (prtB g)).map (fun i => (fvtI g i).2.1))):=OwnI.later HOA.out hb3
      have HB3 : Hid (Below w1.heap.size w1 w3):=bstep HBA1.out hb3
      have hx3 : w3.cell? ⟨wr.heap.size,3,none⟩ = some (.int .i64 x.t.2.1):=(HAA.out w3 hb3).cell 3
      clear hb3 a0 f0 f1 f2 f3 HOA HBA1 HKn
      by_cases hk1 : kv = 1
      ·subst hk1
       have HP2 : Hid (((L.take (i + 1)).filter (prtB g)).map (fun i => (fvtI g i).2.1) = ((L.take i).filter (prtB g)).map (fun i => (fvtI g i).2.1) ++ [x.t.2.1]):=by show _ = _; rw [HP1.out,if_pos rfl]
       clear HP1
       go_wp2_with (at_builtin; go_must (refine wpList_append_int (v:=u5) rfl (.tmp 49) (.tmp 53) rfl w1.heap.size rfl rfl (HO3.out.later (made_below _ _ _)) (one_int w3 x.t.2.1 _ rfl) (by have:=HPL.out; omega) (Nat.le_trans HB3.out.size (made_below _ _ _).size) ?_; intro v5 w5 ho5 hg5; have hB5:=(bbox HB3.out _).trans (grown_below11 (HO3.out.later (made_below _ _ _)) hg5 (Nat.le_refl _) (Nat.le_trans HB3.out.size (made_below _ _ _).size))))
       go_roundw
       case rel => exact ⟨i + 1,by omega,by go_num,by rw [HP2.out]; exact ho5,hB5⟩
       case measure => simp [intOf]; omega
      ·have hkb : (kv == 1) = false:=by simpa using hk1
       have HP2 : Hid (((L.take (i + 1)).filter (prtB g)).map (fun i => (fvtI g i).2.1) = ((L.take i).filter (prtB g)).map (fun i => (fvtI g i).2.1)):=by show _ = _; rw [HP1.out,if_neg hk1,List.append_nil]
       clear HP1 hk1
       go_wp2_with fail
       go_roundw
       case rel => exact ⟨i + 1,by omega,by go_num,by rw [HP2.out]; exact HO3.out,HB3.out⟩
       case measure => simp [intOf]; omega
     ·have hdb : (x.t.2.2.1 == 0) = false:=by simpa using hd
      have HP2 : Hid (((L.take (i + 1)).filter (prtB g)).map (fun i => (fvtI g i).2.1) = ((L.take i).filter (prtB g)).map (fun i => (fvtI g i).2.1)):=by show _ = _; rw [HPT.out,decide_eq_false hd]; simp
      clear HPT hd
      go_wp2_with fail
      go_roundw
      case rel => exact ⟨i + 1,by omega,by go_num,by rw [HP2.out]; exact HOA.out,HBA1.out⟩
      case measure => simp [intOf]; omega
    ·have h6b : (x.t.1 == 6) = false:=by simpa using h6
     have HP2 : Hid (((L.take (i + 1)).filter (prtB g)).map (fun i => (fvtI g i).2.1) = ((L.take i).filter (prtB g)).map (fun i => (fvtI g i).2.1)):=by show _ = _; rw [HPT.out,decide_eq_false h6]; simp
     clear HPT h6
     go_wp2_with fail
     go_roundw
     case rel => exact ⟨i + 1,by omega,by go_num,by rw [HP2.out]; exact HOA.out,HBA1.out⟩
     case measure => simp [intOf]; omega
  ·have hii : ¬ (i : Int) < (len9 : Int):=by omega
   have HPE : Hid (((L.take i).filter (prtB g)).map (fun i => (fvtI g i).2.1) = prtL g t):=by show _ = _; rw [List.take_of_length_le (by omega),HLE.out]; rfl
   go_wp2_with fail
   go_ret
   exact ⟨_,rfl,by rw [← HPE.out]; exact HO.out.mono (Nat.le_trans HB0.out.size HB1.out.size),bstep HB0.out (bstep HB1.out HB.out)⟩
end Go.Proofs.YtapocgcdjkbnhaaDoor

namespace Go.Proofs.YtapocgcdjkbnhaaDoor
set_option linter.unusedVariables false
set_option linter.unusedSimpArgs false
open Go.RowKit
def namesL : List UInt8 := [
 110,111,112,32,108,100,97,114,103,32,115,116,97,114,103,32,108,100,97,114,103,97,32,108,100,108,111,99,32,115,116,108,
 111,99,32,108,100,108,111,99,97,32,108,100,99,52,32,108,100,99,56,32,108,100,110,117,108,108,32,100,117,112,32,112,
 111,112,32,97,100,100,32,115,117,98,32,109,117,108,32,100,105,118,32,114,101,109,32,97,110,100,32,111,114,32,120,111,
 114,32,115,104,108,32,115,104,114,32,110,101,103,32,110,111,116,32,97,100,100,111,118,102,32,115,117,98,111,118,102,32,
 109,117,108,111,118,102,32,99,111,110,118,52,32,99,111,110,118,56,32,99,111,110,118,111,118,102,52,32,99,101,113,32,
 99,103,116,32,99,108,116,32,98,114,32,98,114,116,114,117,101,32,98,114,102,97,108,115,101,32,98,101,113,32,98,103,101,
 32,98,103,116,32,98,108,101,32,98,108,116,32,98,110,101,32,99,97,108,108,32,99,97,108,108,118,105,114,116,32,110,101,
 119,111,98,106,32,114,101,116,32,116,97,105,108,32,108,100,102,108,100,32,115,116,102,108,100,32,108,100,102,108,100,
 97,32,108,100,115,102,108,100,32,115,116,115,102,108,100,32,108,100,115,102,108,100,97,32,108,100,111,98,106,32,115,
 116,111,98,106,32,105,110,105,116,111,98,106,32,110,101,119,97,114,114,32,108,100,108,101,110,32,108,100,101,108,101,
 109,32,115,116,101,108,101,109,32,108,100,101,108,101,109,97,32,98,111,120,32,117,110,98,111,120,32,117,110,98,111,120,
 97,110,121,32,99,97,115,116,99,108,97,115,115,32,105,115,105,110,115,116,32,108,100,102,116,110,32,110,101,119,100,101,
 108,32,116,104,114,111,119,32,114,101,116,104,114,111,119,32,108,101,97,118,101,32,101,110,100,102,105,110,97,108,108,
 121,32,101,110,100,102,105,108,116,101,114,32,105,110,32,111,117,116,32]
def namesB : ByteArray:=⟨namesL.toArray⟩
def chk : List UInt8 → Nat → List UInt8 → Bool
 | [],m,cur => m == 76
 | c :: l,m,cur => if c = 32 then (opI (m : Int)).1 == cur && decide (1 ≤ m∧m ≤ 75) && chk l (m + 1) [] else chk l m (cur ++ [c])
theorem names_chk : chk namesL 1 [] = true:=by decide +kernel
theorem names_len : namesL.length = 433:=by decide +kernel
theorem namesB_get (k : Nat) (h : k < 433) (g : k < namesB.size) : namesB[k] = namesL[k]'(by rw [names_len]; exact h):=rfl
def nseg (f k : Nat) : List UInt8:=(namesL.drop f).take (k - f)
theorem nseg_next {f k : Nat} (hf : f ≤ k) (hk : k < 433) : nseg f (k + 1) = nseg f k ++ [namesL[k]'(by rw [names_len]; exact hk)]:=by
 unfold nseg
 have hl:=names_len
 rw [show k + 1 - f = (k - f) + 1 by omega,List.take_succ_eq_append_getElem (by simp; omega)]
 congr 2
 simp [show f + (k - f) = k by omega]
theorem nseg_nil (k : Nat) : nseg k k = []:=by simp [nseg]
theorem drop_next {k : Nat} (hk : k < 433) : namesL.drop k = (namesL[k]'(by rw [names_len]; exact hk)) :: namesL.drop (k + 1):=by
 rw [List.drop_eq_getElem_cons (by rw [names_len]; exact hk)]
theorem chk_space {k m : Nat} {cur : List UInt8} (hk : k < 433) (h : chk (namesL.drop k) m cur = true) (hc : (namesL[k]'(by rw [names_len]; exact hk)) = 32) : (opI (m : Int)).1 = cur∧1 ≤ m∧m ≤ 75∧chk (namesL.drop (k + 1)) (m + 1) [] = true:=by
 rw [drop_next hk] at h
 unfold chk at h
 rw [if_pos hc] at h
 simp only [Bool.and_eq_true,beq_iff_eq,decide_eq_true_eq] at h
 exact ⟨h.1.1,h.1.2.1,h.1.2.2,h.2⟩
theorem chk_sign {k m : Nat} {cur : List UInt8} (hk : k < 433) (h : chk (namesL.drop k) m cur = true) (hc : ¬ (namesL[k]'(by rw [names_len]; exact hk)) = 32) : chk (namesL.drop (k + 1)) m (cur ++ [namesL[k]'(by rw [names_len]; exact hk)]) = true:=by
 rw [drop_next hk] at h
 unfold chk at h
 rw [if_neg hc] at h
 exact h
theorem chk_end {m : Nat} {cur : List UInt8} (h : chk (namesL.drop 433) m cur = true) : m = 76:=by
 rw [List.drop_of_length_le (by rw [names_len]; exact Nat.le_refl _)] at h
 simpa [chk] using h

theorem names6_yes {k : Nat} (hlt : k < 433) (g : k < namesB.size) (h : (((namesB[k]'g).toNat : Int) == 32) = true) : (namesL[k]'(by rw [names_len]; exact hlt)) = 32:=by
 rw [namesB_get k hlt g] at h
 exact UInt8.toNat_inj.1 (by simp at h ⊢; omega)
theorem names6_no {k : Nat} (hlt : k < 433) (g : k < namesB.size) (h : (((namesB[k]'g).toNat : Int) == 32) = false) : ¬ (namesL[k]'(by rw [names_len]; exact hlt)) = 32:=by
 rw [namesB_get k hlt g] at h
 intro e
 rw [e] at h
 simp at h
theorem names_cut {f k m : Nat} (hf : f ≤ k) (h : (opI (m : Int)).1 = nseg f k) : namesB.extract f k = opS (m : Int):=by
 unfold opS
 rw [h]
 apply ByteArray.ext
 rw [ByteArray.data_extract]
 apply Array.ext'
 simp [namesB,nseg]
theorem ret_txt {a b : ByteArray} (h : a = b) : Ending.returned (.string a) = .returned (.string b):=by rw [h]

set_option maxHeartbeats 1000000 in
set_option maxRecDepth 1000000 in
theorem refOpName_any (n : Int) (w : World) :
  Calls Tryd.prog 73 #[.int .i64 n] w fun e w' => e = .returned (.string (opS n))∧w' = w:=by
 go_enter Tryd.func73,Tryd.ntmps73
 go_wp2_with fail
 go_loop [3,4,5] (fun m f i => ∃ k m' f' : Nat,k ≤ 433∧i = .int .i64 (k : Int)∧m = .int .i64 (m' : Int)∧f = .int .i64 (f' : Int)∧f' ≤ k∧m' ≤ k + 1∧Hid (chk (namesL.drop k) m' (nseg f' k) = true∧¬ (1 ≤ n∧n < (m' : Int)))) (fun _ _ i => 433 - (intOf i).toNat)
 case atStart => exact ⟨0,1,0,by omega,by go_num,by go_num,by go_num,by omega,by omega,⟨names_chk,by omega⟩⟩
 case round =>
  obtain ⟨k,m',f',hk,rfl,rfl,rfl,hf,hm,HC⟩:=hrel
  by_cases hlt : k < 433
  ·have hkB : k < namesB.size:=hlt
   by_cases hmn : (m' : Int) = n
   ·subst hmn
    go_wp2_with fail
    ·rename_i hs0 _ _ _
     have hsp:=names6_yes hlt hkB hs0
     clear hs0
     obtain ⟨c1,c2,c3,c4⟩:=chk_space hlt HC.out.1 hsp
     go_ret
     exact ⟨ret_txt (names_cut hf c1),rfl⟩
    ·rename_i hs0
     have hsp:=names6_no hlt hkB hs0
     clear hs0
     go_round
     case rel => exact ⟨k + 1,m',f',by omega,by go_num,rfl,rfl,by omega,by omega,⟨by rw [nseg_next hf hlt]; exact chk_sign hlt HC.out.1 hsp,HC.out.2⟩⟩
     case measure => simp [intOf]; omega
   ·have hmn2 : ((m' : Int) == n) = false:=by simpa using hmn
    have HN : Hid (¬ (1 ≤ n∧n < ((m' + 1 : Nat) : Int))):=by have:=HC.out.2; show ¬ _; omega
    clear hmn
    go_wp2_with fail
    ·rename_i hs0
     have hsp:=names6_yes hlt hkB hs0
     clear hs0
     obtain ⟨c1,c2,c3,c4⟩:=chk_space hlt HC.out.1 hsp
     go_round
     case rel => exact ⟨k + 1,m' + 1,k + 1,by omega,by go_num,by go_num,by go_num,by omega,by omega,⟨by rw [nseg_nil]; exact c4,HN.out⟩⟩
     case measure => simp [intOf]; omega
    ·rename_i hs0
     have hsp:=names6_no hlt hkB hs0
     clear hs0
     go_round
     case rel => exact ⟨k + 1,m',f',by omega,by go_num,rfl,rfl,by omega,by omega,⟨by rw [nseg_next hf hlt]; exact chk_sign hlt HC.out.1 hsp,HC.out.2⟩⟩
     case measure => simp [intOf]; omega
  ·have e : k = 433:=by omega
   subst e
   go_wp2_with fail
   go_ret
   have h76:=chk_end HC.out.1
   have:=HC.out.2
   exact ⟨ret_txt (opS_out (by omega)).symm,rfl⟩
def digP : ByteArray:=⟨List.toArray (48 :: 52 :: 52 :: 52 :: 51 :: 51 :: 51 :: 49 :: 50 :: 48 :: 48 :: 48 :: 48 :: 48 :: 48 :: 48 :: 48 :: 48 :: 48 :: 48 :: 48 :: 48 :: 48 :: 48 :: 48 :: 48 :: 48 :: 48 :: 48 :: 48 :: 48 :: 48 :: 48 :: 53 :: 53 :: 53 :: 53 :: 53 :: 53 :: 53 :: 53 :: 53 :: 54 :: 54 :: 54 :: 48 :: 48 :: 55 :: 55 :: 55 :: 55 :: 55 :: 55 :: 56 :: 56 :: 56 :: 56 :: 48 :: 56 :: 56 :: 56 :: 56 :: 56 :: 56 :: 56 :: 56 :: 54 :: 56 :: 48 :: 48 :: 53 :: 48 :: 48 :: 48 :: 48 :: [])⟩
def digW : ByteArray:=⟨List.toArray (48 :: 48 :: 48 :: 48 :: 48 :: 48 :: 48 :: 48 :: 48 :: 48 :: 48 :: 48 :: 48 :: 48 :: 48 :: 48 :: 48 :: 48 :: 48 :: 48 :: 48 :: 48 :: 48 :: 48 :: 48 :: 48 :: 48 :: 48 :: 48 :: 48 :: 48 :: 48 :: 48 :: 49 :: 50 :: 50 :: 50 :: 50 :: 50 :: 50 :: 50 :: 50 :: 48 :: 48 :: 48 :: 51 :: 48 :: 48 :: 48 :: 48 :: 48 :: 48 :: 48 :: 48 :: 48 :: 48 :: 48 :: 48 :: 48 :: 48 :: 48 :: 48 :: 48 :: 48 :: 48 :: 48 :: 48 :: 48 :: 51 :: 51 :: 52 :: 53 :: 53 :: 48 :: 48 :: [])⟩
theorem digP_all : ∀ k : Nat,k < 75 → ((digP.get! k).toNat : Int) = opP ((k : Int) + 1) + 48∧0 ≤ opP ((k : Int) + 1)∧opP ((k : Int) + 1) ≤ 8:=by decide +kernel
theorem digW_all : ∀ k : Nat,k < 75 → ((digW.get! k).toNat : Int) = opW ((k : Int) + 1) + 48∧0 ≤ opW ((k : Int) + 1)∧opW ((k : Int) + 1) ≤ 5:=by decide +kernel

theorem wrap_small {x : Int} (h0 : 0 ≤ x) (h1 : x < 256) : IntKind.u8.wrap x = x:=by
 unfold IntKind.wrap
 simp [IntKind.bits,IntKind.signed]
 omega
theorem get_bang (d : ByteArray) (k : Nat) (h : k < d.size) : d.get! k = d[k]'h:=by
 show d.data[k]! = d.data[k]'h
 exact getElem!_pos d.data k h
theorem digP_at (k : Nat) (hk : k < 75) (h : k < digP.size) : ((digP[k]'h).toNat : Int) = opP ((k : Int) + 1) + 48:=by rw [← get_bang]; exact (digP_all k hk).1
theorem digW_at (k : Nat) (hk : k < 75) (h : k < digW.size) : ((digW[k]'h).toNat : Int) = opW ((k : Int) + 1) + 48:=by rw [← get_bang]; exact (digW_all k hk).1

set_option maxHeartbeats 1000000 in
set_option maxRecDepth 100000 in
theorem refOf_in (k : Nat) (hk : k < 75) (w : World) :
  Calls Tryd.prog 59 #[.int .i64 ((k : Int) + 1)] w fun e w' => e = .returned (.tuple #[.agg #[.string (opS ((k : Int) + 1)),.int .i64 (opP ((k : Int) + 1)),.int .i64 (opW ((k : Int) + 1))],.int .i64 0])∧Below w.heap.size w w':=by
 have hA0:=At.made w #[.string ⟨#[]⟩,.int .i64 0,.int .i64 0] 80
 have hb0 : Below w.heap.size w (w.alloc (.cells #[.string ⟨#[]⟩,.int .i64 0,.int .i64 0] 80)):=(Below.refl _ _).alloc (Nat.le_refl _) _
 have h1 : (0 : Int) ≤ (k : Int):=by omega
 have h2 : (k : Int) < 75:=by omega
 have hkw : IntKind.i64.wrap (k : Int) = (k : Int):=by rw [IntKind.wrap_i64]; omega
 have hp:=digP_at k hk hk
 have hq:=digW_at k hk hk
 unfold digP at hp
 unfold digW at hq
 obtain ⟨-,hp0,hp8⟩:=digP_all k hk
 obtain ⟨-,hw0,hw5⟩:=digW_all k hk
 generalize opP ((k : Int) + 1) = p at *
 generalize opW ((k : Int) + 1) = q at *
 have hpw : IntKind.u8.wrap p = p:=wrap_small (by omega) (by omega)
 have hqw : IntKind.u8.wrap q = q:=wrap_small (by omega) (by omega)
 have hpi : IntKind.i64.wrap p = p:=by rw [IntKind.wrap_i64]; omega
 have hqi : IntKind.i64.wrap q = q:=by rw [IntKind.wrap_i64]; omega
 go_enter Tryd.func59,Tryd.ntmps59
 go_wp2_with fail
 go_region_held3 (fun w' => True) (exact trivial)
  (first | (go_at_call 73; refine (refOpName_any _ _).mono ?_; rintro e wz ⟨rfl,hz⟩; subst wz))
 all_goals
  clear hp hq
  go_wp2
  refine bodyPost_ret (v:=_) (by simp [results,Tryd.results59,go_sem]) rfl ⟨rfl, ?_⟩
  exact Below.drewN ((Below.refl _ _).alloc (Nat.le_refl _) _) 1

theorem refOf_out (n : Int) (h : ¬ (1 ≤ n∧n ≤ 75)) (w : World) :
  Calls Tryd.prog 59 #[.int .i64 n] w fun e w' => e = .returned (.tuple #[.agg #[.string ⟨#[]⟩,.int .i64 0,.int .i64 0],.int .i64 3])∧Below w.heap.size w w':=by
 have hor : (decide (n < 1) || decide (75 < n)) = true:=by simp; omega
 by_cases h1 : n < 1
 ·clear h hor
  go_enter Tryd.func59,Tryd.ntmps59
  go_wp2
  refine bodyPost_ret (v:=_) (by simp [results,Tryd.results59,go_sem]) rfl ⟨rfl, ?_⟩
  exact (Below.refl _ _).alloc (Nat.le_refl _) _
 ·have h2 : 75 < n:=by omega
  clear h hor
  go_enter Tryd.func59,Tryd.ntmps59
  go_wp2
  refine bodyPost_ret (v:=_) (by simp [results,Tryd.results59,go_sem]) rfl ⟨rfl, ?_⟩
  exact (Below.refl _ _).alloc (Nat.le_refl _) _
theorem refOf_at (n : Int) (h1 : 1 ≤ n) (h2 : n ≤ 75) (w : World) :
  Calls Tryd.prog 59 #[.int .i64 n] w fun e w' => e = .returned (.tuple #[.agg #[.string (opS n),.int .i64 (opP n),.int .i64 (opW n)],.int .i64 0])∧Below w.heap.size w w':=by
 have:=refOf_in (n - 1).toNat (by omega) w
 rw [show ((n - 1).toNat : Int) + 1 = n by omega] at this
 exact this

set_option maxHeartbeats 2000000 in
theorem refFits6_any (op n k i d : Int) (r : Bool) (w : World) :
  Calls Tryd.prog 58 #[.agg #[.int .i64 op,.int .i64 n,.int .i64 k,.int .i64 i,.int .i64 d,.bool r]] w fun e w' => e = .returned (.int .i64 (fitE op n k i d r))∧Below w.heap.size w w':=by
 have hb0 : Below w.heap.size w (w.alloc (.cells #[.int .i64 op,.int .i64 n,.int .i64 k,.int .i64 i,.int .i64 d,.bool r] 77)):=(Below.refl _ _).alloc (Nat.le_refl _) _
 have hA0:=At.made w #[.int .i64 op,.int .i64 n,.int .i64 k,.int .i64 i,.int .i64 d,.bool r] 77
 have hz : ∀ W : World,(binOp .eql 28 (.agg #[.int .i64 k,.int .i64 i,.int .i64 d,.bool r]) (.agg #[.int .i64 0,.int .i64 0,.int .i64 0,.bool false])).run Tryd.prog W = .ok (.bool (zeroB k i d r)) W:=fun W => by
  rw [eq_ty]; cases r <;> rfl
 by_cases hin : 1 ≤ op∧op ≤ 75
 ·obtain ⟨h1,h2⟩:=hin
  have HE : Hid (fitE op n k i d r = if fitB (opP op) n k i d r = true then 0 else 17):=by show _ = _; unfold fitE; rw [if_pos ⟨h1,h2⟩]
  go_enter Tryd.func58,Tryd.ntmps58
  go_wp2_with fail
  refine (refOf_at op h1 h2 _).mono ?_
  rintro e w1 ⟨rfl,hb⟩
  have hA:=hA0.later hb
  have hB:=hb0.trans (hb.mono hb0.size)
  have hbx : Below w1.heap.size w1 (w1.alloc (.cells #[.string (opS op),.int .i64 (opP op),.int .i64 (opW op)] 80)):=(Below.refl _ _).alloc (Nat.le_refl _) _
  have hA2:=hA.later hbx
  have hB2:=hB.trans (hbx.mono hB.size)
  have hX:=At.made w1 #[.string (opS op),.int .i64 (opP op),.int .i64 (opW op)] 80
  have tc:=hA2.cell
  have xc:=hX.cell
  clear hb hb0 hA hA0 hB hbx h1 h2
  generalize opP op = p at *
  generalize opW op = q at *
  generalize opS op = s at *
  go_wp2_with fail
  refine (most_any p _).mono ?_
  rintro e wz ⟨rfl,hw⟩
  subst wz
  by_cases hlo : n < bLo p
  ·have HN : Hid (fitE op n k i d r = 17):=by
    show _ = _; rw [HE.out,if_neg]; unfold fitB; simp; intro a; omega
   clear HE
   by_cases hhi : bHi p < n
   ·go_wp2_with fail
    go_ret
    exact ⟨ret_int HN.out.symm,hB2⟩
   ·go_wp2_with fail
    go_ret
    exact ⟨ret_int HN.out.symm,hB2⟩
  ·by_cases hhi : bHi p < n
   ·have HN : Hid (fitE op n k i d r = 17):=by
     show _ = _; rw [HE.out,if_neg]; unfold fitB; simp; intro a b; omega
    clear HE
    go_wp2_with fail
    go_ret
    exact ⟨ret_int HN.out.symm,hB2⟩
   ·have HF : Hid (fitB p n k i d r = if p = 8 then mayB 1 k i d r else zeroB k i d r):=by
     show _ = _; unfold fitB; rw [decide_eq_true (by omega),decide_eq_true (by omega)]; rfl
    by_cases h8 : p = 8
    ·subst h8
     have HF8 : Hid (fitB 8 n k i d r = mayB 1 k i d r):=by show _ = _; rw [HF.out,if_pos rfl]
     clear HF
     go_wp2_with fail
     refine (where1_any k i d r _).mono ?_
     rintro e w2 ⟨rfl,hb⟩
     have hB3:=hB2.trans (hb.mono hB2.size)
     clear hb hB2 tc xc
     cases hm : mayB 1 k i d r with
     | false =>
      go_wp2_with fail
      go_ret
      exact ⟨ret_int (by rw [HE.out,HF8.out,hm]; rfl),hB3⟩
     | true =>
      go_wp2_with fail
      go_ret
      exact ⟨ret_int (by rw [HE.out,HF8.out,hm]; rfl),hB3⟩
    ·have h8' : (p == 8) = false:=by simpa using h8
     have h8n : (p != 8) = true:=by simpa using h8
     have HF8 : Hid (fitB p n k i d r = zeroB k i d r):=by show _ = _; rw [HF.out,if_neg h8]
     clear HF h8
     cases hm : zeroB k i d r with
     | false =>
      go_wp2_with fail
      go_ret
      exact ⟨ret_int (by rw [HE.out,HF8.out,hm]; rfl),hB2⟩
     | true =>
      go_wp2_with fail
      go_ret
      exact ⟨ret_int (by rw [HE.out,HF8.out,hm]; rfl),hB2⟩
 ·have HE : Hid (fitE op n k i d r = 3):=by show _ = _; unfold fitE; rw [if_neg hin]
  go_enter Tryd.func58,Tryd.ntmps58
  go_wp2_with fail
  refine (refOf_out op hin _).mono ?_
  rintro e w1 ⟨rfl,hb⟩
  have hB:=hb0.trans (hb.mono hb0.size)
  have hbx : Below w1.heap.size w1 (w1.alloc (.cells #[.string ⟨#[]⟩,.int .i64 0,.int .i64 0] 80)):=(Below.refl _ _).alloc (Nat.le_refl _) _
  have hB2:=hB.trans (hbx.mono hB.size)
  clear hb hb0 hA0 hB hbx
  go_wp2_with fail
  go_ret
  exact ⟨ret_int HE.out.symm,hB2⟩
end Go.Proofs.YtapocgcdjkbnhaaDoor
