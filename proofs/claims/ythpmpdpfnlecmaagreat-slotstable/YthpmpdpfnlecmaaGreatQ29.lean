/- Texts joined: RefParts11, LayHeld. -/
import Derived.Test.YthpmpdpfnlecmaaGreatQ24
import Derived.Deep.RegionHeld3
import Derived.Test.YthpmpdpfnlecmaaGreatQ19
namespace Go.Proofs.YthpmpdpfnlecmaaGreat
set_option linter.unusedVariables false
set_option linter.unusedSimpArgs false
open Go.RowKit
attribute [local go_sem ↓] Go.wp_at_zero Go.wp_at_succ
theorem prt_take {L : List Int} {p : Int → Bool} {f : Int → Int} {i : Nat} (hi : i < L.length) : ((L.take (i + 1)).filter p).map f = ((L.take i).filter p).map f ++ (if p L[i] = true then [f L[i]] else []):=by
 rw [List.take_succ_eq_append_getElem hi,List.filter_append,List.map_append]
 congr 1
 cases h : p L[i] <;> simp only [List.filter_cons,List.filter_nil,h] <;> rfl
theorem prt_len {L : List Int} {p : Int → Bool} {f : Int → Int} {i : Nat} : (((L.take i).filter p).map f).length ≤ L.length:=by
 rw [List.length_map]
 exact Nat.le_trans (List.length_filter_le _ _) (by rw [List.length_take]; omega)
theorem fstI_at {g : Img} {k : Nat} (h : k < g.fs.length) : fstI g (k : Int) = g.fs[k].st:=by unfold fstI; rw [Int.toNat_natCast,List.getElem?_eq_getElem h]
theorem fvtI_at {g : Img} {k : Nat} (h : k < g.fs.length) : fvtI g (k : Int) = g.fs[k].t:=by unfold fvtI; rw [Int.toNat_natCast,List.getElem?_eq_getElem h]
theorem prtB_at {g : Img} {k : Nat} (h : k < g.fs.length) : prtB g (k : Int) = (!g.fs[k].st && (decide (g.fs[k].t.1 = 6) && decide (g.fs[k].t.2.2.1 = 0) && decide (kndI g g.fs[k].t.2.1 = 1))):=by unfold prtB; rw [fstI_at h,fvtI_at h]

set_option maxHeartbeats 8000000 in
set_option maxRecDepth 100000 in
theorem refParts_any {g : Img} {t : Int} {w : World} (hg : Im w g) (hi : imB g = true) :
  Calls Tryz.prog 118 #[imV g,.int .i64 t] w fun e w' => ∃ v,e = .returned v∧OwnI w' w.heap.size v (prtL g t)∧Below w.heap.size w w':=by
 obtain ⟨w0,hw0⟩ : ∃ W,W = w.alloc (.cells (imC g) 26):=⟨_,rfl⟩
 have HW0 : Hid (w0 = _):=hw0
 obtain ⟨hb0,hgb⟩:=GB.made hg hw0
 have HB0 : Hid (Below w.heap.size w w0):=hb0
 have HG : Hid (GB w0 w.heap.size g):=hgb
 have HI : Hid (imB g = true):=hi
 have hln:=im_len hi
 have HFl : Hid (Calls Tryz.prog 117 #[.agg (imC g),.int .i64 t] w0 fun e w' => ∃ v,e = .returned v∧OwnI w' w0.heap.size v (fldN g t)∧Below w0.heap.size w0 w'):=refFields_any HG.out.im HI.out
 obtain ⟨c0,c1,c2,c3⟩:=hgb.cells
 unfold imC at HW0 HFl
 clear hw0 hb0 hgb hg hi
 unfold imV
 go_enter Tryz.func118,Tryz.ntmps118
 go_wp2_with (rw [← HW0.out])
 refine Calls.mono HFl.out ?_
 rintro e w1 ⟨fv,rfl,hf,hb1⟩
 have HB1 : Hid (Below w0.heap.size w0 w1):=hb1
 obtain ⟨L,hL⟩ : ∃ X,X = fldN g t:=⟨_,rfl⟩
 have HLE : Hid (L = fldN g t):=hL
 rw [← hL] at hf
 have hll:=fldN_len g t
 rw [← hL] at hll
 obtain ⟨la,lc,hfv,_,hlc⟩:=(show Is w1 fv L from hf.is).shape
 subst hfv
 have HOL:=LiF.of hf
 obtain ⟨len9,h99⟩ : ∃ n,n = L.length:=⟨_,rfl⟩
 rw [← h99] at HOL
 have HOL : Hid (LiF w1 la len9 lc L):=HOL
 rw [← h99]
 clear hf hb1 c0 c1 c2 c3 hL HFl
 go_wp2_with fail
 go_loopw [5,7,8] (fun lv z _ wr => ∃ i : Nat,i ≤ L.length∧z = .int .i64 i∧Hid (OwnI wr w1.heap.size lv (((L.take i).filter (prtB g)).map (fun i => (fvtI g i).2.1)))∧Hid (Below w1.heap.size w1 wr)) (fun _ z _ _ => L.length - (intOf z).toNat)
 case atStart => exact ⟨0,Nat.zero_le _,rfl,OwnI.nil _ _,Below.refl _ _⟩
 case round =>
  obtain ⟨i,hi2,rfl,HO,HB⟩:=hrel
  by_cases hil : i < L.length
  ·have hii : (i : Int) < (len9 : Int):=by omega
   obtain ⟨A,hA,hAl⟩:=fldN_num (show L[i] ∈ fldN g t by rw [← HLE.out]; exact List.getElem_mem hil)
   have hAi : (A : Int) < (g.fs.length : Int):=by omega
   have HPT : Hid (((L.take (i + 1)).filter (prtB g)).map (fun i => (fvtI g i).2.1) = ((L.take i).filter (prtB g)).map (fun i => (fvtI g i).2.1) ++ (if prtB g L[i] = true then [(fvtI g L[i]).2.1] else [])):=prt_take hil
   have HPL : Hid ((((L.take i).filter (prtB g)).map (fun i => (fvtI g i).2.1)).length ≤ 64):=Nat.le_trans prt_len (by omega)
   rw [hA,prtB_at hAl,fvtI_at hAl] at HPT
   obtain ⟨gl,hgl⟩:=HOL.out.at0 hil
   obtain ⟨gl2,goff,hgl2,hgb,_,h6,h7,hc⟩:=(show Is wr (.slice la len9 lc) L from Sl.later HOL.out.is HB.out).at hil
   rw [hgl] at hgl2
   cases hgl2
   have cA:=hc i hil
   rw [hA,Nat.zero_add] at cA
   obtain ⟨tb,off,hta,h8,h9,hty⟩:=HG.out.fd (by intro e; rw [e] at hAl; simp at hAl)
   have hB1r : Below w0.heap.size w0 wr:=bstep HB1.out HB.out
   have HK : Hid (∀ W,Below wr.heap.size wr W → W.cell? ⟨w.heap.size,0,none⟩ = some (.slice g.ta g.ts.length g.tc)∧W.cell? ⟨w.heap.size,1,none⟩ = some (.slice (some ⟨tb,off,none⟩) g.fs.length g.fc)∧W.cell? ⟨w.heap.size,2,none⟩ = some (.slice g.ma g.ms.length g.mc)∧W.cell? ⟨w.heap.size,3,none⟩ = some (.int .i64 g.en)∧W.cell? ⟨gl,i,none⟩ = some (.int .i64 A)∧W.cell? ⟨tb,off + A * 7,none⟩ = some (.string g.fs[A].nm)∧W.cell? ⟨tb,off + A * 7 + 1,none⟩ = some (.int .i64 g.fs[A].ow)∧W.cell? ⟨tb,off + A * 7 + 2,none⟩ = some (.int .i64 g.fs[A].t.1)∧W.cell? ⟨tb,off + A * 7 + 3,none⟩ = some (.int .i64 g.fs[A].t.2.1)∧W.cell? ⟨tb,off + A * 7 + 4,none⟩ = some (.int .i64 g.fs[A].t.2.2.1)∧W.cell? ⟨tb,off + A * 7 + 5,none⟩ = some (.bool g.fs[A].t.2.2.2)∧W.cell? ⟨tb,off + A * 7 + 6,none⟩ = some (.bool g.fs[A].st)):=fun W hW => by
    have hz:=hty W (bstep hB1r hW)
    have hq:=(HG.out.later (bstep hB1r hW)).cells
    have h1 : W.cell? ⟨gl,i,none⟩ = some (.int .i64 A):=by rw [← cA]; exact hW.cell (p:=⟨gl,i,none⟩) hgb
    exact ⟨hq.1,hz.1,hq.2.2.1,hq.2.2.2,h1,(hz.2 A hAl).cells_F⟩
   have HKn : Hid (∀ W,Below wr.heap.size wr W → Calls Tryz.prog 27 #[.agg #[.slice g.ta g.ts.length g.tc,.slice (some ⟨tb,off,none⟩) g.fs.length g.fc,.slice g.ma g.ms.length g.mc,.int .i64 g.en],.int .i64 g.fs[A].t.2.1] W fun e w' => e = .returned (.int .i64 (kndI g g.fs[A].t.2.1))∧Below W.heap.size W w'):=fun W hW => by
    have:=refKind_any g.fs[A].t.2.1 (HG.out.im.later (bstep hB1r hW)) (FlOk.of HI.out)
    unfold imV at this
    rw [hta] at this
    exact this
   unfold maxLen at h7 h9
   subst hgl
   clear hc hty hta cA hA hB1r
   obtain ⟨kv,hkv⟩ : ∃ k,k = kndI g g.fs[A].t.2.1:=⟨_,rfl⟩
   rw [← hkv] at HPT HKn
   clear hkv
   generalize g.fs[A] = x at *
   obtain ⟨wA,hwA⟩ : ∃ W,W = (wr.alloc (.cells #[.string x.nm,.int .i64 x.ow,.int .i64 x.t.1,.int .i64 x.t.2.1,.int .i64 x.t.2.2.1,.bool x.t.2.2.2,.bool x.st] 75)).drew:=⟨_,rfl⟩
   have hbA : Below wr.heap.size wr wA:=by rw [hwA]; exact Below.drewN (made_below _ _ _) 1
   have hAA : At wA wr.heap.size #[.string x.nm,.int .i64 x.ow,.int .i64 x.t.1,.int .i64 x.t.2.1,.int .i64 x.t.2.2.1,.bool x.t.2.2.2,.bool x.st] 75:=by rw [hwA]; exact At.made _ _ _
   have HBA : Hid (Below wr.heap.size wr wA):=hbA
   have HWA : Hid (wA = _):=hwA
   have HAA : Hid (∀ W,Below wA.heap.size wA W → At W wr.heap.size #[.string x.nm,.int .i64 x.ow,.int .i64 x.t.1,.int .i64 x.t.2.1,.int .i64 x.t.2.2.1,.bool x.t.2.2.2,.bool x.st] 75):=fun W hW => hAA.later hW
   have a0:=hAA.cell
   obtain ⟨e0,e1,e2,e3,e4,e5,e6,e7,e8,e9,e10,e11⟩:=HK.out wr (Below.refl _ _)
   obtain ⟨f0,f1,f2,f3,_⟩:=HK.out wA hbA
   clear hwA hbA hAA
   go_wp2_with fail
   go_region_held3 (fun W : World => W.cell? ⟨w.heap.size,0,none⟩ = some (.slice g.ta g.ts.length g.tc)∧W.cell? ⟨w.heap.size,1,none⟩ = some (.slice (some ⟨tb,off,none⟩) g.fs.length g.fc)∧W.cell? ⟨w.heap.size,2,none⟩ = some (.slice g.ma g.ms.length g.mc)∧W.cell? ⟨w.heap.size,3,none⟩ = some (.int .i64 g.en)∧W.cell? ⟨gl,i,none⟩ = some (.int .i64 A)∧W.cell? ⟨tb,off + A * 7,none⟩ = some (.string x.nm)∧W.cell? ⟨tb,off + A * 7 + 1,none⟩ = some (.int .i64 x.ow)∧W.cell? ⟨tb,off + A * 7 + 2,none⟩ = some (.int .i64 x.t.1)∧W.cell? ⟨tb,off + A * 7 + 3,none⟩ = some (.int .i64 x.t.2.1)∧W.cell? ⟨tb,off + A * 7 + 4,none⟩ = some (.int .i64 x.t.2.2.1)∧W.cell? ⟨tb,off + A * 7 + 5,none⟩ = some (.bool x.t.2.2.2)∧W.cell? ⟨tb,off + A * 7 + 6,none⟩ = some (.bool x.st))
    (first | (exact HK.out _ (bdrew _)) | (exact HK.out _ (bbox (bdrew _) _)))
    (fail)
   rename_i hheld
   clear hheld e0 e1 e2 e3 e4 e5 e6 e7 e8 e9 e10 e11
   rw [← HWA.out]
   have HOA : Hid (OwnI wA w1.heap.size u5 (((L.take i).filter (prtB g)).map (fun i => (fvtI g i).2.1))):=OwnI.later HO.out HBA.out
   have HBA1 : Hid (Below w1.heap.size w1 wA):=bstep HB.out HBA.out
   clear HO
   cases hst : x.st with
   | true =>
    have HP2 : Hid (((L.take (i + 1)).filter (prtB g)).map (fun i => (fvtI g i).2.1) = ((L.take i).filter (prtB g)).map (fun i => (fvtI g i).2.1)):=by show _ = _; rw [HPT.out,hst]; simp
    rw [hst] at a0
    clear hst HPT
    go_wp2_with fail
    go_roundw
    case rel => exact ⟨i + 1,by omega,by go_num,by rw [HP2.out]; exact HOA.out,HBA1.out⟩
    case measure => simp [intOf]; omega
   | false =>
    rw [hst] at a0 HPT
    clear hst
    by_cases h6 : x.t.1 = 6
    ·have h6b : (x.t.1 == 6) = true:=by simpa using h6
     by_cases hd : x.t.2.2.1 = 0
     ·have hdb : (x.t.2.2.1 == 0) = true:=by simpa using hd
      have HP1 : Hid (((L.take (i + 1)).filter (prtB g)).map (fun i => (fvtI g i).2.1) = ((L.take i).filter (prtB g)).map (fun i => (fvtI g i).2.1) ++ (if kv = 1 then [x.t.2.1] else [])):=by show _ = _; rw [HPT.out,decide_eq_true h6,decide_eq_true hd]; simp
      clear h6 hd HPT
      go_wp2_with fail
      refine Calls.mono (HKn.out wA HBA.out) ?_
      rintro e w3 ⟨rfl,hb3⟩
      have HO3 : Hid (OwnI w3 w1.heap.size u5 (((L.take i).filter (prtB g)).map (fun i => (fvtI g i).2.1))):=OwnI.later HOA.out hb3
      have HB3 : Hid (Below w1.heap.size w1 w3):=bstep HBA1.out hb3
      have hx3 : w3.cell? ⟨wr.heap.size,3,none⟩ = some (.int .i64 x.t.2.1):=(HAA.out w3 hb3).cell 3
      clear hb3 a0 f0 f1 f2 f3 HOA HBA1 HKn
      by_cases hk1 : kv = 1
      ·subst hk1
       have HP2 : Hid (((L.take (i + 1)).filter (prtB g)).map (fun i => (fvtI g i).2.1) = ((L.take i).filter (prtB g)).map (fun i => (fvtI g i).2.1) ++ [x.t.2.1]):=by show _ = _; rw [HP1.out,if_pos rfl]
       clear HP1
       go_wp2_with (at_builtin; go_must (refine wpList_append_int (v:=u5) rfl (.tmp 49) (.tmp 53) rfl w1.heap.size rfl rfl (HO3.out.later (made_below _ _ _)) (one_int w3 x.t.2.1 _ rfl) (by have:=HPL.out; omega) (Nat.le_trans HB3.out.size (made_below _ _ _).size) ?_; intro v5 w5 ho5 hg5; have hB5:=(bbox HB3.out _).trans (grown_below11 (HO3.out.later (made_below _ _ _)) hg5 (Nat.le_refl _) (Nat.le_trans HB3.out.size (made_below _ _ _).size))))
       go_roundw
       case rel => exact ⟨i + 1,by omega,by go_num,by rw [HP2.out]; exact ho5,hB5⟩
       case measure => simp [intOf]; omega
      ·have hkb : (kv == 1) = false:=by simpa using hk1
       have HP2 : Hid (((L.take (i + 1)).filter (prtB g)).map (fun i => (fvtI g i).2.1) = ((L.take i).filter (prtB g)).map (fun i => (fvtI g i).2.1)):=by show _ = _; rw [HP1.out,if_neg hk1,List.append_nil]
       clear HP1 hk1
       go_wp2_with fail
       go_roundw
       case rel => exact ⟨i + 1,by omega,by go_num,by rw [HP2.out]; exact HO3.out,HB3.out⟩
       case measure => simp [intOf]; omega
     ·have hdb : (x.t.2.2.1 == 0) = false:=by simpa using hd
      have HP2 : Hid (((L.take (i + 1)).filter (prtB g)).map (fun i => (fvtI g i).2.1) = ((L.take i).filter (prtB g)).map (fun i => (fvtI g i).2.1)):=by show _ = _; rw [HPT.out,decide_eq_false hd]; simp
      clear HPT hd
      go_wp2_with fail
      go_roundw
      case rel => exact ⟨i + 1,by omega,by go_num,by rw [HP2.out]; exact HOA.out,HBA1.out⟩
      case measure => simp [intOf]; omega
    ·have h6b : (x.t.1 == 6) = false:=by simpa using h6
     have HP2 : Hid (((L.take (i + 1)).filter (prtB g)).map (fun i => (fvtI g i).2.1) = ((L.take i).filter (prtB g)).map (fun i => (fvtI g i).2.1)):=by show _ = _; rw [HPT.out,decide_eq_false h6]; simp
     clear HPT h6
     go_wp2_with fail
     go_roundw
     case rel => exact ⟨i + 1,by omega,by go_num,by rw [HP2.out]; exact HOA.out,HBA1.out⟩
     case measure => simp [intOf]; omega
  ·have hii : ¬ (i : Int) < (len9 : Int):=by omega
   have HPE : Hid (((L.take i).filter (prtB g)).map (fun i => (fvtI g i).2.1) = prtL g t):=by show _ = _; rw [List.take_of_length_le (by omega),HLE.out]; rfl
   go_wp2_with fail
   go_ret
   exact ⟨_,rfl,by rw [← HPE.out]; exact HO.out.mono (Nat.le_trans HB0.out.size HB1.out.size),bstep HB0.out (bstep HB1.out HB.out)⟩
theorem Tryz.info12Y : (Tryz.prog.info? 51).map (fun i => (i.zero,i.size,i.bytes)) = some (some (.agg #[.int .i64 0,.int .i64 0,.int .i64 0,.bool false]),4,32):=by kernel_rfl
theorem one_ty (w : World) (t : Ty) : Es tyE (w.alloc (.cells #[.int .i64 t.1,.int .i64 t.2.1,.int .i64 t.2.2.1,.bool t.2.2.2] 51)) (.slice (some ⟨w.heap.size,0,none⟩) 1 1) [t] :=
 (OwnE.lit tyE w 0 51 [t] _ 1 (Nat.zero_le _) rfl rfl (by simp [maxLen])).es
theorem own_ty (w : World) (t : Ty) (b : Nat) (hb : b ≤ w.heap.size) : OwnE tyE (w.alloc (.cells #[.int .i64 t.1,.int .i64 t.2.1,.int .i64 t.2.2.1,.bool t.2.2.2] 51)) b 51 (.slice (some ⟨w.heap.size,0,none⟩) 1 1) [t] :=
 OwnE.lit tyE w b 51 [t] _ 1 hb rfl rfl (by simp [maxLen])

theorem flt_take {α β : Type} {L : List α} {p : α → Bool} {f : α → β} {i : Nat} (hi : i < L.length) : ((L.take (i + 1)).filter p).map f = ((L.take i).filter p).map f ++ (if p L[i] = true then [f L[i]] else []):=by
 rw [List.take_succ_eq_append_getElem hi,List.filter_append,List.map_append]
 congr 1
 cases h : p L[i] <;> simp only [List.filter_cons,List.filter_nil,h] <;> rfl
theorem flt_len {α β : Type} {L : List α} {p : α → Bool} {f : α → β} {i : Nat} : (((L.take i).filter p).map f).length ≤ L.length:=by
 rw [List.length_map]
 exact Nat.le_trans (List.length_filter_le _ _) (by rw [List.length_take]; omega)
theorem hld_go (g : Img) (t : Int) : ∀ (l : List FD) (s : Nat),g.fs.drop s = l → ((pkN (fun x => decide (x.ow = t)) (s : Int) l).filter (fun i => !fstI g i)).map (fvtI g) = (l.filter (ownF t)).map (·.t)
 | [],s,_ => rfl
 | c :: r,s,h => by
  have hs : s < g.fs.length:=by
   rcases Nat.lt_or_ge s g.fs.length with h2 | h2
   ·exact h2
   ·rw [List.drop_eq_nil_of_le h2] at h; cases h
  have hc : g.fs[s] = c:=by
   have:=List.drop_eq_getElem_cons hs
   rw [h] at this
   exact (List.cons.inj this).1.symm
  have hr : g.fs.drop (s + 1) = r:=by
   have:=List.drop_eq_getElem_cons hs
   rw [h] at this
   exact (List.cons.inj this).2.symm
  have ih:=hld_go g t r (s + 1) hr
  have e1 : fstI g (s : Int) = c.st:=by rw [fstI_at hs,hc]
  have e2 : fvtI g (s : Int) = c.t:=by rw [fvtI_at hs,hc]
  unfold pkN
  rw [List.filter_append,List.map_append,show ((s : Int) + 1) = ((s + 1 : Nat) : Int) by omega,ih]
  cases hw : decide (c.ow = t) with
  | false =>
   rw [if_neg (by decide)]
   have : ownF t c = false:=by unfold ownF; rw [hw]; rfl
   simp [List.filter_cons,this]
  | true =>
   rw [if_pos rfl]
   cases hst : c.st with
   | true =>
    have : ownF t c = false:=by unfold ownF; rw [hst]; simp
    simp [List.filter_cons,this,e1,hst]
   | false =>
    have : ownF t c = true:=by unfold ownF; rw [hw,hst]; rfl
    simp [List.filter_cons,this,e1,e2,hst]
theorem hld_fld {g : Img} {t : Int} (ht : numB t g.ts.length = true) : ((fldN g t).filter (fun i => !fstI g i)).map (fvtI g) = hldL g t:=by
 unfold fldN hldL
 rw [if_pos ht]
 exact hld_go g t g.fs 0 rfl
theorem hld_len (g : Img) (t : Int) : (hldL g t).length ≤ g.fs.length:=by
 unfold hldL; rw [List.length_map]; exact List.length_filter_le _ _

set_option maxHeartbeats 8000000 in
set_option maxRecDepth 20000 in
theorem heldBy_any {g : Img} {t : Int} {w : World} (hg : Im w g) (hi : imB g = true) (ht : numB t g.ts.length = true) :
  Calls Tryz.prog 209 #[imV g,.int .i64 t] w fun e w' => ∃ v,e = .returned v∧OwnE tyE w' w.heap.size 51 v (hldL g t)∧Below w.heap.size w w':=by
 obtain ⟨w0,HW0,HB0,HG,HC,HI,c0,c1,c2,c3⟩:=img_head hg
 have hln:=im_len hi
 have HFl : Hid (Calls Tryz.prog 163 #[imA4 g,.int .i64 t] w0 fun e w' => ∃ v,e = .returned v∧OwnI w' w0.heap.size v (fldN g t)∧Below w0.heap.size w0 w'):=fields_any (HI.out w0 (Below.refl _ _)) hi
 obtain ⟨F,hF⟩ : ∃ X,X = hldL g t:=⟨_,rfl⟩
 have HF : Hid (((fldN g t).filter (fun i => !fstI g i)).map (fvtI g) = F):=by show _ = _; rw [hF]; exact hld_fld ht
 rw [← hF]
 unfold imA4 at HFl
 clear hg hi ht hF
 unfold imV
 go_enter Tryz.func209,Tryz.ntmps209
 go_wp2_with (rw [← HW0.out])
 refine Calls.mono HFl.out ?_
 rintro e w1 ⟨fv,rfl,hf,hb1⟩
 have HB1 : Hid (Below w0.heap.size w0 w1):=hb1
 obtain ⟨L,hL⟩ : ∃ X,X = fldN g t:=⟨_,rfl⟩
 have HLE : Hid (L = fldN g t):=hL
 rw [← hL] at hf HF
 have hll:=fldN_len g t
 rw [← hL] at hll
 obtain ⟨la,lc,hfv,_,hlc⟩:=(show Is w1 fv L from hf.is).shape
 have HFi : Hid (∀ W,Below w1.heap.size w1 W → Is W (.slice la L.length lc) L):=fun W hW => by
  have:=hf.is.later hW
  rw [hfv] at this; exact this
 subst hfv
 unfold maxLen at hlc
 clear c0 c1 c2 c3 hf hb1 hL HFl
 go_wp2_with fail
 go_loopw [5,7,12] (fun lv _ z wr => ∃ i : Nat,i ≤ L.length∧z = .int .i64 i∧Hid (OwnE tyE wr w1.heap.size 51 lv (((L.take i).filter (fun i => !fstI g i)).map (fvtI g)))∧Hid (Below w1.heap.size w1 wr)) (fun _ _ z _ => L.length - (intOf z).toNat)
 case atStart => exact ⟨0,Nat.zero_le _,rfl,OwnE.nil _ _ _ _,Below.refl _ _⟩
 case round =>
  obtain ⟨i,hil0,rfl,HO,HB⟩:=hrel
  by_cases hil : i < L.length
  ·have hii : (i : Int) < (L.length : Int):=by omega
   obtain ⟨A,hA,hAl⟩:=fldN_num (show L[i] ∈ fldN g t by rw [← HLE.out]; exact List.getElem_mem hil)
   have hAi : (A : Int) < (g.fs.length : Int):=by omega
   have HPT : Hid (((L.take (i + 1)).filter (fun i => !fstI g i)).map (fvtI g) = ((L.take i).filter (fun i => !fstI g i)).map (fvtI g) ++ (if (!fstI g L[i]) = true then [fvtI g L[i]] else [])):=flt_take hil
   have HPL : (((L.take i).filter (fun i => !fstI g i)).map (fvtI g)).length ≤ 64:=Nat.le_trans flt_len (by omega)
   rw [hA,fstI_at hAl,fvtI_at hAl] at HPT
   obtain ⟨lb,loff,hla,hlb,_,h6',h7,hc⟩:=(HFi.out wr HB.out).at hil
   have cA:=hc i hil
   rw [hA] at cA
   obtain ⟨tb,off,hta,h8,h9,hty⟩:=HG.out.fd (by intro e; rw [e] at hAl; simp at hAl)
   have hB1r : Below w0.heap.size w0 wr:=bstep HB1.out HB.out
   obtain ⟨e0,e1,e2,e3⟩:=HC.out wr hB1r
   rw [hta] at e1
   obtain ⟨k0,k1,k2,k3,k4,k5,k6⟩:=((hty wr hB1r).2 A hAl).cells_F
   unfold maxLen at h7 h9
   subst hla
   clear hc hty hta hA hB1r
   obtain ⟨P,hP⟩ : ∃ P,P = ((L.take i).filter (fun i => !fstI g i)).map (fvtI g):=⟨_,rfl⟩
   rw [← hP] at HPT HPL HO
   clear hP
   generalize g.fs[A] = x at *
   cases hst : x.st with
   | true =>
    have HP2 : Hid (((L.take (i + 1)).filter (fun i => !fstI g i)).map (fvtI g) = P):=by show _ = _; rw [HPT.out,hst]; simp
    rw [hst] at k6
    clear hst HPT
    go_wp2_with fail
    go_roundw
    case rel => exact ⟨i + 1,by omega,by go_num,by rw [HP2.out]; exact HO.out,HB.out⟩
    case measure => simp [intOf]; omega
   | false =>
    have HP2 : Hid (((L.take (i + 1)).filter (fun i => !fstI g i)).map (fvtI g) = P ++ [x.t]):=by show _ = _; rw [HPT.out,hst]; rfl
    rw [hst] at k6
    clear hst HPT
    go_wp2_with (at_builtin; go_must (refine wpList_append_es tyE rfl (.tmp 23) (.tmp 30) 49 rfl w1.heap.size 51 _ 32 Tryz.underlying49 Tryz.info12Y rfl rfl rfl (HO.out.later (made_below _ _ _)) (one_ty wr x.t) (by simp [maxLen]; omega) (by simp; omega) (Nat.le_trans HB.out.size (made_below _ _ _).size) ?_; intro v5 w5 ho5 hg5; have hB5:=(bbox HB.out _).trans (grown_belowE (HO.out.later (made_below _ _ _)) hg5 (Nat.le_refl _) (Nat.le_trans HB.out.size (made_below _ _ _).size))))
    go_roundw
    case rel => exact ⟨i + 1,by omega,by go_num,by rw [HP2.out]; exact ho5,hB5⟩
    case measure => simp [intOf]; omega
  ·have hii : ¬ (i : Int) < (L.length : Int):=by omega
   have HPE : Hid (((L.take i).filter (fun i => !fstI g i)).map (fvtI g) = F):=by show _ = _; rw [List.take_of_length_le (by omega)]; exact HF.out
   go_wp2_with fail
   go_ret
   exact ⟨_,rfl,by rw [← HPE.out]; exact HO.out.mono (Nat.le_trans HB0.out.size HB1.out.size),bstep HB0.out (bstep HB1.out HB.out)⟩
end Go.Proofs.YthpmpdpfnlecmaaGreat
