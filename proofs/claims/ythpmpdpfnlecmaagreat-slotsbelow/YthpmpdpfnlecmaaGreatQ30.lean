/- Texts joined: LayCells, ElemsAt, LayObj. -/
import Derived.Test.YthpmpdpfnlecmaaGreatQ29
import Derived.Test.YthpmpdpfnlecmaaGreatQ07
import Derived.Deep.DeepAppendWide
import Derived.Test.YthpmpdpfnlecmaaGreatQ11
import Derived.Deep.RegionHeld3
namespace Go.Proofs.YthpmpdpfnlecmaaGreat
set_option linter.unusedVariables false
set_option linter.unusedSimpArgs false
open Go.RowKit
attribute [local go_sem ↓] Go.wp_at_zero Go.wp_at_succ
def CellsC (g : Img) (k : Nat) (t : Ty) (w : World) : Prop :=
 Calls Tryz.prog 180 #[imA4 g,.agg #[.int .i64 t.1,.int .i64 t.2.1,.int .i64 t.2.2.1,.bool t.2.2.2]] w fun e w' => ∃ v,e = .returned v∧∃ l,OwnE tyE w' w.heap.size 51 v l∧Cut l (celK g k t)∧l.length ≤ 32 * k + 32∧Below w.heap.size w w'

set_option maxHeartbeats 4000000 in
theorem cellsOf_whole {g : Img} {t : Ty} {w : World} (hg : Im w g) (hw : whlB t = true) :
  Calls Tryz.prog 180 #[imA4 g,.agg #[.int .i64 t.1,.int .i64 t.2.1,.int .i64 t.2.2.1,.bool t.2.2.2]] w fun e w' => ∃ v,e = .returned v∧OwnE tyE w' w.heap.size 51 v (oneL t)∧Below w.heap.size w w':=by
 obtain ⟨w0,HW0,HB0,HC,HI⟩:=img_type_head hg t
 obtain ⟨⟨c0,c1,c2,c3⟩,d0,d1,d2,d3⟩:=HC.out w0 (Below.refl _ _)
 clear HC HI hg
 unfold imA4
 obtain ⟨k,i,d,r⟩:=t
 simp only at *
 by_cases h1 : k = 1
 ·subst h1
  go_enter Tryz.func180,Tryz.ntmps180
  go_wp2_with (rw [← HW0.out])
  go_ret
  exact ⟨_,rfl,OwnE.nil _ _ _ _,HB0.out⟩
 ·have HO : Hid (oneL (k,i,d,r) = [(k,i,d,r)]):=by show _ = _; unfold oneL; rw [if_neg h1]
  have HT : Hid (OwnE tyE (w0.alloc (.cells #[.int .i64 k,.int .i64 i,.int .i64 d,.bool r] 51)) w.heap.size 51 (.slice (some ⟨w0.heap.size,0,none⟩) 1 1) [(k,i,d,r)]):=own_ty w0 (k,i,d,r) _ HB0.out.size
  have e1 : (k == 1) = false:=by simpa using h1
  unfold whlB at hw
  simp only [Bool.or_eq_true,decide_eq_true_iff] at hw
  clear h1
  by_cases h6 : k = 6
  ·subst h6
   by_cases hd : 0 < d
   ·clear hw
    go_enter Tryz.func180,Tryz.ntmps180
    go_wp2_with (rw [← HW0.out])
    go_ret
    exact ⟨_,rfl,by rw [HO.out]; exact HT.out,bbox HB0.out _⟩
   ·have hr : r = true:=by
     rcases hw with h | h | h
     ·exact absurd rfl h
     ·exact h
     ·exact absurd h hd
    subst hr
    clear hw
    go_enter Tryz.func180,Tryz.ntmps180
    go_wp2_with (rw [← HW0.out])
    go_ret
    exact ⟨_,rfl,by rw [HO.out]; exact HT.out,bbox HB0.out _⟩
  ·have e6 : (k == 6) = false:=by simpa using h6
   have e7 : (k != 6) = true:=by simpa using h6
   clear h6 hw
   go_enter Tryz.func180,Tryz.ntmps180
   go_wp2_with (rw [← HW0.out])
   go_ret
   exact ⟨_,rfl,by rw [HO.out]; exact HT.out,bbox HB0.out _⟩

theorem fm_take {α β : Type} {L : List α} {f : α → List β} {i : Nat} (hi : i < L.length) : (L.take (i + 1)).flatMap f = (L.take i).flatMap f ++ f L[i]:=by
 rw [List.take_succ_eq_append_getElem hi,List.flatMap_append]; simp
theorem fm_split {α β : Type} (L : List α) (f : α → List β) (i : Nat) : L.flatMap f = (L.take i).flatMap f ++ (L.drop i).flatMap f:=by
 rw [← List.flatMap_append,List.take_append_drop]

set_option maxHeartbeats 8000000 in
set_option maxRecDepth 20000 in
theorem cellsOf_step {g : Img} {k : Nat} {i : Int} {w : World} (hg : Im w g) (hi : imB g = true) (U : AllU g) (hk : k ≤ 100) (hn : numB i g.ts.length = true) (hd : ∀ y ∈ hldL g i,dpB g k y = true)
  (IH : ∀ y W,Im W g → usdB g y = true → dpB g k y = true → CellsC g k y W) : CellsC g (k + 1) (6,i,0,false) w:=by
 obtain ⟨w0,HW0,HB0,HC,HI⟩:=img_type_head hg (6,i,0,false)
 have hln:=im_len hi
 have HHe : Hid (Calls Tryz.prog 209 #[imA4 g,.int .i64 i] w0 fun e w' => ∃ v,e = .returned v∧OwnE tyE w' w0.heap.size 51 v (hldL g i)∧Below w0.heap.size w0 w'):=heldBy_any (HI.out w0 (Below.refl _ _)) hi hn
 have HRec : Hid (∀ W (y : Ty),Below w0.heap.size w0 W → y ∈ hldL g i → Calls Tryz.prog 180 #[imA4 g,.agg #[.int .i64 y.1,.int .i64 y.2.1,.int .i64 y.2.2.1,.bool y.2.2.2]] W fun e w' => ∃ v,e = .returned v∧∃ l,OwnE tyE w' W.heap.size 51 v l∧Cut l (celK g k y)∧l.length ≤ 32 * k + 32∧Below W.heap.size W w'):=fun W y hW hy => IH y W (HI.out W hW) (U.hld hy) (hd y hy)
 have hll:=hld_len g i
 have HR : Hid (celK g (k + 1) (6,i,0,false) = orI ((hldL g i).flatMap (celK g k))):=by
  show (if whlB (6,i,0,false) = true then _ else _) = _
  rw [if_neg (by simp [whlB])]
 obtain ⟨⟨c0,c1,c2,c3⟩,d0,d1,d2,d3⟩:=HC.out w0 (Below.refl _ _)
 unfold CellsC
 unfold imA4 at HHe HRec ⊢
 generalize celK g (k + 1) (6,i,0,false) = R at *
 generalize hldL g i = F at *
 clear hg hi U IH hd hn
 simp only at *
 go_enter Tryz.func180,Tryz.ntmps180
 go_wp2_with (rw [← HW0.out])
 refine Calls.mono HHe.out ?_
 rintro e w1 ⟨fv,rfl,hf,hb1⟩
 have HB1 : Hid (Below w0.heap.size w0 w1):=hb1
 obtain ⟨la,lc,hfv,hlq,hlc⟩:=hf.shape
 have HFi : Hid (∀ W,Below w1.heap.size w1 W → Es tyE W (.slice la F.length lc) F):=fun W hW => by
  have:=hf.es.later hW
  rw [hfv] at this; exact this
 subst hfv
 unfold maxLen at hlc
 clear c0 c1 c2 c3 d0 d1 d2 d3 hf hb1 HHe
 go_wp2_with fail
 go_loopw [5,7,32] (fun lv _ z wr => ∃ (q : Nat) (l : List Ty),q ≤ F.length∧z = .int .i64 q∧Hid (OwnE tyE wr w1.heap.size 51 lv l)∧Hid (Cut l ((F.take q).flatMap (celK g k)))∧l.length ≤ 32 * k + 64∧Hid (Below w1.heap.size w1 wr)) (fun _ _ z _ => F.length - (intOf z).toNat)
 case atStart => exact ⟨0,[],Nat.zero_le _,rfl,OwnE.nil _ _ _ _,Or.inl rfl,by simp,Below.refl _ _⟩
 case round =>
  obtain ⟨q,l,hq,rfl,HO,HCu,hl64,HB⟩:=hrel
  obtain ⟨oa,oc,hov,hoq,hoc⟩:=HO.out.shape
  subst hov
  unfold maxLen at hoc
  by_cases hql : q < F.length
  ·have hqi : (q : Int) < (F.length : Int):=by omega
   have HT : Hid ((F.take (q + 1)).flatMap (celK g k) = (F.take q).flatMap (celK g k) ++ celK g k F[q]):=fm_take hql
   have HS : Hid (F.flatMap (celK g k) = (F.take q).flatMap (celK g k) ++ (F.drop q).flatMap (celK g k)):=fm_split _ _ _
   obtain ⟨lb,loff,lcap,hla,_,_,hlb,hc⟩:=(HFi.out wr HB.out).parts (by intro e; rw [e] at hql; simp at hql)
   simp only [Value.slice.injEq] at hla
   obtain ⟨hla, -,hlc2⟩:=hla
   subst hla hlc2
   obtain ⟨k0,k1,k2,k3⟩:=(show El tyE wr lb (loff + q * 4) F[q] from hc q hql).cells_Y
   have HRq : Hid (∀ W,Below w0.heap.size w0 W → Calls Tryz.prog 180 #[.agg #[.slice g.ta g.ts.length g.tc,.slice g.fa g.fs.length g.fc,.slice g.ma g.ms.length g.mc,.int .i64 g.en],.agg #[.int .i64 F[q].1,.int .i64 F[q].2.1,.int .i64 F[q].2.2.1,.bool F[q].2.2.2]] W fun e w' => ∃ v,e = .returned v∧∃ l,OwnE tyE w' W.heap.size 51 v l∧Cut l (celK g k F[q])∧l.length ≤ 32 * k + 32∧Below W.heap.size W w'):=fun W hW => HRec.out W F[q] hW (List.getElem_mem hql)
   clear hc
   generalize F[q] = x at *
   obtain ⟨wA,hwA⟩ : ∃ W,W = wr.alloc (.cells #[.int .i64 x.1,.int .i64 x.2.1,.int .i64 x.2.2.1,.bool x.2.2.2] 51):=⟨_,rfl⟩
   have HWA : Hid (wA = _):=hwA
   have hbA : Below wr.heap.size wr wA:=by rw [hwA]; exact made_below _ _ _
   have hAA : At wA wr.heap.size #[.int .i64 x.1,.int .i64 x.2.1,.int .i64 x.2.2.1,.bool x.2.2.2] 51:=by rw [hwA]; exact At.made _ _ _
   have HBA : Hid (Below w1.heap.size w1 wA):=bstep HB.out hbA
   have HOA : Hid (OwnE tyE wA w1.heap.size 51 (.slice oa l.length oc) l):=HO.out.later hbA
   obtain ⟨⟨c0,c1,c2,c3⟩,_⟩:=HC.out wA (bstep HB1.out HBA.out)
   have a0:=hAA.cell 0
   have a1:=hAA.cell 1
   have a2:=hAA.cell 2
   have a3:=hAA.cell 3
   simp at a0 a1 a2 a3
   clear hwA hbA hAA HO
   by_cases hgt : 32 < l.length
   ·have hgi : (32 : Int) < (l.length : Int):=by omega
    have hz : ¬ (l.length : Int) = 0:=by omega
    have HFin : Hid (Cut l R):=by
     show Cut l R
     have h1:=HCu.out.stop hgt ((F.drop q).flatMap (celK g k))
     rw [← HS.out] at h1
     rw [HR.out]
     unfold orI
     have hne : F.flatMap (celK g k) ≠ []:=by
      intro e; rw [e] at h1
      rcases h1 with h1 | ⟨_,h1⟩
      ·rw [h1] at hgt; simp at hgt
      ·simp at h1
     rw [if_neg hne]; exact h1
    go_wp2_with (rw [← HWA.out])
    go_ret
    exact ⟨_,rfl,l,HOA.out.mono (Nat.le_trans HB0.out.size HB1.out.size),HFin.out,by omega,bstep HB0.out (bstep HB1.out HBA.out)⟩
   ·have hgi : ¬ (32 : Int) < (l.length : Int):=by omega
    go_wp2_with (rw [← HWA.out])
    refine Calls.mono (HRq.out wA (bstep HB1.out HBA.out)) ?_
    rintro e w3 ⟨yv,rfl,m,hy,hcm,hml,hb3⟩
    have HY : Hid (Es tyE w3 yv m):=hy.es
    have HCm : Hid (Cut m (celK g k x)):=hcm
    have HO3 : Hid (OwnE tyE w3 w1.heap.size 51 (.slice oa l.length oc) l):=HOA.out.later hb3
    have HB3 : Hid (Below w1.heap.size w1 w3):=bstep HBA.out hb3
    clear hy hcm hb3 c0 c1 c2 c3 a0 a1 a2 a3 k0 k1 k2 k3 HOA HWA HRq
    go_wp2_with (at_builtin; go_must (refine wpList_append_es tyE rfl (.tmp 39) (.tmp 42) 49 rfl w1.heap.size 51 _ 32 Tryz.underlying49 Tryz.info12Y rfl rfl rfl HO3.out HY.out (by unfold maxLen; omega) (by omega) HB3.out.size ?_; intro v5 w5 ho5 hg5; have hB5:=HB3.out.trans (grown_belowE HO3.out hg5 (Nat.le_refl _) HB3.out.size)))
    go_roundw
    case rel => exact ⟨q + 1,l ++ m,by omega,by go_num,ho5,by show Cut _ _; rw [HT.out]; exact HCu.out.app HCm.out,by rw [List.length_append]; omega,hB5⟩
    case measure => simp [intOf]; omega
  ·have hqi : ¬ (q : Int) < (F.length : Int):=by omega
   have HE : Hid (Cut l (F.flatMap (celK g k))):=by have:=HCu.out; rw [List.take_of_length_le (by omega)] at this; exact this
   by_cases hz : l.length = 0
   ·have hzi : (l.length : Int) = 0:=by omega
    have HFin : Hid (R = [intT]):=by
     show _ = _
     have h0 : l = []:=List.eq_nil_of_length_eq_zero hz
     have h1:=HE.out
     rw [h0] at h1
     rcases h1 with h1 | ⟨h1,_⟩
     ·rw [HR.out,← h1]; rfl
     ·simp at h1
    clear hz
    go_wp2_with fail
    go_ret
    exact ⟨_,rfl,[intT],own_ty wr intT _ (Nat.le_trans (Nat.le_trans HB0.out.size HB1.out.size) HB.out.size),by rw [HFin.out]; exact Or.inl rfl,by simp,bbox (bstep HB0.out (bstep HB1.out HB.out)) _⟩
   ·have hzi : ¬ (l.length : Int) = 0:=by omega
    have HFin : Hid (Cut l R):=by
     show Cut l R
     have h1:=HE.out
     have hne : F.flatMap (celK g k) ≠ []:=by
      intro e; rw [e] at h1
      rcases h1 with h1 | ⟨_,h1⟩
      ·rw [h1] at hz; simp at hz
      ·simp at h1
     rw [HR.out]
     unfold orI
     rw [if_neg hne]; exact h1
    clear hz
    go_wp2_with fail
    go_ret
    exact ⟨_,rfl,l,HO.out.mono (Nat.le_trans HB0.out.size HB1.out.size),HFin.out,by omega,bstep HB0.out (bstep HB1.out HB.out)⟩

theorem cellsOf_any {g : Img} (hi : imB g = true) (U : AllU g) : ∀ (k : Nat) (t : Ty) (w : World),k ≤ 100 → Im w g → usdB g t = true → dpB g k t = true → CellsC g k t w
 | 0,t,w,hk,hg,hu,hd => by
  refine (cellsOf_whole hg hd).mono ?_
  rintro e w' ⟨v,rfl,ho,hb⟩
  exact ⟨v,rfl,_,ho,Or.inl rfl,by unfold oneL; split <;> simp,hb⟩
 | k + 1,t,w,hk,hg,hu,hd => by
  cases hw : whlB t with
  | true =>
   refine (cellsOf_whole hg hw).mono ?_
   rintro e w' ⟨v,rfl,ho,hb⟩
   refine ⟨v,rfl,_,ho,Or.inl ?_,by unfold oneL; split <;> simp,hb⟩
   show _ = (if whlB t = true then _ else _)
   rw [if_pos hw]
  | false =>
   obtain ⟨v1,v2,v3,v4,v5⟩:=usd_val hu hw
   have h1 : (hldL g t.2.1).all (dpB g k) = true:=by
    unfold dpB at hd; rw [hw] at hd; simpa using hd
   rw [List.all_eq_true] at h1
   have e : t = (6,t.2.1,0,false):=by
    obtain ⟨a,b,c,d⟩:=t
    simp only at v1 v2 v3
    subst v1 v2 v3
    rfl
   rw [e]
   exact cellsOf_step hg hi U (by omega) v5 h1 (fun y W hW hy1 hy2 => cellsOf_any hi U k y W (by omega) hW hy1 hy2)
theorem cells12_any {g : Img} (U : AllU g) (hw : welB g = true) {t : Ty} {w : World} (hg : Im w g) (hu : usdB g t = true) :
  Calls Tryz.prog 180 #[imA4 g,.agg #[.int .i64 t.1,.int .i64 t.2.1,.int .i64 t.2.2.1,.bool t.2.2.2]] w fun e w' => ∃ v,e = .returned v∧∃ l,OwnE tyE w' w.heap.size 51 v l∧Cut l (celL g t)∧l.length ≤ 2000∧Below w.heap.size w w':=by
 have hi:=(Wel.of hw).im
 have hl:=(im_len hi).1
 refine Calls.mono (cellsOf_any hi U g.ts.length t w (by omega) hg hu (dp_all U (ValA.of hw) hu)) ?_
 rintro e w' ⟨v,rfl,l,ho,hc,hn,hb⟩
 exact ⟨v,rfl,l,ho,hc,by omega,hb⟩
end Go.Proofs.YthpmpdpfnlecmaaGreat

namespace Go.Proofs.YthpmpdpfnlecmaaGreat
set_option linter.unusedVariables false
set_option linter.unusedSimpArgs false
open Go.RowKit
theorem append_place {α : Type} (E : Enc α) {P : Program} (w : World) (base : Nat) (ts ty t : TypeId) (z : Value) (bytes : Nat) (ht : P.underlying ts = some (.slice t)) (hinfo : (P.info? t).map (fun i => (i.zero,i.size,i.bytes)) = some (some z,E.size,bytes))
  {v y v' : Value} {w' : World} {xs ys : List α} (hv : OwnE E w base t v xs) (hy : Es E w y ys) (hb : xs.length + ys.length ≤ maxLen) (hby : ((xs.length + ys.length) + (xs.length + ys.length) / 4 + 192) * bytes ≤ 281474976710656)
  (hr : (Builtin.append_ #[ts,ts] ty #[v,y]).run P w = .ok v' w') : v'.ownBlock = v.ownBlock ∨ v'.ownBlock = some w.heap.size:=by
 obtain ⟨i,hi,hz0,hz1,hz2⟩:=info_parts hinfo
 obtain ⟨a,cap,rfl,h1,h2,h3⟩:=id hy
 have hcl:=ecL_length E ys
 have hsmall : xs.length + ys.length ≤ 9223372036854775807:=by simp only [maxLen] at hb; omega
 cases a with
 | none =>
  have hys : ys = []:=by
   by_cases h : ys = []
   ·exact h
   ·obtain ⟨b,off,hh,_⟩:=h3 h; simp at hh
  subst hys
  have : (Builtin.append_ #[ts,ts] ty #[v,.slice none ([] : List α).length cap]).run P w = .ok v w:=by
   rcases hv.2 with ⟨rfl,h0⟩ | ⟨g,cp,cur,rfl,_,_,hnc,_⟩
   ·simp [Builtin.append_,run_underlying ht,sizeOf,typeInfo,hi,Builtin.lenOf,Builtin.firstCells]
   ·simp [Builtin.append_,run_underlying ht,sizeOf,typeInfo,hi,Builtin.lenOf,Builtin.firstCells,hnc,storeCells]
  rw [this] at hr
  cases hr
  exact Or.inl rfl
 | some ad =>
  have hnews : ∀ j u,(ecL E ys)[j]? = some u → w.cell? (ad.add j) = some u:=by
   intro j u hj
   have hne : ys ≠ []:=by intro e; subst e; simp [ecL] at hj
   obtain ⟨b,off,hh,_,hc⟩:=h3 hne
   simp only [Option.some.injEq] at hh
   subst hh
   have hplain : (⟨b,off,none⟩ : Addr).add j = ⟨b,off + j,none⟩:=by unfold Addr.add; split <;> simp_all
   rw [hplain]
   exact hc j u hj
  rw [← hz1] at hcl
  rw [← hz2] at hby
  rcases hv.2 with ⟨rfl,h0⟩ | ⟨g,cp,cur,rfl,hbg,hg,hnc,hcm,hcs,htake⟩
  ·by_cases hm : ys.length = 0
   ·have hys:=List.eq_nil_of_length_eq_zero hm
    subst hys
    have : (Builtin.append_ #[ts,ts] ty #[.slice none 0 0,.slice (some ad) ([] : List α).length cap]).run P w = .ok (.slice none 0 0) w:=by
     simp [Builtin.append_,run_underlying ht,sizeOf,typeInfo,hi,Builtin.lenOf,Builtin.firstCells,loadCells,loadCellsFrom]
    rw [this] at hr
    cases hr
    exact Or.inl rfl
   ·have h4 : ys.length * i.bytes ≤ 281474976710656:=Nat.le_trans (Nat.mul_le_mul_right _ (by omega)) hby
    have:=run_append_nil (P:=P) w ts ty t i z ht hi hz0 ad ys.length cap (ecL E ys) hcl hnews (by omega) (by omega) h4
    rw [this] at hr
    cases hr
    exact Or.inr rfl
  ·by_cases hroom : xs.length + ys.length ≤ cp
   ·have hfit : xs.length * i.size + (ecL E ys).length ≤ cur.size:=by rw [hcl,hcs,← hz1,← Nat.add_mul]; exact Nat.mul_le_mul_right _ hroom
    have:=run_append_room (P:=P) w ts ty t i ht hi g xs.length cp cur hg ad ys.length cap (ecL E ys) hcl hnews (ecL_one E ys) hroom hfit
    rw [this] at hr
    cases hr
    exact Or.inl rfl
   ·have holds : ∀ j u,(ecL E xs)[j]? = some u → w.cell? ((⟨g,0,none⟩ : Addr).add j) = some u:=World.ownsRow.cells (g:=g) hv rfl
    have:=run_append_grow (P:=P) w ts ty t i z ht hi hz0 ⟨g,0,none⟩ xs.length cp (ecL E xs) (by rw [hz1]; exact ecL_length E xs) holds ad ys.length cap (ecL E ys) hcl hnews (by omega) (by omega) (growslice_fits_wide (by omega) hby)
    rw [this] at hr
    cases hr
    exact Or.inr rfl

theorem wpList_append_ea {α : Type} (E : Enc α) {P : Program} {w : World} {ops : Array Oper} {rest : List Oper} {o : Oper} {a : Act} {Q : Exit → Act → World → Prop} (hw : Region.wanted o (yielded ops a.tmps) = true) (s x : Operand) (ts : TypeId)
  (ho : o.op = .call { callee := .builtin .append,args:=#[s,x],argTypes:=#[ts,ts] }) (base : Nat) (t : TypeId) (z : Value) (bytes : Nat) (ht : P.underlying ts = some (.slice t)) (hinfo : (P.info? t).map (fun i => (i.zero,i.size,i.bytes)) = some (some z,E.size,bytes)) (hzs : z.cells.size = E.size)
  {v y : Value} {xs ys : List α} (hs : a.eval s = v) (hx : a.eval x = y) (hv : OwnE E w base t v xs) (hy : Es E w y ys) (hb : xs.length + ys.length ≤ maxLen) (hby : ((xs.length + ys.length) + (xs.length + ys.length) / 4 + 192) * bytes ≤ 281474976710656) (hbase : base ≤ w.heap.size)
  (h : ∀ v' w',OwnE E w' base t v' (xs ++ ys) → w.grownBy w' v.ownBlock → (v'.ownBlock = v.ownBlock ∨ v'.ownBlock = some w.heap.size) → wpList P ops Q rest (a.put o.dst v') w') : wpList P ops Q (o :: rest) a w:=by
 refine wpList_want hw fun K hK => ?_
 obtain ⟨v',w',hr,h2,h3⟩:=run_append_es E w base ts o.type t z bytes ht hinfo hzs hv hy hb hby hbase
 have h4:=append_place E w base ts o.type t z bytes ht hinfo hv hy hb hby hr
 unfold Oper.wp execOp
 simp only [ho,resolve,invoke,builtin,Sem.run_bind,Sem.run_pure,Result.andThen_ok,List.map_toArray,List.map_cons,List.map_nil,hs,hx,hr]
 exact hK _ _ (h v' w' h2 h3 h4)

def Apw (w : World) (lv mv : Value) : Prop := ∀ k,mv.ownBlock = some k → k < w.heap.size∧lv.ownBlock ≠ some k
theorem Apw.later {w w' : World} {lv mv : Value} (h : Apw w lv mv) (hb : Below w.heap.size w w') : Apw w' lv mv:=fun k hk => ⟨Nat.lt_of_lt_of_le (h k hk).1 hb.size,(h k hk).2⟩
theorem Apw.grow {α : Type} {E : Enc α} {w w' : World} {lv lv' mv : Value} {X : List α} (h : Apw w lv mv) (hi : Es E w mv X) (hg : w.grownBy w' lv.ownBlock) (hp : lv'.ownBlock = lv.ownBlock ∨ lv'.ownBlock = some w.heap.size) : Es E w' mv X∧Apw w' lv' mv:=by
 refine ⟨hi.of_block hg.size (fun k hk hl => hg.block k hl (fun e => (h k hk).2 e.symm)),fun k hk => ⟨Nat.lt_of_lt_of_le (h k hk).1 hg.size, ?_⟩⟩
 rcases hp with hp | hp
 ·rw [hp]; exact (h k hk).2
 ·rw [hp]; intro e
  have:=(h k hk).1
  simp only [Option.some.injEq] at e
  omega
theorem Apw.of {α β : Type} {E : Enc α} {E2 : Enc β} {w w' : World} {b b2 : Nat} {t t2 : TypeId} {lv mv : Value} {l : List α} {m : List β} (h : OwnE E w b t lv l) (h2 : OwnE E2 w' b2 t2 mv m) (hb : w.heap.size ≤ b2) : Apw w' lv mv:=fun k hk => by
 have h3:=h2.block k hk
 refine ⟨h3.2,fun e => ?_⟩
 have:=(h.block k e).2
 omega

theorem Es.elAll {α : Type} {E : Enc α} {w : World} {fa : Option Addr} {n c : Nat} {l : List α} (h : Es E w (.slice fa n c) l) (hne : l ≠ []) : ∃ tb off,fa = some ⟨tb,off,none⟩∧c ≤ maxLen∧∀ W,Below w.heap.size w W → ∀ i (hi : i < l.length),El E W tb (off + i * E.size) l[i]:=by
 obtain ⟨tb,off,cap,hla,_,h2,htb,hc⟩:=h.parts hne
 simp only [Value.slice.injEq] at hla
 obtain ⟨hla,_,hlc⟩:=hla
 exact ⟨tb,off,hla,by omega,fun W hW i hi => (hc i hi).below hW htb⟩
end Go.Proofs.YthpmpdpfnlecmaaGreat

namespace Go.Proofs.YthpmpdpfnlecmaaGreat
set_option linter.unusedVariables false
set_option linter.unusedSimpArgs false
open Go.RowKit
attribute [local go_sem ↓] Go.wp_at_zero Go.wp_at_succ
structure WU (g : Img) : Prop where
 wel : welB g = true
 used : AllU g
theorem WU.im {g : Img} (h : WU g) : imB g = true:=(Wel.of h.wel).im

set_option maxHeartbeats 8000000 in
set_option maxRecDepth 20000 in
theorem objectOf_any {g : Img} {t : Int} {w : World} (hg : Im w g) (U : WU g) (hwf : Wf t) :
  Calls Tryz.prog 181 #[imA4 g,.int .i64 t] w fun e w' => ∃ v,e = .returned v∧∃ l,OwnE tyE w' w.heap.size 51 v l∧Cut l (objL g t)∧l.length ≤ 10000000∧Below w.heap.size w w':=by
 obtain ⟨w0,HW0,HB0,HG,HC,HI,c0,c1,c2,c3⟩:=img_head hg
 have hln:=im_len U.im
 have HUp : Hid (Calls Tryz.prog 14 #[imA4 g,.int .i64 t] w0 fun e w' => ∃ v,e = .returned v∧OwnI w' w0.heap.size v (upL g t)∧Below w0.heap.size w0 w'):=up_any (HI.out w0 (Below.refl _ _)) U.im hwf
 have HUN : Hid (Nd g.ts.length 0 (upL g t)):=upL_nd g t
 have HHe : Hid (∀ W u,Below w0.heap.size w0 W → numB u g.ts.length = true → Calls Tryz.prog 209 #[imA4 g,.int .i64 u] W fun e w' => ∃ v,e = .returned v∧OwnE tyE w' W.heap.size 51 v (hldL g u)∧Below W.heap.size W w'):=fun W u hW hu => heldBy_any (HI.out W hW) U.im hu
 have HCe : Hid (∀ W y,Below w0.heap.size w0 W → usdB g y = true → Calls Tryz.prog 180 #[imA4 g,.agg #[.int .i64 y.1,.int .i64 y.2.1,.int .i64 y.2.2.1,.bool y.2.2.2]] W fun e w' => ∃ v,e = .returned v∧∃ l,OwnE tyE w' W.heap.size 51 v l∧Cut l (celL g y)∧l.length ≤ 2000∧Below W.heap.size W w'):=fun W y hW hy => cells12_any U.used U.wel (HI.out W hW) hy
 have HUs : Hid (∀ u,∀ y ∈ hldL g u,usdB g y = true):=fun u y hy => U.used.hld hy
 have HLe : Hid (∀ u,(hldL g u).length ≤ g.fs.length):=hld_len g
 obtain ⟨up,hup⟩ : ∃ X,X = upL g t:=⟨_,rfl⟩
 have HOb : Hid (objL g t = up.reverse.flatMap (ownC g)):=by show _ = _; rw [hup]; rfl
 rw [← hup] at HUp HUN
 unfold imA4 at HUp HHe HCe ⊢
 clear hg U hwf hup
 go_enter Tryz.func181,Tryz.ntmps181
 go_wp2_with (rw [← HW0.out])
 refine Calls.mono HUp.out ?_
 rintro e w1 ⟨uv,rfl,hu,hb1⟩
 have HU : Hid (OwnI w1 w0.heap.size uv up):=hu
 have HB1 : Hid (Below w0.heap.size w0 w1):=hb1
 obtain ⟨ua,uc,huv,_,huc⟩:=(show Is w1 uv up from hu.is).shape
 subst huv
 have hupl:=HUN.out.len
 unfold maxLen at huc
 clear hu hb1 c0 c1 c2 c3 HUp
 go_wp2_with fail
 go_loopw [5,7,9,15] (fun lv _ _ z wr => ∃ (q : Nat) (l : List Ty),q ≤ up.length∧z = .int .i64 q∧Hid (OwnE tyE wr w1.heap.size 51 lv l)∧Hid (Cut l ((up.reverse.take q).flatMap (ownC g)))∧l.length ≤ q * 200000∧Hid (Below w1.heap.size w1 wr)) (fun _ _ _ z _ => up.length - (intOf z).toNat)
 case atStart => exact ⟨0,[],Nat.zero_le _,rfl,OwnE.nil _ _ _ _,Or.inl rfl,by simp,Below.refl _ _⟩
 case round =>
  obtain ⟨q,l,hq,rfl,HO,HCu,hll,HB⟩:=hrel
  by_cases hql : q < up.length
  ·obtain ⟨m,hm⟩ : ∃ m : Nat,m + 1 = up.length:=⟨up.length - 1,by omega⟩
   obtain ⟨p,hp⟩ : ∃ p : Nat,p + q = m:=⟨m - q,by omega⟩
   have hpl : p < up.length:=by omega
   have hpi : (p : Int) < (up.length : Int):=by omega
   have hqi : (q : Int) < (up.length : Int):=by omega
   have hw1 : IntKind.i64.wrap ((up.length : Int) - 1) = (m : Int):=by rw [show (up.length : Int) - 1 = (m : Int) by omega]; simp [IntKind.wrap,IntKind.bits,IntKind.signed]; omega
   have hw2 : IntKind.i64.wrap ((m : Int) - (q : Int)) = (p : Int):=by rw [show (m : Int) - (q : Int) = (p : Int) by omega]; simp [IntKind.wrap,IntKind.bits,IntKind.signed]; omega
   obtain ⟨ub,uoff,hua,hub,_,_,_,hcu⟩:=(show Is wr (.slice ua up.length uc) up from Sl.later HU.out.is HB.out).at hpl
   subst hua
   have hcp:=hcu p hpl
   obtain ⟨u,huu⟩ : ∃ u,u = up[p]:=⟨_,rfl⟩
   have hun : numB u g.ts.length = true:=by rw [huu]; exact HUN.out.1 _ (List.getElem_mem hpl)
   have HT : Hid ((up.reverse.take (q + 1)).flatMap (ownC g) = (up.reverse.take q).flatMap (ownC g) ++ ownC g u):=by
    show _ = _
    rw [fm_take (by simpa using hql),huu]
    congr 2
    rw [List.getElem_reverse]
    congr 1
    omega
   rw [← huu] at hcp
   have hB01 : Below w0.heap.size w0 wr:=bstep HB1.out HB.out
   have HK : Hid (∀ W,Below wr.heap.size wr W → Im4 W w.heap.size g∧W.cell? ⟨ub,uoff + p,none⟩ = some (.int .i64 u)):=fun W hW => ⟨HC.out W (bstep hB01 hW),by rw [← hcp]; exact hW.cell (p:=⟨ub,uoff + p,none⟩) hub⟩
   have HHq : Hid (∀ W,Below wr.heap.size wr W → Calls Tryz.prog 209 #[.agg #[.slice g.ta g.ts.length g.tc,.slice g.fa g.fs.length g.fc,.slice g.ma g.ms.length g.mc,.int .i64 g.en],.int .i64 u] W fun e w' => ∃ v,e = .returned v∧OwnE tyE w' W.heap.size 51 v (hldL g u)∧Below W.heap.size W w'):=fun W hW => HHe.out W u (bstep hB01 hW) hun
   have hF64:=HLe.out u
   have HUsu : Hid (∀ y ∈ hldL g u,usdB g y = true):=HUs.out u
   have HOC : Hid (ownC g u = (hldL g u).flatMap (celL g)):=rfl
   obtain ⟨⟨c0,c1,c2,c3⟩,cu⟩:=HK.out wr (Below.refl _ _)
   clear hcu hcp huu hB01 hun
   generalize ownC g u = OC at *
   generalize hldL g u = F at *
   unfold Im4 at HK
   go_wp2_with fail
   go_region_held3 (fun W : World => (W.cell? ⟨w.heap.size,0,none⟩ = some (.slice g.ta g.ts.length g.tc)∧W.cell? ⟨w.heap.size,1,none⟩ = some (.slice g.fa g.fs.length g.fc)∧W.cell? ⟨w.heap.size,2,none⟩ = some (.slice g.ma g.ms.length g.mc)∧W.cell? ⟨w.heap.size,3,none⟩ = some (.int .i64 g.en))∧W.cell? ⟨ub,uoff + p,none⟩ = some (.int .i64 u))
    (first | (exact HK.out _ hBc) | (exact HK.out _ (bdrew _)))
    ((go_at_call 209; refine (HHq.out _ (bdrew _)).mono ?_; rintro e w2 ⟨hv,rfl,hv2,hb2⟩; obtain ⟨ha,hc2,hvv,_,hhc⟩:=hv2.shape; subst hvv; have hBc : Below wr.heap.size wr w2:=bstep (bdrew _) hb2))
   rename_i hheld
   clear hheld
   have HB2 : Hid (Below w1.heap.size w1 w2):=bstep HB.out hBc
   have HF2 : Hid (Es tyE w2 (.slice ha F.length hc2) F∧Apw w2 u5 (.slice ha F.length hc2)):=⟨hv2.es,Apw.of HO.out hv2 (Nat.le_refl _)⟩
   have HO2 : Hid (OwnE tyE w2 w1.heap.size 51 u5 l):=HO.out.later hBc
   unfold maxLen at hhc
   clear hv2 hb2 hBc c0 c1 c2 c3 cu HK HHq
   go_wp2_with fail
   go_loopw [5,9,29] (fun lv _ z wx => ∃ (k : Nat) (l2 : List Ty),k ≤ F.length∧z = .int .i64 k∧Hid (OwnE tyE wx w1.heap.size 51 lv l2)∧Hid (Cut l2 ((up.reverse.take q).flatMap (ownC g) ++ (F.take k).flatMap (celL g)))∧l2.length ≤ q * 200000 + k * 2000∧Hid (Below w1.heap.size w1 wx)∧Hid (Es tyE wx (.slice ha F.length hc2) F∧Apw wx lv (.slice ha F.length hc2))) (fun _ _ z _ => F.length - (intOf z).toNat)
   case atStart => exact ⟨0,l,Nat.zero_le _,rfl,HO2.out,by show Cut _ _; rw [List.take_zero,List.flatMap_nil,List.append_nil]; exact HCu.out,Nat.le_trans hll (Nat.le_add_right _ _),HB2.out,HF2.out⟩
   case round =>
    clear HO2
    obtain ⟨k,l2,hk,rfl,HO2,HCu2,hl2,HBx,HFx⟩:=hrel
    obtain ⟨oa,oc,hov,hoq,hoc⟩:=HO2.out.shape
    subst hov
    unfold maxLen at hoc
    by_cases hkl : k < F.length
    ·have hki : (k : Int) < (F.length : Int):=by omega
     have HT2 : Hid ((F.take (k + 1)).flatMap (celL g) = (F.take k).flatMap (celL g) ++ celL g F[k]):=fm_take hkl
     obtain ⟨lb,loff,lcap,hla,_,_,hlb,hc⟩:=HFx.out.1.parts (by intro e; rw [e] at hkl; simp at hkl)
     simp only [Value.slice.injEq] at hla
     obtain ⟨hla, -,hlc2⟩:=hla
     subst hla hlc2
     obtain ⟨k0,k1,k2,k3⟩:=(show El tyE wr lb (loff + k * 4) F[k] from hc k hkl).cells_Y
     have hus:=HUsu.out _ (List.getElem_mem hkl)
     have hB0r : Below w0.heap.size w0 wr:=bstep HB1.out HBx.out
     have HRq : Hid (∀ W,Below w0.heap.size w0 W → Calls Tryz.prog 180 #[.agg #[.slice g.ta g.ts.length g.tc,.slice g.fa g.fs.length g.fc,.slice g.ma g.ms.length g.mc,.int .i64 g.en],.agg #[.int .i64 F[k].1,.int .i64 F[k].2.1,.int .i64 F[k].2.2.1,.bool F[k].2.2.2]] W fun e w' => ∃ v,e = .returned v∧∃ l,OwnE tyE w' W.heap.size 51 v l∧Cut l (celL g F[k])∧l.length ≤ 2000∧Below W.heap.size W w'):=fun W hW => HCe.out W F[k] hW hus
     clear hc hus
     generalize F[k] = x at *
     obtain ⟨wA,hwA⟩ : ∃ W,W = wr.alloc (.cells #[.int .i64 x.1,.int .i64 x.2.1,.int .i64 x.2.2.1,.bool x.2.2.2] 51):=⟨_,rfl⟩
     have HWA : Hid (wA = _):=hwA
     have hbA : Below wr.heap.size wr wA:=by rw [hwA]; exact made_below _ _ _
     have hAA : At wA wr.heap.size #[.int .i64 x.1,.int .i64 x.2.1,.int .i64 x.2.2.1,.bool x.2.2.2] 51:=by rw [hwA]; exact At.made _ _ _
     have HBA : Hid (Below w1.heap.size w1 wA):=bstep HBx.out hbA
     have HFA : Hid (Es tyE wA (.slice (some ⟨lb,loff,none⟩) F.length hc2) F∧Apw wA (.slice oa l2.length oc) (.slice (some ⟨lb,loff,none⟩) F.length hc2)):=⟨HFx.out.1.later hbA,HFx.out.2.later hbA⟩
     have HOA : Hid (OwnE tyE wA w1.heap.size 51 (.slice oa l2.length oc) l2):=HO2.out.later hbA
     have HBA0 : Hid (Below w0.heap.size w0 wA):=bstep hB0r hbA
     obtain ⟨c0,c1,c2,c3⟩:=HC.out wA HBA0.out
     have a0:=hAA.cell 0
     have a1:=hAA.cell 1
     have a2:=hAA.cell 2
     have a3:=hAA.cell 3
     simp at a0 a1 a2 a3
     clear hwA hbA hAA HO2 hB0r
     go_wp2_with (rw [← HWA.out])
     refine Calls.mono (HRq.out wA HBA0.out) ?_
     rintro e w3 ⟨yv,rfl,n,hy,hcm,hml,hb3⟩
     have HY : Hid (Es tyE w3 yv n):=hy.es
     have HCm : Hid (Cut n (celL g x)):=hcm
     have HO3 : Hid (OwnE tyE w3 w1.heap.size 51 (.slice oa l2.length oc) l2):=HOA.out.later hb3
     have HB3 : Hid (Below w1.heap.size w1 w3):=bstep HBA.out hb3
     have HF3 : Hid (Es tyE w3 (.slice (some ⟨lb,loff,none⟩) F.length hc2) F∧Apw w3 (.slice oa l2.length oc) (.slice (some ⟨lb,loff,none⟩) F.length hc2)):=⟨HFA.out.1.later hb3,HFA.out.2.later hb3⟩
     clear hy hcm hb3 c0 c1 c2 c3 a0 a1 a2 a3 k0 k1 k2 k3 HOA HWA HRq
     go_wp2_with (at_builtin; go_must (refine wpList_append_ea tyE rfl (.tmp 33) (.tmp 36) 49 rfl w1.heap.size 51 _ 32 Tryz.underlying49 Tryz.info12Y rfl rfl rfl HO3.out HY.out (by unfold maxLen; omega) (by omega) HB3.out.size ?_; intro v5 w5 ho5 hg5 hp5; have hB5:=HB3.out.trans (grown_belowE HO3.out hg5 (Nat.le_refl _) HB3.out.size); have hF5:=Apw.grow HF3.out.2 HF3.out.1 hg5 hp5))
     go_roundw
     case rel => exact ⟨k + 1,l2 ++ n,by omega,by go_num,ho5,by show Cut _ _; rw [HT2.out,← List.append_assoc]; exact HCu2.out.app HCm.out,by rw [List.length_append]; omega,hB5,hF5⟩
     case measure => simp [intOf]; omega
    ·have hki : ¬ (k : Int) < (F.length : Int):=by omega
     have HE2 : Hid (Cut l2 ((up.reverse.take (q + 1)).flatMap (ownC g))):=by
      have:=HCu2.out
      rw [List.take_of_length_le (l:=F) (by omega),← HOC.out,← HT.out] at this
      exact this
     go_wp2_with fail
     go_roundw
     case rel => exact ⟨q + 1,l2,by omega,by go_num,HO2.out,HE2.out,by omega,HBx.out⟩
     case measure => simp [intOf]; omega
  ·have hqi : ¬ (q : Int) < (up.length : Int):=by omega
   have HE : Hid (Cut l (objL g t)):=by have:=HCu.out; rw [List.take_of_length_le (by simp; omega),← HOb.out] at this; exact this
   go_wp2_with fail
   go_ret
   exact ⟨_,rfl,l,HO.out.mono (Nat.le_trans HB0.out.size HB1.out.size),HE.out,by omega,bstep HB0.out (bstep HB1.out HB.out)⟩
end Go.Proofs.YthpmpdpfnlecmaaGreat
