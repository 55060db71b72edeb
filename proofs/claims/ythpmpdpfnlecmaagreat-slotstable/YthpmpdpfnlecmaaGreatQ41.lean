/- Texts joined: Done13. -/
import Derived.Test.YthpmpdpfnlecmaaGreatQ39
import Derived.Test.YthpmpdpfnlecmaaGreatQ40
namespace Go.Proofs.YthpmpdpfnlecmaaGreat
set_option linter.unusedVariables false
set_option linter.unusedSimpArgs false
open Go.RowKit
attribute [local go_sem ↓] Go.wp_at_zero Go.wp_at_succ
theorem don_self {g : Img} {t : Int} {k : Nat} (hk : k < g.ms.length) (h : bitB g.ms[k].fl 2 = false) : donI g t (k : Int) = (k : Int):=by
 unfold donI virB
 rw [mflI_at hk,h,if_pos rfl]
theorem don_class {g : Img} {t : Int} {k : Nat} (hk : k < g.ms.length) (h : bitB g.ms[k].fl 2 = true) (h2 : kndI g g.ms[k].ow = 0) : donI g t (k : Int) = donC g t (k : Int):=by
 unfold donI virB
 rw [mflI_at hk,mowI_at hk,h,if_neg (by decide),if_pos h2]
theorem don_face {g : Img} {t : Int} {k : Nat} (hk : k < g.ms.length) (h : bitB g.ms[k].fl 2 = true) (h2 : kndI g g.ms[k].ow ≠ 0) : donI g t (k : Int) = match fstV g t (k : Int) with | some j => donC g t j | none => -1:=by
 unfold donI virB
 rw [mflI_at hk,mowI_at hk,h,if_neg (by decide),if_neg h2]
 cases fstV g t (k : Int) <;> rfl

set_option maxHeartbeats 1000000 in
theorem doneS13_any {g : Img} {t : Int} {k : Nat} {w : World} (hg : Im w g) (hi : imB g = true) (hk : k < g.ms.length) (hv : bitB g.ms[k].fl 2 = false) : Ans 76 #[imA4 g,.int .i64 t,.int .i64 k] w (.int .i64 (k : Int)):=by
 obtain ⟨w0,tb,off,hma,h1,h2,HW0,HB0,HK,HI,HG⟩:=img_mth_head hg hk
 have HH : Hid (Ans 84 #[mdV g.ms[k],.int .i64 2] w0 (.bool false)):=by rw [← hv]; exact (has13_any _ (mfl_bound hi hk) w0).2.1
 have hki : (k : Int) < (g.ms.length : Int):=by omega
 obtain ⟨⟨c0,c1,c2,c3⟩,k0,k1,k2,k3,k4,k5,k6,k7,k8,k9,k10,k11⟩:=HK.out w0 (Below.refl _ _)
 unfold maxLen at h2
 unfold imA4
 unfold mdV at HH
 rw [hma]
 clear hg hi hv hma HI HG HK
 generalize g.ms[k] = x at *
 go_enter Tryz.func76,Tryz.ntmps76
 go_wp2_with (rw [← HW0.out])
 refine Calls.mono HH.out ?_
 rintro e w1 ⟨rfl,hb1⟩
 have HB1 : Hid (Below w0.heap.size w0 w1):=hb1
 clear hb1 HH c0 c1 c2 c3 k0 k1 k2 k3 k4 k5 k6 k7 k8 k9 k10 k11
 go_wp2_with fail
 go_ret
 exact ⟨rfl,bstep HB0.out HB1.out⟩

abbrev opDn0 : Oper := { dst:=some 28,op:=Op.load 26 (Operand.tmp 3),type := 26,pos := "slots.go:78",after:=#[],guard:=none }
abbrev opDn1 : Oper := { dst:=some 29,op:=Op.move (Operand.tmp 1),type := 3,pos := "slots.go:78",after:=#[],guard:=none }
abbrev opDn2 : Oper := { dst:=some 30,op:=Op.call { callee:=Callee.value (Operand.func 55),args:=#[Operand.tmp 28,Operand.tmp 29],argTypes:=#[26,3] },type := 77,pos := "slots.go:78",after:=#[{ on := 0,ground:=Ground.data }, { on := 1,ground:=Ground.data }],guard:=none }
abbrev opDn3 : Oper := { dst:=some 31,op:=Op.field 77 (Operand.tmp 30) 1,type := 31,pos := "slots.go:78",after:=#[{ on := 2,ground:=Ground.data }],guard:=none }
abbrev opDn4 : Oper := { dst:=some 32,op:=Op.load 26 (Operand.tmp 3),type := 26,pos := "slots.go:78",after:=#[],guard:=none }
abbrev opDn5 : Oper := { dst:=some 33,op:=Op.move (Operand.tmp 2),type := 3,pos := "slots.go:78",after:=#[],guard:=none }
abbrev opDn6 : Oper := { dst:=some 34,op:=Op.call { callee:=Callee.value (Operand.func 57),args:=#[Operand.tmp 32,Operand.tmp 33],argTypes:=#[26,3] },type := 3,pos := "slots.go:78",after:=#[{ on := 4,ground:=Ground.data }, { on := 5,ground:=Ground.data }, { on := 2,ground:=Ground.chain }],guard:=none }
abbrev opDn7 : Oper := { dst:=some 35,op:=Op.indexAddr 31 (Operand.tmp 31) (Operand.tmp 34),type := 0,pos := "slots.go:78",after:=#[{ on := 3,ground:=Ground.data }, { on := 6,ground:=Ground.data }],guard:=none }
abbrev opDn8 : Oper := { dst:=some 36,op:=Op.load 3 (Operand.tmp 35),type := 3,pos := "slots.go:78",after:=#[{ on := 7,ground:=Ground.data }],guard:=none }
abbrev opDn9 : Oper := { dst:=some 6,op:=Op.assign (Operand.tmp 36),type := 3,pos := "slots.go:78",after:=#[{ on := 8,ground:=Ground.data }, { on := 6,ground:=Ground.chain }, { on := 0,ground:=Ground.phase }, { on := 1,ground:=Ground.phase }, { on := 2,ground:=Ground.phase }, { on := 3,ground:=Ground.phase }, { on := 4,ground:=Ground.phase }, { on := 5,ground:=Ground.phase }, { on := 6,ground:=Ground.phase }, { on := 7,ground:=Ground.phase }, { on := 8,ground:=Ground.phase }],guard:=none }
set_option maxHeartbeats 8000000 in
set_option maxRecDepth 20000 in
theorem doneC13_any {g : Img} {t : Int} {k : Nat} {w : World} (hg : Im w g) (hw : welB g = true) (hk : k < g.ms.length) (ht : numB t g.ts.length = true) (hv : bitB g.ms[k].fl 2 = true) (ho : kndI g g.ms[k].ow = 0) (hu : g.ms[k].ow ∈ upL g t) :
  Ans 76 #[imA4 g,.int .i64 t,.int .i64 k] w (.int .i64 (donC g t (k : Int))):=by
 obtain ⟨w0,tb,off,hma,h1,h2,HW0,HB0,HK,HI,HG⟩:=img_mth_head hg hk
 have hi:=(Wel.of hw).im
 have hnm : mNum g (k : Int):=numB_iff.2 (by omega)
 obtain ⟨s,hs,hs1,hs2,_⟩:=don_at hw ht hnm (show virB g (k : Int) = true by unfold virB; rw [mflI_at hk]; exact hv) (by rw [mowI_at hk]; exact hu)
 have HH : Hid (Ans 84 #[mdV g.ms[k],.int .i64 2] w0 (.bool true)):=by rw [← hv]; exact (has13_any _ (mfl_bound hi hk) w0).2.1
 have HKn : Hid (∀ W,Below w0.heap.size w0 W → Ans 16 #[imA4 g,.int .i64 g.ms[k].ow] W (.int .i64 0)):=fun W hW => by rw [← ho]; exact kind_any _ (HI.out W hW) (FlOk.of hi)
 have HTb : Hid (∀ W,Below w0.heap.size w0 W → Calls Tryz.prog 55 #[imA4 g,.int .i64 t] W fun e w' => ∃ v,e = .returned (tbV g v)∧OwnI w' W.heap.size v (tabL g t)∧Below W.heap.size W w'):=fun W hW => tableOf_any hw ht (HI.out W hW)
 have HSo : Hid (∀ W,Below w0.heap.size w0 W → Ans 57 #[imA4 g,.int .i64 k] W (.int .i64 (s : Int))):=fun W hW => by rw [← hs1]; exact slotOf13_any (HI.out W hW) hw hnm
 have hki : (k : Int) < (g.ms.length : Int):=by omega
 obtain ⟨⟨c0,c1,c2,c3⟩,k0,k1,k2,k3,k4,k5,k6,k7,k8,k9,k10,k11⟩:=HK.out w0 (Below.refl _ _)
 unfold maxLen at h2
 unfold imA4 at HKn HTb HSo ⊢
 unfold mdV at HH
 unfold tbV at HTb
 rw [hma] at HKn HTb HSo ⊢
 clear hg hw hi hv ho hu hnm hs1 hma HI HG
 generalize donC g t (k : Int) = R at *
 generalize tabL g t = T at *
 have hsi : (s : Int) < (T.length : Int):=by omega
 have hfl:=field_tb
 generalize g.ms[k] = x at *
 go_enter Tryz.func76,Tryz.ntmps76
 go_wp2_with (rw [← HW0.out])
 refine Calls.mono HH.out ?_
 rintro e w1 ⟨rfl,hb1⟩
 have HB1 : Hid (Below w0.heap.size w0 w1):=hb1
 clear hb1 HH c0 c1 c2 c3 k0 k1 k2 k3 k4 k5 k6 k7 k8 k9 k10 k11
 obtain ⟨⟨c0,c1,c2,c3⟩,k0,k1,_⟩:=HK.out w1 HB1.out
 go_wp2_with fail
 have HK1 : Hid (∀ W,Below w1.heap.size w1 W → (W.cell? ⟨w.heap.size,0,none⟩ = some (.slice g.ta g.ts.length g.tc)∧W.cell? ⟨w.heap.size,1,none⟩ = some (.slice g.fa g.fs.length g.fc)∧W.cell? ⟨w.heap.size,2,none⟩ = some (.slice (some ⟨tb,off,none⟩) g.ms.length g.mc)∧W.cell? ⟨w.heap.size,3,none⟩ = some (.int .i64 g.en))∧MtA W tb (off + k * 12) x):=fun W hW => HK.out W (bstep HB1.out hW)
 go_region_held3 (fun W : World => (W.cell? ⟨w.heap.size,0,none⟩ = some (.slice g.ta g.ts.length g.tc)∧W.cell? ⟨w.heap.size,1,none⟩ = some (.slice g.fa g.fs.length g.fc)∧W.cell? ⟨w.heap.size,2,none⟩ = some (.slice (some ⟨tb,off,none⟩) g.ms.length g.mc)∧W.cell? ⟨w.heap.size,3,none⟩ = some (.int .i64 g.en))∧MtA W tb (off + k * 12) x)
  (first | (exact HK1.out _ hB2) | (exact HK1.out _ (bdrew _)))
  (first | (go_at_call 16; refine (HKn.out _ (bstep HB1.out (bdrew _))).mono ?_; rintro e w2 ⟨rfl,hz2⟩; have hB2 : Below w1.heap.size w1 w2:=bstep (bdrew _) hz2))
 rename_i hheld
 clear hheld HK1
 have HB2 : Hid (Below w0.heap.size w0 w2):=bstep HB1.out hB2
 clear hz2 hB2 c0 c1 c2 c3 k0 k1
 go_wp2_with fail
 refine wp_region_held_drew (S:=(fun W : World => (W.cell? ⟨w.heap.size,0,none⟩ = some (.slice g.ta g.ts.length g.tc)∧W.cell? ⟨w.heap.size,1,none⟩ = some (.slice g.fa g.fs.length g.fc)∧W.cell? ⟨w.heap.size,2,none⟩ = some (.slice (some ⟨tb,off,none⟩) g.ms.length g.mc)∧W.cell? ⟨w.heap.size,3,none⟩ = some (.int .i64 g.en))∧MtA W tb (off + k * 12) x)) (by kernel_rfl) (HK.out _ (bstep HB2.out (bdrew _))) (fun hHeld => ?_)
 refine tY 0 opDn0 (.agg #[.slice g.ta g.ts.length g.tc,.slice g.fa g.fs.length g.fc,.slice (some ⟨tb,off,none⟩) g.ms.length g.mc,.int .i64 g.en]) hHeld ?_
 refine tY 1 opDn1 (.int .i64 t) hHeld ?_
 refine tY 4 opDn4 (.agg #[.slice g.ta g.ts.length g.tc,.slice g.fa g.fs.length g.fc,.slice (some ⟨tb,off,none⟩) g.ms.length g.mc,.int .i64 g.en]) hHeld ?_
 refine tY 5 opDn5 (.int .i64 (k : Int)) hHeld ?_
 refine wpAnyH_ready (rs := [2]) (by kernel_rfl) (by simp) ?_
 refine AllReadyH.cons (o:=opDn2) rfl (fun K hK => ?_) AllReadyH.nil
 go_simp
 refine (HTb.out _ (bstep HB2.out (bdrew _))).mono ?_
 rintro e w3 ⟨v,rfl,ho3,hb3⟩
 obtain ⟨g2,cap,hv,hcp1,hcp2,_,_,_⟩:=ho3.parts (by intro e; rw [e] at hs; simp at hs)
 subst hv
 unfold maxLen at hcp2
 have hB3 : Below w0.heap.size w0 w3:=bstep (bstep HB2.out (bdrew _)) hb3
 try go_wp2_with fail
 refine hK.out _ _ (HK.out _ hB3) (fun hHeld => ?_)
 clear hK K
 try simp only [Act.put,sA,s0,sS]
 refine tY 3 opDn3 (.slice (some ⟨g2,0,none⟩) T.length cap) hHeld ?_
 refine wpAnyH_ready (rs := [6]) (by kernel_rfl) (by simp) ?_
 refine AllReadyH.cons (o:=opDn6) rfl (fun K hK => ?_) AllReadyH.nil
 go_simp
 refine (HSo.out _ hB3).mono ?_
 rintro e w4 ⟨rfl,hb4⟩
 have hB4 : Below w0.heap.size w0 w4:=bstep hB3 hb4
 have c8 : w4.cell? ⟨g2,s,none⟩ = some (.int .i64 R):=by rw [hs2]; exact IRow.cell (show IRow w4 w2.heap.size g2 cap T from ho3.later hb4) s hs
 try go_wp2_with fail
 refine hK.out _ _ (HK.out _ hB4) (fun hHeld => ?_)
 clear hK K
 try simp only [Act.put,sA,s0,sS]
 refine tY 7 opDn7 (.pointer (some ⟨g2,s,none⟩)) hHeld ?_
 refine wpAnyH_ready (rs := [8]) (by kernel_rfl) (by simp) ?_
 refine AllReadyH.cons (o:=opDn8) rfl (fun K hK => ?_) AllReadyH.nil
 go_simp
 skip
 try go_wp2_with fail
 refine hK.out _ _ (HK.out _ hB4) (fun hHeld => ?_)
 clear hK K
 try simp only [Act.put,sA,s0,sS]
 refine tY 9 opDn9 (.int .i64 R) hHeld ?_
 refine wpAnyH_done (by kernel_rfl) ?_ _
 have HB4 : Hid (Below w0.heap.size w0 w4):=hB4
 clear hb3 hB3 hb4 hB4 ho3 c8
 go_wp2_with fail
 go_ret
 exact ⟨rfl,bstep HB0.out HB4.out⟩

theorem fst_found {g : Img} {U : List Int} {m : Int} {i j : Nat} (hi : i < U.length) (hj : j < (virL g U[i]).length) (h1 : ∀ x ∈ (U.take i).flatMap (virL g),smI g x m = false) (h2 : ∀ x ∈ (virL g U[i]).take j,smI g x m = false) (h3 : smI g (virL g U[i])[j] m = true) :
  (U.flatMap (virL g)).find? (fun k => smI g k m) = some (virL g U[i])[j]:=by
 have e1 : U.flatMap (virL g) = (U.take i).flatMap (virL g) ++ (virL g U[i] ++ (U.drop (i + 1)).flatMap (virL g)):=by
  conv => lhs; rw [← List.take_append_drop i U,List.drop_eq_getElem_cons hi]
  rw [List.flatMap_append,List.flatMap_cons]
 have e2 : virL g U[i] = (virL g U[i]).take j ++ ((virL g U[i])[j] :: (virL g U[i]).drop (j + 1)):=by
  conv => lhs; rw [← List.take_append_drop j (virL g U[i]),List.drop_eq_getElem_cons hj]
 rw [e1,List.find?_append,List.find?_eq_none.2 (fun x hx => by rw [h1 x hx]; simp),Option.none_or,List.find?_append]
 have e3 : (virL g U[i]).find? (fun k => smI g k m) = some (virL g U[i])[j]:=by
  conv => lhs; rw [e2]
  rw [List.find?_append,List.find?_eq_none.2 (fun x hx => by rw [h2 x hx]; simp),Option.none_or,List.find?_cons,h3]
 rw [e3]; rfl
theorem fst_none {g : Img} {U : List Int} {m : Int} (h : ∀ x ∈ U.flatMap (virL g),smI g x m = false) : (U.flatMap (virL g)).find? (fun k => smI g k m) = none:=List.find?_eq_none.2 (fun x hx => by rw [h x hx]; simp)

set_option maxHeartbeats 16000000 in
set_option maxRecDepth 20000 in
theorem doneF13_any {g : Img} {t : Int} {k : Nat} {w : World} (hg : Im w g) (hw : welB g = true) (hk : k < g.ms.length) (ht : kndI g t = 0) (hwf : Wf t) (hv : bitB g.ms[k].fl 2 = true) (ho : kndI g g.ms[k].ow ≠ 0) :
  Ans 76 #[imA4 g,.int .i64 t,.int .i64 k] w (.int .i64 (donI g t (k : Int))):=by
 obtain ⟨w0,tb,off,hma,h1,h2,HW0,HB0,HK,HI,HG⟩:=img_mth_head hg hk
 have W0:=Wel.of hw
 have hi:=W0.im
 have hln:=im_len hi
 have hn : numB t g.ts.length = true:=knd_num (by rw [ht]; decide)
 have HH : Hid (Ans 84 #[mdV g.ms[k],.int .i64 2] w0 (.bool true)):=by rw [← hv]; exact (has13_any _ (mfl_bound hi hk) w0).2.1
 have HKn : Hid (∀ W,Below w0.heap.size w0 W → Ans 16 #[imA4 g,.int .i64 g.ms[k].ow] W (.int .i64 (kndI g g.ms[k].ow))):=fun W hW => kind_any _ (HI.out W hW) (FlOk.of hi)
 have HUp : Hid (∀ W,Below w0.heap.size w0 W → Calls Tryz.prog 14 #[imA4 g,.int .i64 t] W fun e w' => ∃ v,e = .returned v∧OwnI w' W.heap.size v (upL g t)∧Below W.heap.size W w'):=fun W hW => up_any (HI.out W hW) hi hwf
 have HVr : Hid (∀ W u,Below w0.heap.size w0 W → Calls Tryz.prog 93 #[imA4 g,.int .i64 u] W fun e w' => ∃ v,e = .returned v∧OwnI w' W.heap.size v (virL g u)∧Below W.heap.size W w'):=fun W u hW => virtuals_any (HI.out W hW) hi
 have HRc : Hid (∀ W u j,Below w0.heap.size w0 W → u ∈ upL g t → j ∈ virL g u → Ans 76 #[imA4 g,.int .i64 t,.int .i64 j] W (.int .i64 (donC g t j))):=fun W u j hW hu hj => by
  obtain ⟨q,hq,rfl,hqo,hqv⟩:=vir_mem hj
  refine doneC13_any (HI.out W hW) hw hq hn (by unfold virB at hqv; rw [mflI_at hq] at hqv; exact hqv) (by rw [hqo]; exact up_class W0 ht hu) (by rw [hqo]; exact hu)
 have HAl : Hid (∀ W (q : Nat) (hq : q < g.ms.length),Below w0.heap.size w0 W → Ans 130 #[mdV g.ms[q],mdV g.ms[k]] W (.bool (smI g (q : Int) (k : Int)))):=fun W q hq hW => by
  rw [smI_at hq hk]
  exact alike13_any ((HI.out W hW).mok _ (List.getElem_mem hq)) ((HI.out W hW).mok _ (List.getElem_mem hk))
 have HMq : Hid (∀ W (q : Nat) (hq : q < g.ms.length),Below w0.heap.size w0 W → MtA W tb (off + q * 12) g.ms[q]):=fun W q hq hW => by
  obtain ⟨tb2,off2,hma2,_,_,hc⟩:=(HI.out w0 (Below.refl _ _)).mth hk
  rw [hma] at hma2
  cases hma2
  exact hc W hW q hq
 have HFo : Hid (∀ (i j : Nat) (hi : i < (upL g t).length) (hj : j < (virL g (upL g t)[i]).length),(∀ x ∈ ((upL g t).take i).flatMap (virL g),smI g x (k : Int) = false) → (∀ x ∈ (virL g (upL g t)[i]).take j,smI g x (k : Int) = false) → smI g (virL g (upL g t)[i])[j] (k : Int) = true → donI g t (k : Int) = donC g t (virL g (upL g t)[i])[j]):=fun i j hi hj h1 h2 h3 => by
  rw [don_face hk hv ho]
  have : fstV g t (k : Int) = some (virL g (upL g t)[i])[j]:=fst_found hi hj h1 h2 h3
  rw [this]
 have HNo : Hid ((∀ x ∈ (upL g t).flatMap (virL g),smI g x (k : Int) = false) → donI g t (k : Int) = -1):=fun h => by
  rw [don_face hk hv ho]
  have : fstV g t (k : Int) = none:=fst_none h
  rw [this]
 have HVn : Hid (∀ u j,j ∈ virL g u → ∃ (q : Nat) (hq : q < g.ms.length),j = (q : Int)):=fun u j hj => by
  obtain ⟨q,hq,e,_⟩:=vir_mem hj
  exact ⟨q,hq,e⟩
 have hul:=up_len g t
 have hvl : ∀ u,(virL g u).length ≤ 64:=fun u => Nat.le_trans (vir_len g u) hln.2.2
 have HVl : Hid (∀ u,(virL g u).length ≤ 64):=hvl
 have hki : (k : Int) < (g.ms.length : Int):=by omega
 have hkn : (kndI g g.ms[k].ow == 0) = false:=by simpa using ho
 obtain ⟨⟨c0,c1,c2,c3⟩,k0,k1,k2,k3,k4,k5,k6,k7,k8,k9,k10,k11⟩:=HK.out w0 (Below.refl _ _)
 unfold maxLen at h2
 unfold imA4 at HKn HUp HVr HRc ⊢
 unfold mdV at HH HAl
 rw [hma] at HKn HUp HVr HRc ⊢
 clear hg hw hi hv ho hma HI HG hwf ht hn W0 hvl
 generalize donI g t (k : Int) = R at *
 generalize upL g t = U at *
 generalize kndI g g.ms[k].ow = kn at *
 generalize g.ms[k] = x at *
 go_enter Tryz.func76,Tryz.ntmps76
 go_wp2_with (rw [← HW0.out])
 refine Calls.mono HH.out ?_
 rintro e w1 ⟨rfl,hb1⟩
 have HB1 : Hid (Below w0.heap.size w0 w1):=hb1
 clear hb1 HH c0 c1 c2 c3 k0 k1 k2 k3 k4 k5 k6 k7 k8 k9 k10 k11
 obtain ⟨⟨c0,c1,c2,c3⟩,k0,k1,_⟩:=HK.out w1 HB1.out
 go_wp2_with fail
 have HK1 : Hid (∀ W,Below w1.heap.size w1 W → (W.cell? ⟨w.heap.size,0,none⟩ = some (.slice g.ta g.ts.length g.tc)∧W.cell? ⟨w.heap.size,1,none⟩ = some (.slice g.fa g.fs.length g.fc)∧W.cell? ⟨w.heap.size,2,none⟩ = some (.slice (some ⟨tb,off,none⟩) g.ms.length g.mc)∧W.cell? ⟨w.heap.size,3,none⟩ = some (.int .i64 g.en))∧MtA W tb (off + k * 12) x):=fun W hW => HK.out W (bstep HB1.out hW)
 go_region_held3 (fun W : World => (W.cell? ⟨w.heap.size,0,none⟩ = some (.slice g.ta g.ts.length g.tc)∧W.cell? ⟨w.heap.size,1,none⟩ = some (.slice g.fa g.fs.length g.fc)∧W.cell? ⟨w.heap.size,2,none⟩ = some (.slice (some ⟨tb,off,none⟩) g.ms.length g.mc)∧W.cell? ⟨w.heap.size,3,none⟩ = some (.int .i64 g.en))∧MtA W tb (off + k * 12) x)
  (first | (exact HK1.out _ hB2) | (exact HK1.out _ (bdrew _)))
  (first | (go_at_call 16; refine (HKn.out _ (bstep HB1.out (bdrew _))).mono ?_; rintro e w2 ⟨rfl,hz2⟩; have hB2 : Below w1.heap.size w1 w2:=bstep (bdrew _) hz2))
 rename_i hheld
 clear hheld HK1
 have HB2 : Hid (Below w0.heap.size w0 w2):=bstep HB1.out hB2
 clear hz2 hB2 c0 c1 c2 c3 k0 k1
 obtain ⟨⟨c0,c1,c2,c3⟩,_⟩:=HK.out w2 HB2.out
 go_wp2_with fail
 refine Calls.mono (HUp.out w2 HB2.out) ?_
 rintro e w3 ⟨uv,rfl,ho3,hb3⟩
 have HB3 : Hid (Below w0.heap.size w0 w3):=bstep HB2.out hb3
 obtain ⟨ua,uc,huv,_,huc⟩:=ho3.is.shape
 have HUs : Hid (∀ W,Below w3.heap.size w3 W → Is W (.slice ua U.length uc) U):=fun W hW => by
  have:=ho3.is.later hW
  rw [huv] at this; exact this
 subst huv
 unfold maxLen at huc
 clear ho3 hb3 c0 c1 c2 c3 HUp
 go_wp2_with fail
 go_loopw [8,10,41] (fun _ _ z wr => ∃ i : Nat,i ≤ U.length∧z = .int .i64 i∧Hid (∀ x ∈ (U.take i).flatMap (virL g),smI g x (k : Int) = false)∧Hid (Below w3.heap.size w3 wr)) (fun _ _ z _ => U.length - (intOf z).toNat)
 case atStart => exact ⟨0,Nat.zero_le _,rfl,(show ∀ x ∈ _,_ from by simp),Below.refl _ _⟩
 case round =>
  obtain ⟨i,hil0,rfl,HA,HB⟩:=hrel
  by_cases hil : i < U.length
  ·have hii : (i : Int) < (U.length : Int):=by omega
   obtain ⟨lb,loff,hla,hlb,_,h6',h7',hcu⟩:=(HUs.out wr HB.out).at hil
   have cA:=hcu i hil
   subst hla
   clear hcu
   have hB0r : Below w0.heap.size w0 wr:=bstep HB3.out HB.out
   obtain ⟨⟨c0,c1,c2,c3⟩,_⟩:=HK.out wr hB0r
   have HNx : Hid ((U.take (i + 1)).flatMap (virL g) = (U.take i).flatMap (virL g) ++ virL g U[i]):=flat_take hil
   have HFq : Hid (∀ (j : Nat) (hj : j < (virL g U[i]).length),(∀ x ∈ (virL g U[i]).take j,smI g x (k : Int) = false) → smI g (virL g U[i])[j] (k : Int) = true → R = donC g t (virL g U[i])[j]):=fun j hj h2 h3 => HFo.out i j hil hj HA.out h2 h3
   have HRq : Hid (∀ W j,Below w0.heap.size w0 W → j ∈ virL g U[i] → Ans 76 #[.agg #[.slice g.ta g.ts.length g.tc,.slice g.fa g.fs.length g.fc,.slice (some ⟨tb,off,none⟩) g.ms.length g.mc,.int .i64 g.en],.int .i64 t,.int .i64 j] W (.int .i64 (donC g t j))):=fun W j hW hj => HRc.out W U[i] j hW (List.getElem_mem hil) hj
   have HVq : Hid (∀ j ∈ virL g U[i],∃ (q : Nat) (hq : q < g.ms.length),j = (q : Int)):=fun j hj => HVn.out _ j hj
   have hvl : (virL g U[i]).length ≤ 64:=HVl.out _
   have HVc : Hid _:=HVr.out wr U[i] hB0r
   generalize virL g U[i] = V at *
   generalize U[i] = u at *
   go_wp2_with fail
   refine Calls.mono HVc.out ?_
   rintro e w4 ⟨vv,rfl,ho4,hb4⟩
   have HB4 : Hid (Below w3.heap.size w3 w4):=bstep HB.out hb4
   obtain ⟨va,vc,hvv,_,hvc⟩:=ho4.is.shape
   have HVs : Hid (∀ W,Below w4.heap.size w4 W → Is W (.slice va V.length vc) V):=fun W hW => by
    have:=ho4.is.later hW
    rw [hvv] at this; exact this
   subst hvv
   unfold maxLen at hvc
   clear ho4 hb4 c0 c1 c2 c3 cA HVc hB0r
   go_wp2_with fail
   obtain ⟨wo,hwo⟩ : ∃ W,W = wr:=⟨_,rfl⟩
   subst hwo
   go_loopw [10,49] (fun _ z wx => ∃ j : Nat,j ≤ V.length∧z = .int .i64 j∧Hid (∀ x ∈ V.take j,smI g x (k : Int) = false)∧Hid (Below w4.heap.size w4 wx)) (fun _ z _ => V.length - (intOf z).toNat)
   case atStart => exact ⟨0,Nat.zero_le _,rfl,(show ∀ x ∈ _,_ from by simp),Below.refl _ _⟩
   case round =>
    obtain ⟨j,hjl0,rfl,HA2,HBx⟩:=hrel
    by_cases hjl : j < V.length
    ·have hji : (j : Int) < (V.length : Int):=by omega
     obtain ⟨mb,moff,hla,hlb,_,h8',h9',hcv⟩:=(HVs.out wr HBx.out).at hjl
     have cB:=hcv j hjl
     subst hla
     clear hcv
     have hB0r : Below w0.heap.size w0 wr:=bstep HB3.out (bstep HB4.out HBx.out)
     obtain ⟨q,hq,hVq⟩:=HVq.out V[j] (List.getElem_mem hjl)
     have hqi : (q : Int) < (g.ms.length : Int):=by omega
     have HB0r : Hid (Below w0.heap.size w0 wr):=hB0r
     have HAq : Hid (∀ W,Below w0.heap.size w0 W → Ans 130 #[.agg #[.string g.ms[q].nm,.int .i64 g.ms[q].ow,.int .i64 g.ms[q].fl,.slice g.ms[q].pa g.ms[q].ps.length g.ms[q].pc,.int .i64 g.ms[q].rt.1,.int .i64 g.ms[q].rt.2.1,.int .i64 g.ms[q].rt.2.2.1,.bool g.ms[q].rt.2.2.2,.slice g.ms[q].la g.ms[q].ls.length g.ms[q].lc,.int .i64 g.ms[q].mx,.slice g.ms[q].ca g.ms[q].co.length g.ms[q].cc,.slice g.ms[q].ka g.ms[q].cl.length g.ms[q].kc],.agg #[.string x.nm,.int .i64 x.ow,.int .i64 x.fl,.slice x.pa x.ps.length x.pc,.int .i64 x.rt.1,.int .i64 x.rt.2.1,.int .i64 x.rt.2.2.1,.bool x.rt.2.2.2,.slice x.la x.ls.length x.lc,.int .i64 x.mx,.slice x.ca x.co.length x.cc,.slice x.ka x.cl.length x.kc]] W (.bool (smI g (q : Int) (k : Int)))):=fun W hW => HAl.out W q hq hW
     have HKq : Hid (∀ W,Below wr.heap.size wr W → W.cell? ⟨w.heap.size,2,none⟩ = some (.slice (some ⟨tb,off,none⟩) g.ms.length g.mc)∧MtA W tb (off + q * 12) g.ms[q]∧MtA W tb (off + k * 12) x):=fun W hW => ⟨(HK.out W (bstep HB0r.out hW)).1.2.2.1,HMq.out W q hq (bstep HB0r.out hW),(HK.out W (bstep HB0r.out hW)).2⟩
     have HRj : Hid (∀ W,Below w0.heap.size w0 W → Ans 76 #[.agg #[.slice g.ta g.ts.length g.tc,.slice g.fa g.fs.length g.fc,.slice (some ⟨tb,off,none⟩) g.ms.length g.mc,.int .i64 g.en],.int .i64 t,.int .i64 (q : Int)] W (.int .i64 (donC g t (q : Int)))):=fun W hW => by
      have:=HRq.out W V[j] hW (List.getElem_mem hjl)
      rw [hVq] at this; exact this
     have HFj : Hid (smI g (q : Int) (k : Int) = true → R = donC g t (q : Int)):=fun h => by
      have:=HFq.out j hjl HA2.out (by rw [hVq]; exact h)
      rw [hVq] at this; exact this
     have HNj : Hid (smI g (q : Int) (k : Int) = false → ∀ x ∈ V.take (j + 1),smI g x (k : Int) = false):=fun h y hy => by
      rw [List.take_succ_eq_append_getElem hjl] at hy
      rcases List.mem_append.1 hy with hy | hy
      ·exact HA2.out y hy
      ·simp at hy; subst hy; rw [hVq]; exact h
     obtain ⟨m2,n1,n2⟩:=HKq.out wr (Below.refl _ _)
     clear hB0r
     rw [hVq] at cB
     clear hVq
     generalize donC g t (q : Int) = D at *
     generalize smI g (q : Int) (k : Int) = sm at *
     generalize g.ms[q] = y at *
     go_wp2_with fail
     go_region_held3 (fun W : World => W.cell? ⟨w.heap.size,2,none⟩ = some (.slice (some ⟨tb,off,none⟩) g.ms.length g.mc)∧MtA W tb (off + q * 12) y∧MtA W tb (off + k * 12) x)
      (first | (exact HKq.out _ hB5) | (exact HKq.out _ (bdrew _)))
      (first | (go_at_call 130; refine (HAq.out _ (bstep HB0r.out (bdrew _))).mono ?_; rintro e w5 ⟨rfl,hz5⟩; have hB5 : Below wr.heap.size wr w5:=bstep (bdrew _) hz5))
     rename_i hheld
     clear hheld
     have HB5 : Hid (Below wr.heap.size wr w5):=hB5
     have HB05 : Hid (Below w0.heap.size w0 w5):=bstep HB0r.out hB5
     clear hz5 hB5 cB m2 n1 n2 HAq HKq
     cases sm with
     | true =>
      have HR2 : Hid (R = D):=HFj.out (by trivial)
      obtain ⟨⟨c0,c1,c2,c3⟩,_⟩:=HK.out w5 HB05.out
      go_wp2_with fail
      refine Calls.mono (HRj.out w5 HB05.out) ?_
      rintro e w6 ⟨rfl,hb6⟩
      have HB6 : Hid (Below w0.heap.size w0 w6):=bstep HB05.out hb6
      clear hb6 c0 c1 c2 c3
      go_wp2_with fail
      go_ret
      exact ⟨ret_int HR2.out.symm,bstep HB0.out HB6.out⟩
     | false =>
      have HN2 : Hid (∀ x ∈ V.take (j + 1),smI g x (k : Int) = false):=HNj.out (by trivial)
      go_wp2_with fail
      go_roundw
      case rel => exact ⟨j + 1,by omega,by go_num,HN2.out,bstep HBx.out HB5.out⟩
      case measure => simp [intOf]; omega
    ·have hji : ¬ (j : Int) < (V.length : Int):=by omega
     have HN2 : Hid (∀ x ∈ (U.take (i + 1)).flatMap (virL g),smI g x (k : Int) = false):=fun y hy => by
      rw [HNx.out] at hy
      rcases List.mem_append.1 hy with hy | hy
      ·exact HA.out y hy
      ·exact HA2.out y (by rw [List.take_of_length_le (by omega)]; exact hy)
     go_wp2_with fail
     go_roundw
     case rel => exact ⟨i + 1,by omega,by go_num,HN2.out,bstep HB4.out HBx.out⟩
     case measure => simp [intOf]; omega
  ·have hii : ¬ (i : Int) < (U.length : Int):=by omega
   have HR2 : Hid (R = -1):=HNo.out (fun y hy => HA.out y (by rw [List.take_of_length_le (by omega)]; exact hy))
   go_wp2_with fail
   go_ret
   exact ⟨ret_int HR2.out.symm,bstep HB0.out (bstep HB3.out HB.out)⟩

theorem doneBy_any {g : Img} {t m : Int} {w : World} (hg : Im w g) (hw : welB g = true) (hm : mNum g m) (ht : kndI g t = 0) (hwf : Wf t) (hb : belB g t (mowI g m) = true) : Ans 76 #[imA4 g,.int .i64 t,.int .i64 m] w (.int .i64 (donI g t m)):=by
 obtain ⟨k,hk,rfl⟩:=mNum_at hm
 rw [mowI_at hk] at hb
 cases hv : bitB g.ms[k].fl 2 with
 | false => rw [don_self hk hv]; exact doneS13_any hg (Wel.of hw).im hk hv
 | true =>
  by_cases ho : kndI g g.ms[k].ow = 0
  ·rw [don_class hk hv ho]
   exact doneC13_any hg hw hk (knd_num (by rw [ht]; decide)) hv ho (bel_class (Wel.of hw) hb (by rw [ho]; decide))
  ·exact doneF13_any hg hw hk ht hwf hv ho
end Go.Proofs.YthpmpdpfnlecmaaGreat
