/- Texts joined: Wrong13. -/
import Derived.Test.YthpmpdpfnlecmaaGreatQ44
import Derived.Test.YthpmpdpfnlecmaaGreatQ42
namespace Go.Proofs.YthpmpdpfnlecmaaGreat
set_option linter.unusedVariables false
set_option linter.unusedSimpArgs false
open Go.RowKit Go.Maps
attribute [local go_sem ↓] Go.wp_at_zero Go.wp_at_succ
theorem typ_len {x : MD} (h : MdLen x) : (typL x).length ≤ 190:=by
 obtain ⟨h1,h2,h3,h4⟩:=h
 have h5:=ity_len x.co
 have h6:=cty_len x.cl
 unfold typL
 simp only [List.length_append,List.length_singleton]
 omega
theorem err_flg {g : Img} {x : MD} (h : flgM g x = false) : errM g x = 8:=by unfold errM; rw [h,if_pos rfl]
theorem err_typ {g : Img} {x : MD} (h : flgM g x = true) {i : Nat} (hi : i < (typL x).length) (hb : usdB g (typL x)[i] = false) : errM g x = 10:=by
 unfold errM
 rw [h,if_neg (by decide),if_pos ?_]
 unfold typM
 rw [List.all_eq_false]
 exact ⟨_,List.getElem_mem hi,by rw [hb]; simp⟩
theorem err_ok {g : Img} {x : MD} (h : flgM g x = true) (ha : ∀ t ∈ typL x,usdB g t = true) : errM g x = 0:=by
 unfold errM
 rw [h,if_neg (by decide),if_neg ?_]
 unfold typM
 rw [List.all_eq_true.2 ha]; simp

abbrev opWr0 : Oper := { dst:=some 14,op:=Op.load 55 (Operand.tmp 5),type := 55,pos := "check.go:52",after:=#[],guard:=none }
abbrev opWr1 : Oper := { dst:=some 15,op:=Op.fieldAddr 69 (Operand.tmp 2) 0,type := 0,pos := "check.go:52",after:=#[],guard:=none }
abbrev opWr2 : Oper := { dst:=some 16,op:=Op.load 26 (Operand.tmp 15),type := 26,pos := "check.go:52",after:=#[{ on := 1,ground:=Ground.data }],guard:=none }
abbrev opWr3 : Oper := { dst:=some 17,op:=Op.fieldAddr 55 (Operand.tmp 5) 1,type := 0,pos := "check.go:52",after:=#[],guard:=none }
abbrev opWr4 : Oper := { dst:=some 18,op:=Op.load 3 (Operand.tmp 17),type := 3,pos := "check.go:52",after:=#[{ on := 3,ground:=Ground.data }],guard:=none }
abbrev opWr5 : Oper := { dst:=some 19,op:=Op.call { callee:=Callee.value (Operand.func 16),args:=#[Operand.tmp 16,Operand.tmp 18],argTypes:=#[26,3] },type := 3,pos := "check.go:52",after:=#[{ on := 2,ground:=Ground.data }, { on := 4,ground:=Ground.data }],guard:=none }
abbrev opWr6 : Oper := { dst:=some 20,op:=Op.call { callee:=Callee.value (Operand.func 78),args:=#[Operand.tmp 14,Operand.tmp 19],argTypes:=#[55,3] },type := 4,pos := "check.go:52",after:=#[{ on := 0,ground:=Ground.data }, { on := 5,ground:=Ground.data }, { on := 5,ground:=Ground.chain }],guard:=none }
abbrev opWr7 : Oper := { dst:=some 21,op:=Op.unOp UnOp.not 4 (Operand.tmp 20),type := 4,pos := "check.go:52",after:=#[{ on := 6,ground:=Ground.data }],guard:=none }
abbrev opWr8 : Oper := { dst:=some 22,op:=Op.move (Operand.tmp 21),type := 4,pos := "check.go:52",after:=#[{ on := 7,ground:=Ground.data }, { on := 6,ground:=Ground.chain }],guard:=none }
abbrev opWr9 : Oper := { dst:=some 23,op:=Op.load 55 (Operand.tmp 5),type := 55,pos := "check.go:52",after:=#[{ on := 8,ground:=Ground.guard }],guard:=some (8,false) }
abbrev opWr10 : Oper := { dst:=some 24,op:=Op.call { callee:=Callee.value (Operand.func 79),args:=#[Operand.tmp 23],argTypes:=#[55] },type := 4,pos := "check.go:52",after:=#[{ on := 9,ground:=Ground.data }, { on := 8,ground:=Ground.chain }, { on := 8,ground:=Ground.guard }],guard:=some (8,false) }
abbrev opWr11 : Oper := { dst:=some 25,op:=Op.unOp UnOp.not 4 (Operand.tmp 24),type := 4,pos := "check.go:52",after:=#[{ on := 10,ground:=Ground.data }, { on := 8,ground:=Ground.guard }],guard:=some (8,false) }
abbrev opWr12 : Oper := { dst:=some 26,op:=Op.pick (Operand.tmp 22) (Operand.const (Value.bool true)) (Operand.tmp 25),type := 4,pos := "check.go:52",after:=#[{ on := 8,ground:=Ground.data }, { on := 11,ground:=Ground.data }],guard:=none }
abbrev opWr13 : Oper := { dst:=some 27,op:=Op.move (Operand.tmp 26),type := 4,pos := "check.go:52",after:=#[{ on := 12,ground:=Ground.data }, { on := 10,ground:=Ground.chain }],guard:=none }
abbrev opWr14 : Oper := { dst:=some 28,op:=Op.fieldAddr 69 (Operand.tmp 2) 0,type := 0,pos := "check.go:52",after:=#[{ on := 13,ground:=Ground.guard }],guard:=some (13,false) }
abbrev opWr15 : Oper := { dst:=some 29,op:=Op.load 26 (Operand.tmp 28),type := 26,pos := "check.go:52",after:=#[{ on := 14,ground:=Ground.data }, { on := 13,ground:=Ground.guard }],guard:=some (13,false) }
abbrev opWr16 : Oper := { dst:=some 30,op:=Op.load 55 (Operand.tmp 5),type := 55,pos := "check.go:52",after:=#[{ on := 13,ground:=Ground.guard }],guard:=some (13,false) }
abbrev opWr17 : Oper := { dst:=some 31,op:=Op.call { callee:=Callee.value (Operand.func 80),args:=#[Operand.tmp 29,Operand.tmp 30],argTypes:=#[26,55] },type := 4,pos := "check.go:52",after:=#[{ on := 15,ground:=Ground.data }, { on := 16,ground:=Ground.data }, { on := 13,ground:=Ground.chain }, { on := 13,ground:=Ground.guard }],guard:=some (13,false) }
abbrev opWr18 : Oper := { dst:=some 32,op:=Op.unOp UnOp.not 4 (Operand.tmp 31),type := 4,pos := "check.go:52",after:=#[{ on := 17,ground:=Ground.data }, { on := 13,ground:=Ground.guard }],guard:=some (13,false) }
abbrev opWr19 : Oper := { dst:=some 33,op:=Op.pick (Operand.tmp 27) (Operand.const (Value.bool true)) (Operand.tmp 32),type := 4,pos := "check.go:52",after:=#[{ on := 13,ground:=Ground.data }, { on := 18,ground:=Ground.data }],guard:=none }
set_option maxHeartbeats 16000000 in
set_option maxRecDepth 20000 in
theorem wrong13_any {win w : World} {mm c k : Nat} {g : Img} (hw : welB g = true) (hg : Im win g) (hbel : Below win.heap.size win w) (hlo : win.heap.size ≤ mm) (hU : UM w mm g c) (hc : c ≤ 500000) (hk : k < g.ms.length) :
  Calls Tryz.prog 45 #[usV g mm,.int .i64 k] w fun e w' => e = .returned (.int .i64 (errM g g.ms[k]))∧Bm mm w w'∧UM w' mm g (c + 200):=by
 have hi:=(Wel.of hw).im
 have hgw:=hg.later hbel
 obtain ⟨w0,hw0⟩ : ∃ W,W = w.alloc (.cells (usA g mm) 69):=⟨_,rfl⟩
 have HW0 : Hid (w0 = _):=hw0
 have hb0 : Below w.heap.size w w0:=by rw [hw0]; exact made_below _ _ _
 have hA0 : At w0 w.heap.size (usA g mm) 69:=by rw [hw0]; exact At.made _ _ _
 obtain ⟨tb,off,hma,h1,h2,hcm⟩:=hgw.mth hk
 obtain ⟨x,hx⟩ : ∃ x,x = g.ms[k]:=⟨_,rfl⟩
 obtain ⟨w1,hw1⟩ : ∃ W,W = w0.alloc (.cells (mdA13 x) 55):=⟨_,rfl⟩
 have HW1 : Hid (w1 = _):=hw1
 have hb1 : Below w0.heap.size w0 w1:=by rw [hw1]; exact made_below _ _ _
 have hA1 : At w1 w0.heap.size (mdA13 x) 55:=by rw [hw1]; exact At.made _ _ _
 have hb01 : Below w.heap.size w w1:=bstep hb0 hb1
 have HB01 : Hid (Below w.heap.size w w1):=hb01
 have HU1 : Hid (UM w1 mm g c):=hU.later hb01
 have hmm : mm < w.heap.size:=hU.lt
 have HA1 : Hid (At w1 w.heap.size (usA g mm) 69):=hA0.later hb1
 have hmd:=hgw.mok _ (List.getElem_mem hk)
 rw [← hx] at hmd ⊢
 have hfl : 0 ≤ x.fl∧x.fl ≤ 31:=by rw [hx]; exact mfl_bound hi hk
 have hpt:=md_parts hi hk
 have hown : numB x.ow g.ts.length = true:=by rw [hx]; exact hpt.2.2.2.2.2.2.2
 have hmx : 0 ≤ x.mx:=by rw [hx]; exact hpt.2.2.2.2.2.2.1
 have HPl : Hid (∀ t ∈ typL x,plainT t = true):=by rw [hx]; exact md_plain hi hk
 have hMl : MdLen x:=by rw [hx]; exact md_len hi hk
 have hOp : OpsOk x:=by rw [hx]; exact md_ops hi hk
 have hTl:=typ_len hMl
 have hM0:=hcm w0 hb0 k hk
 rw [← hx] at hM0
 obtain ⟨k0,k1,k2,k3,k4,k5,k6,k7,k8,k9,k10,k11⟩:=hM0
 have HK0 : Hid (∀ W,Below w1.heap.size w1 W → Us5 W w.heap.size g mm∧Mt W w0.heap.size x):=fun W hW => ⟨Us5.of ((hA0.later hb1).later hW),Mt.of (hA1.later hW)⟩
 have HI1 : Hid (∀ W,Below w1.heap.size w1 W → Im W g):=fun W hW => (hgw.later hb01).later hW
 have HKn : Hid (∀ W,Below w1.heap.size w1 W → Ans 16 #[imA4 g,.int .i64 x.ow] W (.int .i64 (kndI g x.ow))):=fun W hW => kind_any _ (HI1.out W hW) (FlOk.of hi)
 have HF1 : Hid (∀ W,Ans 78 #[mdV x,.int .i64 (kndI g x.ow)] W (.bool (flg1 (kndI g x.ow) x))):=fun W => flags13_any x hfl _ W
 have HF2 : Hid (∀ W,Ans 79 #[mdV x] W (.bool (flg2 x))):=fun W => body13_any x hfl W
 have HF3 : Hid (∀ W,Below w1.heap.size w1 W → Ans 80 #[imA4 g,mdV x] W (.bool (flg3 g x))):=fun W hW => stands13_any (HI1.out W hW) hi hfl hown
 have HTy : Hid (∀ W,Below w1.heap.size w1 W → Calls Tryz.prog 81 #[mdV x] W fun e w' => ∃ v,e = .returned v∧OwnE tyE w' W.heap.size 51 v (typL x)∧Below W.heap.size W w'):=fun W hW => typesOf_any ((hmd.later hb01).later hW) hMl hOp
 have HUs : Hid (∀ W c t,Bm mm w W → UM W mm g c → c ≤ 1000000 → plainT t = true → Calls Tryz.prog 82 #[usV g mm,.agg #[.int .i64 t.1,.int .i64 t.2.1,.int .i64 t.2.2.1,.bool t.2.2.2]] W fun e w' => e = .returned (.bool (usdB g t))∧Bm mm W w'∧UM w' mm g (c + 1)):=fun W c t hW h1 h2 h3 => usesWell_any hw hg (Bm.below hbel (Nat.le_refl _) hlo hW) hlo h1 h2 h3
 have HFl : Hid ((flg1 (kndI g x.ow) x && flg2 x && flg3 g x) = flgM g x):=flg_eq hown hmx
 have HE8 : Hid (flgM g x = false → errM g x = 8):=err_flg
 have HE10 : Hid (flgM g x = true → ∀ (i : Nat) (hi : i < (typL x).length),usdB g (typL x)[i] = false → errM g x = 10):=fun h i hi hb => err_typ h hi hb
 have HE0 : Hid (flgM g x = true → (∀ t ∈ typL x,usdB g t = true) → errM g x = 0):=err_ok
 have hki : (k : Int) < (g.ms.length : Int):=by omega
 obtain ⟨c0,c1,c2,c3,c4⟩:=Us5.of hA0
 have HMM : Hid (mm < w.heap.size):=hmm
 unfold maxLen at h2
 unfold usA at HW0
 unfold mdA13 at HW1
 unfold imA4 at HKn HF3
 unfold mdV at HF1 HF2 HF3 HTy
 unfold usV at HUs
 unfold usV
 unfold Us5 at HK0
 clear hw0 hb0 hA0 hw1 hb1 hA1 hb01 hU hmm hmd hfl hpt hown hmx hMl hOp hcm hw hg hbel hlo hgw hi hx
 have HME : Hid (g.ma = some ⟨tb,off,none⟩):=hma
 rw [hma] at HW0 HK0 HKn HF3 HUs c2 ⊢
 clear hma
 generalize errM g x = R at *
 generalize flgM g x = fm at *
 generalize hT : typL x = T at *
 generalize kndI g x.ow = kn at *
 generalize flg1 kn x = f1 at *
 generalize flg2 x = f2 at *
 generalize flg3 g x = f3 at *
 go_enter Tryz.func45,Tryz.ntmps45
 go_wp2_with (first | rw [← HW0.out] | rw [← HW1.out])
 clear k0 k1 k2 k3 k4 k5 k6 k7 k8 k9 k10 k11 c0 c1 c2 c3 c4
 cases f1 with
 | false =>
  refine wp_region_held_drew (S:=(fun W : World => (W.cell? ⟨w.heap.size,0,none⟩ = some (.slice g.ta g.ts.length g.tc)∧W.cell? ⟨w.heap.size,1,none⟩ = some (.slice g.fa g.fs.length g.fc)∧W.cell? ⟨w.heap.size,2,none⟩ = some (.slice (some ⟨tb,off,none⟩) g.ms.length g.mc)∧W.cell? ⟨w.heap.size,3,none⟩ = some (.int .i64 g.en)∧W.cell? ⟨w.heap.size,4,none⟩ = some (.map (some mm)))∧Mt W w0.heap.size x)) (by kernel_rfl) (HK0.out _ (bdrew _)) (fun hHeld => ?_)
  refine tY 0 opWr0 (.agg #[.string x.nm,.int .i64 x.ow,.int .i64 x.fl,.slice x.pa x.ps.length x.pc,.int .i64 x.rt.1,.int .i64 x.rt.2.1,.int .i64 x.rt.2.2.1,.bool x.rt.2.2.2,.slice x.la x.ls.length x.lc,.int .i64 x.mx,.slice x.ca x.co.length x.cc,.slice x.ka x.cl.length x.kc]) hHeld ?_
  refine tY 1 opWr1 (.pointer (some ⟨w.heap.size,0,none⟩)) hHeld ?_
  refine tY 2 opWr2 (.agg #[.slice g.ta g.ts.length g.tc,.slice g.fa g.fs.length g.fc,.slice (some ⟨tb,off,none⟩) g.ms.length g.mc,.int .i64 g.en]) hHeld ?_
  refine tY 3 opWr3 (.pointer (some ⟨w0.heap.size,1,none⟩)) hHeld ?_
  refine tY 4 opWr4 (.int .i64 x.ow) hHeld ?_
  refine wpAnyH_ready (rs := [5]) (by kernel_rfl) (by simp) ?_
  refine AllReadyH.cons (o:=opWr5) rfl (fun K hK => ?_) AllReadyH.nil
  go_simp
  refine (HKn.out _ (bdrew _)).mono ?_
  rintro e w2 ⟨rfl,hb2⟩
  have hB2 : Below w1.heap.size w1 w2:=bstep (bdrew _) hb2
  try go_wp2_with fail
  refine hK.out _ _ (HK0.out _ hB2) (fun hHeld => ?_)
  clear hK K
  try simp only [Act.put,sA,s0,sS]
  refine wpAnyH_ready (rs := [6]) (by kernel_rfl) (by simp) ?_
  refine AllReadyH.cons (o:=opWr6) rfl (fun K hK => ?_) AllReadyH.nil
  go_simp
  refine (HF1.out _).mono ?_
  rintro e w3 ⟨rfl,hb3⟩
  have hB3 : Below w1.heap.size w1 w3:=bstep hB2 hb3
  try go_wp2_with fail
  refine hK.out _ _ (HK0.out _ hB3) (fun hHeld => ?_)
  clear hK K
  try simp only [Act.put,sA,s0,sS]
  refine tY 7 opWr7 (.bool true) hHeld ?_
  refine tY 8 opWr8 (.bool true) hHeld ?_
  refine tN 9 opWr9 hHeld ?_
  refine tN 10 opWr10 hHeld ?_
  refine tN 11 opWr11 hHeld ?_
  refine tY 12 opWr12 (.bool true) hHeld ?_
  refine tY 13 opWr13 (.bool true) hHeld ?_
  refine tN 14 opWr14 hHeld ?_
  refine tN 15 opWr15 hHeld ?_
  refine tN 16 opWr16 hHeld ?_
  refine tN 17 opWr17 hHeld ?_
  refine tN 18 opWr18 hHeld ?_
  refine tY 19 opWr19 (.bool true) hHeld ?_
  refine wpAnyH_done (by kernel_rfl) ?_ _
  have HF : Hid (R = 8):=HE8.out (by rw [← HFl.out]; rfl)
  go_wp2_with fail
  go_ret
  exact ⟨ret_int HF.out.symm,Bm.of (bstep HB01.out hB3),(HU1.out.later hB3).mono (by omega)⟩
 | true =>
  cases f2 with
  | false =>
   refine wp_region_held_drew (S:=(fun W : World => (W.cell? ⟨w.heap.size,0,none⟩ = some (.slice g.ta g.ts.length g.tc)∧W.cell? ⟨w.heap.size,1,none⟩ = some (.slice g.fa g.fs.length g.fc)∧W.cell? ⟨w.heap.size,2,none⟩ = some (.slice (some ⟨tb,off,none⟩) g.ms.length g.mc)∧W.cell? ⟨w.heap.size,3,none⟩ = some (.int .i64 g.en)∧W.cell? ⟨w.heap.size,4,none⟩ = some (.map (some mm)))∧Mt W w0.heap.size x)) (by kernel_rfl) (HK0.out _ (bdrew _)) (fun hHeld => ?_)
   refine tY 0 opWr0 (.agg #[.string x.nm,.int .i64 x.ow,.int .i64 x.fl,.slice x.pa x.ps.length x.pc,.int .i64 x.rt.1,.int .i64 x.rt.2.1,.int .i64 x.rt.2.2.1,.bool x.rt.2.2.2,.slice x.la x.ls.length x.lc,.int .i64 x.mx,.slice x.ca x.co.length x.cc,.slice x.ka x.cl.length x.kc]) hHeld ?_
   refine tY 1 opWr1 (.pointer (some ⟨w.heap.size,0,none⟩)) hHeld ?_
   refine tY 2 opWr2 (.agg #[.slice g.ta g.ts.length g.tc,.slice g.fa g.fs.length g.fc,.slice (some ⟨tb,off,none⟩) g.ms.length g.mc,.int .i64 g.en]) hHeld ?_
   refine tY 3 opWr3 (.pointer (some ⟨w0.heap.size,1,none⟩)) hHeld ?_
   refine tY 4 opWr4 (.int .i64 x.ow) hHeld ?_
   refine wpAnyH_ready (rs := [5]) (by kernel_rfl) (by simp) ?_
   refine AllReadyH.cons (o:=opWr5) rfl (fun K hK => ?_) AllReadyH.nil
   go_simp
   refine (HKn.out _ (bdrew _)).mono ?_
   rintro e w2 ⟨rfl,hb2⟩
   have hB2 : Below w1.heap.size w1 w2:=bstep (bdrew _) hb2
   try go_wp2_with fail
   refine hK.out _ _ (HK0.out _ hB2) (fun hHeld => ?_)
   clear hK K
   try simp only [Act.put,sA,s0,sS]
   refine wpAnyH_ready (rs := [6]) (by kernel_rfl) (by simp) ?_
   refine AllReadyH.cons (o:=opWr6) rfl (fun K hK => ?_) AllReadyH.nil
   go_simp
   refine (HF1.out _).mono ?_
   rintro e w3 ⟨rfl,hb3⟩
   have hB3 : Below w1.heap.size w1 w3:=bstep hB2 hb3
   try go_wp2_with fail
   refine hK.out _ _ (HK0.out _ hB3) (fun hHeld => ?_)
   clear hK K
   try simp only [Act.put,sA,s0,sS]
   refine tY 7 opWr7 (.bool false) hHeld ?_
   refine tY 8 opWr8 (.bool false) hHeld ?_
   refine tY 9 opWr9 (.agg #[.string x.nm,.int .i64 x.ow,.int .i64 x.fl,.slice x.pa x.ps.length x.pc,.int .i64 x.rt.1,.int .i64 x.rt.2.1,.int .i64 x.rt.2.2.1,.bool x.rt.2.2.2,.slice x.la x.ls.length x.lc,.int .i64 x.mx,.slice x.ca x.co.length x.cc,.slice x.ka x.cl.length x.kc]) hHeld ?_
   refine wpAnyH_ready (rs := [10]) (by kernel_rfl) (by simp) ?_
   refine AllReadyH.cons (o:=opWr10) rfl (fun K hK => ?_) AllReadyH.nil
   go_simp
   refine (HF2.out _).mono ?_
   rintro e w4 ⟨rfl,hb4⟩
   have hB4 : Below w1.heap.size w1 w4:=bstep hB3 hb4
   try go_wp2_with fail
   refine hK.out _ _ (HK0.out _ hB4) (fun hHeld => ?_)
   clear hK K
   try simp only [Act.put,sA,s0,sS]
   refine tY 11 opWr11 (.bool true) hHeld ?_
   refine tY 12 opWr12 (.bool true) hHeld ?_
   refine tY 13 opWr13 (.bool true) hHeld ?_
   refine tN 14 opWr14 hHeld ?_
   refine tN 15 opWr15 hHeld ?_
   refine tN 16 opWr16 hHeld ?_
   refine tN 17 opWr17 hHeld ?_
   refine tN 18 opWr18 hHeld ?_
   refine tY 19 opWr19 (.bool true) hHeld ?_
   refine wpAnyH_done (by kernel_rfl) ?_ _
   have HF : Hid (R = 8):=HE8.out (by rw [← HFl.out]; rfl)
   go_wp2_with fail
   go_ret
   exact ⟨ret_int HF.out.symm,Bm.of (bstep HB01.out hB4),(HU1.out.later hB4).mono (by omega)⟩
  | true =>
   cases f3 with
   | false =>
    refine wp_region_held_drew (S:=(fun W : World => (W.cell? ⟨w.heap.size,0,none⟩ = some (.slice g.ta g.ts.length g.tc)∧W.cell? ⟨w.heap.size,1,none⟩ = some (.slice g.fa g.fs.length g.fc)∧W.cell? ⟨w.heap.size,2,none⟩ = some (.slice (some ⟨tb,off,none⟩) g.ms.length g.mc)∧W.cell? ⟨w.heap.size,3,none⟩ = some (.int .i64 g.en)∧W.cell? ⟨w.heap.size,4,none⟩ = some (.map (some mm)))∧Mt W w0.heap.size x)) (by kernel_rfl) (HK0.out _ (bdrew _)) (fun hHeld => ?_)
    refine tY 0 opWr0 (.agg #[.string x.nm,.int .i64 x.ow,.int .i64 x.fl,.slice x.pa x.ps.length x.pc,.int .i64 x.rt.1,.int .i64 x.rt.2.1,.int .i64 x.rt.2.2.1,.bool x.rt.2.2.2,.slice x.la x.ls.length x.lc,.int .i64 x.mx,.slice x.ca x.co.length x.cc,.slice x.ka x.cl.length x.kc]) hHeld ?_
    refine tY 1 opWr1 (.pointer (some ⟨w.heap.size,0,none⟩)) hHeld ?_
    refine tY 2 opWr2 (.agg #[.slice g.ta g.ts.length g.tc,.slice g.fa g.fs.length g.fc,.slice (some ⟨tb,off,none⟩) g.ms.length g.mc,.int .i64 g.en]) hHeld ?_
    refine tY 3 opWr3 (.pointer (some ⟨w0.heap.size,1,none⟩)) hHeld ?_
    refine tY 4 opWr4 (.int .i64 x.ow) hHeld ?_
    refine wpAnyH_ready (rs := [5]) (by kernel_rfl) (by simp) ?_
    refine AllReadyH.cons (o:=opWr5) rfl (fun K hK => ?_) AllReadyH.nil
    go_simp
    refine (HKn.out _ (bdrew _)).mono ?_
    rintro e w2 ⟨rfl,hb2⟩
    have hB2 : Below w1.heap.size w1 w2:=bstep (bdrew _) hb2
    try go_wp2_with fail
    refine hK.out _ _ (HK0.out _ hB2) (fun hHeld => ?_)
    clear hK K
    try simp only [Act.put,sA,s0,sS]
    refine wpAnyH_ready (rs := [6]) (by kernel_rfl) (by simp) ?_
    refine AllReadyH.cons (o:=opWr6) rfl (fun K hK => ?_) AllReadyH.nil
    go_simp
    refine (HF1.out _).mono ?_
    rintro e w3 ⟨rfl,hb3⟩
    have hB3 : Below w1.heap.size w1 w3:=bstep hB2 hb3
    try go_wp2_with fail
    refine hK.out _ _ (HK0.out _ hB3) (fun hHeld => ?_)
    clear hK K
    try simp only [Act.put,sA,s0,sS]
    refine tY 7 opWr7 (.bool false) hHeld ?_
    refine tY 8 opWr8 (.bool false) hHeld ?_
    refine tY 9 opWr9 (.agg #[.string x.nm,.int .i64 x.ow,.int .i64 x.fl,.slice x.pa x.ps.length x.pc,.int .i64 x.rt.1,.int .i64 x.rt.2.1,.int .i64 x.rt.2.2.1,.bool x.rt.2.2.2,.slice x.la x.ls.length x.lc,.int .i64 x.mx,.slice x.ca x.co.length x.cc,.slice x.ka x.cl.length x.kc]) hHeld ?_
    refine wpAnyH_ready (rs := [10]) (by kernel_rfl) (by simp) ?_
    refine AllReadyH.cons (o:=opWr10) rfl (fun K hK => ?_) AllReadyH.nil
    go_simp
    refine (HF2.out _).mono ?_
    rintro e w4 ⟨rfl,hb4⟩
    have hB4 : Below w1.heap.size w1 w4:=bstep hB3 hb4
    try go_wp2_with fail
    refine hK.out _ _ (HK0.out _ hB4) (fun hHeld => ?_)
    clear hK K
    try simp only [Act.put,sA,s0,sS]
    refine tY 11 opWr11 (.bool false) hHeld ?_
    refine tY 12 opWr12 (.bool false) hHeld ?_
    refine tY 13 opWr13 (.bool false) hHeld ?_
    refine tY 14 opWr14 (.pointer (some ⟨w.heap.size,0,none⟩)) hHeld ?_
    refine tY 15 opWr15 (.agg #[.slice g.ta g.ts.length g.tc,.slice g.fa g.fs.length g.fc,.slice (some ⟨tb,off,none⟩) g.ms.length g.mc,.int .i64 g.en]) hHeld ?_
    refine tY 16 opWr16 (.agg #[.string x.nm,.int .i64 x.ow,.int .i64 x.fl,.slice x.pa x.ps.length x.pc,.int .i64 x.rt.1,.int .i64 x.rt.2.1,.int .i64 x.rt.2.2.1,.bool x.rt.2.2.2,.slice x.la x.ls.length x.lc,.int .i64 x.mx,.slice x.ca x.co.length x.cc,.slice x.ka x.cl.length x.kc]) hHeld ?_
    refine wpAnyH_ready (rs := [17]) (by kernel_rfl) (by simp) ?_
    refine AllReadyH.cons (o:=opWr17) rfl (fun K hK => ?_) AllReadyH.nil
    go_simp
    refine (HF3.out _ hB4).mono ?_
    rintro e w5 ⟨rfl,hb5⟩
    have hB5 : Below w1.heap.size w1 w5:=bstep hB4 hb5
    try go_wp2_with fail
    refine hK.out _ _ (HK0.out _ hB5) (fun hHeld => ?_)
    clear hK K
    try simp only [Act.put,sA,s0,sS]
    refine tY 18 opWr18 (.bool true) hHeld ?_
    refine tY 19 opWr19 (.bool true) hHeld ?_
    refine wpAnyH_done (by kernel_rfl) ?_ _
    have HF : Hid (R = 8):=HE8.out (by rw [← HFl.out]; rfl)
    go_wp2_with fail
    go_ret
    exact ⟨ret_int HF.out.symm,Bm.of (bstep HB01.out hB5),(HU1.out.later hB5).mono (by omega)⟩
   | true =>
    have hfm : fm = true:=by rw [← HFl.out]; rfl
    subst hfm
    refine wp_region_held_drew (S:=(fun W : World => (W.cell? ⟨w.heap.size,0,none⟩ = some (.slice g.ta g.ts.length g.tc)∧W.cell? ⟨w.heap.size,1,none⟩ = some (.slice g.fa g.fs.length g.fc)∧W.cell? ⟨w.heap.size,2,none⟩ = some (.slice (some ⟨tb,off,none⟩) g.ms.length g.mc)∧W.cell? ⟨w.heap.size,3,none⟩ = some (.int .i64 g.en)∧W.cell? ⟨w.heap.size,4,none⟩ = some (.map (some mm)))∧Mt W w0.heap.size x)) (by kernel_rfl) (HK0.out _ (bdrew _)) (fun hHeld => ?_)
    refine tY 0 opWr0 (.agg #[.string x.nm,.int .i64 x.ow,.int .i64 x.fl,.slice x.pa x.ps.length x.pc,.int .i64 x.rt.1,.int .i64 x.rt.2.1,.int .i64 x.rt.2.2.1,.bool x.rt.2.2.2,.slice x.la x.ls.length x.lc,.int .i64 x.mx,.slice x.ca x.co.length x.cc,.slice x.ka x.cl.length x.kc]) hHeld ?_
    refine tY 1 opWr1 (.pointer (some ⟨w.heap.size,0,none⟩)) hHeld ?_
    refine tY 2 opWr2 (.agg #[.slice g.ta g.ts.length g.tc,.slice g.fa g.fs.length g.fc,.slice (some ⟨tb,off,none⟩) g.ms.length g.mc,.int .i64 g.en]) hHeld ?_
    refine tY 3 opWr3 (.pointer (some ⟨w0.heap.size,1,none⟩)) hHeld ?_
    refine tY 4 opWr4 (.int .i64 x.ow) hHeld ?_
    refine wpAnyH_ready (rs := [5]) (by kernel_rfl) (by simp) ?_
    refine AllReadyH.cons (o:=opWr5) rfl (fun K hK => ?_) AllReadyH.nil
    go_simp
    refine (HKn.out _ (bdrew _)).mono ?_
    rintro e w2 ⟨rfl,hb2⟩
    have hB2 : Below w1.heap.size w1 w2:=bstep (bdrew _) hb2
    try go_wp2_with fail
    refine hK.out _ _ (HK0.out _ hB2) (fun hHeld => ?_)
    clear hK K
    try simp only [Act.put,sA,s0,sS]
    refine wpAnyH_ready (rs := [6]) (by kernel_rfl) (by simp) ?_
    refine AllReadyH.cons (o:=opWr6) rfl (fun K hK => ?_) AllReadyH.nil
    go_simp
    refine (HF1.out _).mono ?_
    rintro e w3 ⟨rfl,hb3⟩
    have hB3 : Below w1.heap.size w1 w3:=bstep hB2 hb3
    try go_wp2_with fail
    refine hK.out _ _ (HK0.out _ hB3) (fun hHeld => ?_)
    clear hK K
    try simp only [Act.put,sA,s0,sS]
    refine tY 7 opWr7 (.bool false) hHeld ?_
    refine tY 8 opWr8 (.bool false) hHeld ?_
    refine tY 9 opWr9 (.agg #[.string x.nm,.int .i64 x.ow,.int .i64 x.fl,.slice x.pa x.ps.length x.pc,.int .i64 x.rt.1,.int .i64 x.rt.2.1,.int .i64 x.rt.2.2.1,.bool x.rt.2.2.2,.slice x.la x.ls.length x.lc,.int .i64 x.mx,.slice x.ca x.co.length x.cc,.slice x.ka x.cl.length x.kc]) hHeld ?_
    refine wpAnyH_ready (rs := [10]) (by kernel_rfl) (by simp) ?_
    refine AllReadyH.cons (o:=opWr10) rfl (fun K hK => ?_) AllReadyH.nil
    go_simp
    refine (HF2.out _).mono ?_
    rintro e w4 ⟨rfl,hb4⟩
    have hB4 : Below w1.heap.size w1 w4:=bstep hB3 hb4
    try go_wp2_with fail
    refine hK.out _ _ (HK0.out _ hB4) (fun hHeld => ?_)
    clear hK K
    try simp only [Act.put,sA,s0,sS]
    refine tY 11 opWr11 (.bool false) hHeld ?_
    refine tY 12 opWr12 (.bool false) hHeld ?_
    refine tY 13 opWr13 (.bool false) hHeld ?_
    refine tY 14 opWr14 (.pointer (some ⟨w.heap.size,0,none⟩)) hHeld ?_
    refine tY 15 opWr15 (.agg #[.slice g.ta g.ts.length g.tc,.slice g.fa g.fs.length g.fc,.slice (some ⟨tb,off,none⟩) g.ms.length g.mc,.int .i64 g.en]) hHeld ?_
    refine tY 16 opWr16 (.agg #[.string x.nm,.int .i64 x.ow,.int .i64 x.fl,.slice x.pa x.ps.length x.pc,.int .i64 x.rt.1,.int .i64 x.rt.2.1,.int .i64 x.rt.2.2.1,.bool x.rt.2.2.2,.slice x.la x.ls.length x.lc,.int .i64 x.mx,.slice x.ca x.co.length x.cc,.slice x.ka x.cl.length x.kc]) hHeld ?_
    refine wpAnyH_ready (rs := [17]) (by kernel_rfl) (by simp) ?_
    refine AllReadyH.cons (o:=opWr17) rfl (fun K hK => ?_) AllReadyH.nil
    go_simp
    refine (HF3.out _ hB4).mono ?_
    rintro e w5 ⟨rfl,hb5⟩
    have hB5 : Below w1.heap.size w1 w5:=bstep hB4 hb5
    try go_wp2_with fail
    refine hK.out _ _ (HK0.out _ hB5) (fun hHeld => ?_)
    clear hK K
    try simp only [Act.put,sA,s0,sS]
    refine tY 18 opWr18 (.bool false) hHeld ?_
    refine tY 19 opWr19 (.bool false) hHeld ?_
    refine wpAnyH_done (by kernel_rfl) ?_ _
    have HB5 : Hid (Below w1.heap.size w1 w5):=hB5
    clear hb2 hB2 hb3 hB3 hb4 hB4 hb5 hB5 HF1 HF2 HF3 HKn HE8
    obtain ⟨⟨c0,c1,c2,c3,c4⟩,k0,k1,k2,k3,k4,k5,k6,k7,k8,k9,k10,k11⟩:=HK0.out w5 HB5.out
    go_wp2_with fail
    refine Calls.mono (HTy.out w5 HB5.out) ?_
    rintro e w6 ⟨tv,rfl,ht6,hb6⟩
    have hB6 : Below w1.heap.size w1 w6:=bstep HB5.out hb6
    have HB6 : Hid (Bm mm w w6):=Bm.of (bstep HB01.out hB6)
    have HA6 : Hid (At w6 w.heap.size (usA g mm) 69):=HA1.out.later hB6
    have HU6 : Hid (UM w6 mm g c):=HU1.out.later hB6
    obtain ⟨ta,tc,htv,_,htc⟩:=ht6.shape
    have HO6 : Hid (OwnE tyE w6 w5.heap.size 51 (.slice ta T.length tc) T):=by rw [← htv]; exact ht6
    have HM5 : Hid (mm < w5.heap.size):=Nat.lt_of_lt_of_le HMM.out (Nat.le_trans HB01.out.size HB5.out.size)
    subst htv
    unfold maxLen at htc
    clear ht6 hb6 hB6 c0 c1 c2 c3 c4 k0 k1 k2 k3 k4 k5 k6 k7 k8 k9 k10 k11 HTy HK0 HA1 HU1
    go_wp2_with fail
    go_loopw [7,37] (fun _ z wr => ∃ i : Nat,i ≤ T.length∧z = .int .i64 i∧Hid (Bm mm w6 wr)∧Hid (UM wr mm g (c + i))∧Hid (∀ t ∈ T.take i,usdB g t = true)) (fun _ z _ => T.length - (intOf z).toNat)
    case atStart => exact ⟨0,Nat.zero_le _,rfl,Bm.refl _ _,HU6.out,(show ∀ t ∈ _,_ from by simp)⟩
    case round =>
     obtain ⟨i,hil0,rfl,HB,HU,HG⟩:=hrel
     by_cases hil : i < T.length
     ·have hii : (i : Int) < (T.length : Int):=by omega
      have hOr : OwnE tyE wr w5.heap.size 51 (.slice ta T.length tc) T:=HO6.out.of_block fun j hj hlt => HB.out.block j hlt (by have:=(HO6.out.block j hj).1; have:=HM5.out; omega)
      obtain ⟨lb,loff,lcap,hla,_,hcm,hlb,hcc⟩:=hOr.es.parts (by intro e; rw [e] at hil; simp at hil)
      simp only [Value.slice.injEq] at hla
      obtain ⟨hla, -,hlc⟩:=hla
      obtain ⟨y0,y1,y2,y3⟩:=(show El tyE wr lb (loff + i * 4) T[i] from hcc i hil).cells_Y
      have hAr:=HA6.out.bm HB.out (Nat.ne_of_gt HMM.out)
      obtain ⟨wA,hwA⟩ : ∃ W,W = wr.alloc (.cells #[.int .i64 T[i].1,.int .i64 T[i].2.1,.int .i64 T[i].2.2.1,.bool T[i].2.2.2] 51):=⟨_,rfl⟩
      have HWA : Hid (wA = _):=hwA
      have hbA : Below wr.heap.size wr wA:=by rw [hwA]; exact made_below _ _ _
      have hAA : At wA wr.heap.size #[.int .i64 T[i].1,.int .i64 T[i].2.1,.int .i64 T[i].2.2.1,.bool T[i].2.2.2] 51:=by rw [hwA]; exact At.made _ _ _
      obtain ⟨c0,c1,c2,c3,c4⟩:=Us5.of (hAr.later hbA)
      rw [HME.out] at c2
      have a0:=hAA.cell 0
      have a1:=hAA.cell 1
      have a2:=hAA.cell 2
      have a3:=hAA.cell 3
      simp at a0 a1 a2 a3
      have HBA : Hid (Bm mm w6 wA):=HB.out.trans (Bm.of hbA)
      have HUq : Hid _:=HUs.out wA (c + i) T[i] (HB6.out.trans HBA.out) (HU.out.later hbA) (by omega) (HPl.out _ (List.getElem_mem hil))
      have HBd : Hid (usdB g T[i] = false → R = 10):=fun h => HE10.out (by trivial) i hil h
      have HGd : Hid (usdB g T[i] = true → ∀ t ∈ T.take (i + 1),usdB g t = true):=fun h t ht => by
       rw [List.take_succ_eq_append_getElem hil] at ht
       rcases List.mem_append.1 ht with ht | ht
       ·exact HG.out t ht
       ·simp at ht; subst ht; exact h
      subst hla
      clear hOr hlc hcc hAr hwA hbA hAA HB HU HG
      generalize usdB g T[i] = ub at *
      generalize T[i] = y at *
      unfold maxLen at hcm
      go_wp2_with (rw [← HWA.out])
      refine Calls.mono HUq.out ?_
      rintro e w7 ⟨rfl,hb7,hu7⟩
      have HB7 : Hid (Bm mm w6 w7):=HBA.out.trans hb7
      have HU7 : Hid (UM w7 mm g (c + i + 1)):=hu7
      clear hb7 hu7 c0 c1 c2 c3 c4 a0 a1 a2 a3 y0 y1 y2 y3 HUq HWA HBA
      cases ub with
      | false =>
       have HF : Hid (R = 10):=HBd.out (by trivial)
       go_wp2_with fail
       go_ret
       exact ⟨ret_int HF.out.symm,HB6.out.trans HB7.out,HU7.out.mono (by omega)⟩
      | true =>
       have HG2 : Hid _:=HGd.out (by trivial)
       go_wp2_with fail
       go_roundw
       case rel => exact ⟨i + 1,by omega,by go_num,HB7.out,HU7.out,HG2.out⟩
       case measure => simp [intOf]; omega
     ·have hii : ¬ (i : Int) < (T.length : Int):=by omega
      have HF : Hid (R = 0):=HE0.out (by trivial) (fun t ht => HG.out t (by rw [List.take_of_length_le (by omega)]; exact ht))
      go_wp2_with fail
      go_ret
      exact ⟨ret_int HF.out.symm,HB6.out.trans HB.out,HU.out.mono (by omega)⟩
end Go.Proofs.YthpmpdpfnlecmaaGreat
