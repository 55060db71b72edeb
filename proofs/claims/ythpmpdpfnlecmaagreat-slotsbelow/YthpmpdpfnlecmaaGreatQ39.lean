/- Texts joined: Slot13, Sort11. -/
import Derived.Test.YthpmpdpfnlecmaaGreatQ28
import Derived.Test.YthpmpdpfnlecmaaGreatQ38
import Derived.Shelf.Sort.Plain
import Derived.Shelf.Slices.In.SortNone
import Derived.Test.YthpmpdpfnlecmaaGreatRows
namespace Go.Proofs.YthpmpdpfnlecmaaGreat
set_option linter.unusedVariables false
set_option linter.unusedSimpArgs false
open Go.RowKit
attribute [local go_sem ↓] Go.wp_at_zero Go.wp_at_succ
set_option maxHeartbeats 1000000 in
theorem fieldsWell_any {g : Img} {w : World} (hg : Im w g) : Ans 44 #[imA4 g] w (.bool (finB g)):=by
 obtain ⟨w0,HW0,HB0,HG,HC,HI,c0,c1,c2,c3⟩:=img_head hg
 have HCk : Hid (Ans 77 #[imA4 g] w0 (.tuple #[.int .i64 (lchI g).1,.int .i64 (lchI g).2])):=check12_any (HI.out w0 (Below.refl _ _))
 have HF : Hid (((lchI g).2 == 0) = finB g):=fin_eq
 unfold imA4 at HCk ⊢
 clear hg HC
 generalize (lchI g).1 = k1 at *
 generalize (lchI g).2 = k2 at *
 go_enter Tryz.func44,Tryz.ntmps44
 go_wp2_with (rw [← HW0.out])
 refine Calls.mono HCk.out ?_
 rintro e w1 ⟨rfl,hb1⟩
 have HB1 : Hid (Below w0.heap.size w0 w1):=hb1
 clear hb1 c0 c1 c2 c3 HCk
 go_wp2
 all_goals go_ret
 all_goals exact ⟨ret_bool (by rw [← HF.out]),bstep HB0.out HB1.out⟩

set_option maxHeartbeats 1000000 in
theorem isMethod_any13 {g : Img} (m : Int) {w : World} (hg : Im w g) : Ans 56 #[imA4 g,.int .i64 m] w (.bool (numB m g.ms.length)):=by
 obtain ⟨w0,HW0,HB0,HG,HC,HI,c0,c1,c2,c3⟩:=img_head hg
 have htl:=hg.ms.len
 unfold maxLen at htl
 unfold imA4
 clear hg HC HI HG
 go_enter Tryz.func56,Tryz.ntmps56
 go_wp2_with (rw [← HW0.out])
 all_goals go_ret
 all_goals refine ⟨ret_bool ?_,HB0.out⟩
 all_goals (unfold numB; rw [Bool.eq_iff_iff]; simp; try omega)

set_option maxHeartbeats 1000000 in
theorem slotOfT_any {g : Img} {m : Int} {mv : Value} {L : List Int} {w : World} (hL : Is w mv L) : Ans 95 #[tbV g mv,.int .i64 m] w (.int .i64 (ixI L m)):=by
 obtain ⟨w0,hw0⟩ : ∃ W,W = w.alloc (.cells (tbC g mv) 77):=⟨_,rfl⟩
 have HW0 : Hid (w0 = _):=hw0
 have hb0 : Below w.heap.size w w0:=by rw [hw0]; exact made_below _ _ _
 have HB0 : Hid (Below w.heap.size w w0):=hb0
 have hat : At w0 w.heap.size (tbC g mv) 77:=by rw [hw0]; exact At.made _ _ _
 have HIx : Hid (Calls Tryz.prog 69 #[mv,.int .i64 m] w0 fun e w' => e = .returned (.int .i64 (ixI L m))∧w' = w0):=index13_any (hL.later hb0) m
 obtain ⟨ma,mc,hmv,_,_⟩:=hL.shape
 subst hmv
 obtain ⟨c0,c1,c2,c3,c4⟩:=Tb5.of hat
 unfold tbC at HW0
 clear hw0 hb0 hat hL
 generalize ixI L m = R at *
 unfold tbV
 go_enter Tryz.func95,Tryz.ntmps95
 go_wp2_with (rw [← HW0.out])
 refine Calls.mono HIx.out ?_
 rintro e w1 ⟨rfl,hz⟩
 subst hz
 clear c0 c1 c2 c3 c4 HIx
 go_wp2_with fail
 go_ret
 exact ⟨rfl,HB0.out⟩

theorem img_mth_head {w : World} {g : Img} (hg : Im w g) {k : Nat} (hk : k < g.ms.length) : ∃ w0 tb off,g.ma = some ⟨tb,off,none⟩∧g.ms.length ≤ g.mc∧g.mc ≤ maxLen∧Hid (w0 = w.alloc (.cells #[.slice g.ta g.ts.length g.tc,.slice g.fa g.fs.length g.fc,.slice (some ⟨tb,off,none⟩) g.ms.length g.mc,.int .i64 g.en] 26))∧Hid (Below w.heap.size w w0) ∧
  Hid (∀ W,Below w0.heap.size w0 W → (W.cell? ⟨w.heap.size,0,none⟩ = some (.slice g.ta g.ts.length g.tc)∧W.cell? ⟨w.heap.size,1,none⟩ = some (.slice g.fa g.fs.length g.fc)∧W.cell? ⟨w.heap.size,2,none⟩ = some (.slice (some ⟨tb,off,none⟩) g.ms.length g.mc)∧W.cell? ⟨w.heap.size,3,none⟩ = some (.int .i64 g.en))∧MtA W tb (off + k * 12) g.ms[k])∧Hid (∀ W,Below w0.heap.size w0 W → Im W g)∧Hid (GB w0 w.heap.size g):=by
 obtain ⟨w0,HW0,HB0,HG,HC,HI,_⟩:=img_head hg
 obtain ⟨tb,off,hma,h1,h2,hc⟩:=(HI.out w0 (Below.refl _ _)).mth hk
 refine ⟨w0,tb,off,hma,h1,h2, ?_,HB0,fun W hW => ⟨?_,hc W hW k hk⟩,HI,HG⟩
 ·have:=HW0.out
  rw [hma] at this; exact this
 ·have:=HC.out W hW
  unfold Im4 at this
  rw [hma] at this; exact this

set_option maxHeartbeats 4000000 in
set_option maxRecDepth 20000 in
theorem slotOf13_any {g : Img} {m : Int} {w : World} (hg : Im w g) (hw : welB g = true) (hm : mNum g m) : Ans 57 #[imA4 g,.int .i64 m] w (.int .i64 (sloI g m)):=by
 obtain ⟨k,hk,rfl⟩:=mNum_at hm
 obtain ⟨w0,tb,off,hma,h1,h2,HW0,HB0,HK,HI,HG⟩:=img_mth_head hg hk
 have hn:=mow_num (Wel.of hw).im hm
 have HTb : Hid (∀ W,Below w0.heap.size w0 W → Calls Tryz.prog 55 #[imA4 g,.int .i64 g.ms[k].ow] W fun e w' => ∃ v,e = .returned (tbV g v)∧OwnI w' W.heap.size v (tabL g g.ms[k].ow)∧Below W.heap.size W w'):=fun W hW => tableOf_any hw (by rw [mowI_at hk] at hn; exact hn) (HI.out W hW)
 have HSl : Hid (∀ W v,Is W v (tabL g g.ms[k].ow) → Ans 95 #[tbV g v,.int .i64 k] W (.int .i64 (sloI g (k : Int)))):=fun W v hv => by
  have:=slotOfT_any (g:=g) (m:=(k : Int)) hv
  unfold sloI
  rw [mowI_at hk]; exact this
 have hki : (k : Int) < (g.ms.length : Int):=by omega
 obtain ⟨⟨c0,c1,c2,c3⟩,_⟩:=HK.out w0 (Below.refl _ _)
 unfold maxLen at h2
 unfold imA4 at HTb ⊢
 unfold tbV at HTb HSl
 rw [hma] at HTb HSl ⊢
 clear hg hw hm hn hma HI HG
 generalize tabL g g.ms[k].ow = T at *
 generalize sloI g (k : Int) = R at *
 generalize g.ms[k] = x at *
 go_enter Tryz.func57,Tryz.ntmps57
 go_wp2_with (rw [← HW0.out])
 go_region_held3 (fun W : World => (W.cell? ⟨w.heap.size,0,none⟩ = some (.slice g.ta g.ts.length g.tc)∧W.cell? ⟨w.heap.size,1,none⟩ = some (.slice g.fa g.fs.length g.fc)∧W.cell? ⟨w.heap.size,2,none⟩ = some (.slice (some ⟨tb,off,none⟩) g.ms.length g.mc)∧W.cell? ⟨w.heap.size,3,none⟩ = some (.int .i64 g.en))∧MtA W tb (off + k * 12) x)
  (first | (exact HK.out _ hB2) | (exact HK.out _ hB1) | (exact HK.out _ (bdrew _)))
  (first | (go_at_call 55; refine (HTb.out _ (bdrew _)).mono ?_; rintro e w1 ⟨v,rfl,ho1,hz1⟩; have hB1 : Below w0.heap.size w0 w1:=bstep (bdrew _) hz1; obtain ⟨va,vc,hv,_,_⟩:=ho1.is.shape; subst hv) | (go_at_call 95; refine (HSl.out _ _ ho1.is).mono ?_; rintro e w2 ⟨rfl,hz2⟩; have hB2 : Below w0.heap.size w0 w2:=bstep hB1 hz2))
 rename_i hheld
 clear hheld
 have HB2 : Hid (Below w0.heap.size w0 w2):=hB2
 clear hz1 hz2 hB1 hB2 ho1 c0 c1 c2 c3
 go_wp2_with fail
 go_ret
 exact ⟨rfl,bstep HB0.out HB2.out⟩

theorem field_tb (W : World) (x0 x1 x2 x3 : Value) (va : Option Addr) (n vc : Nat) : (Instr.field 77 (.agg #[x0,x1,x2,x3,.slice va n vc]) 1).run Tryz.prog W = .ok (.slice va n vc) W:=by
 simp [Instr.field,run_underlying Tryz.underlying77,go_sem]
 rfl
def tab13 (g : Img) (t : Int) : List Int:=if finB g = true then (if kndI g t = 0 then tabL g t else []) else []
def slo13 (g : Img) (m : Int) : Int:=if finB g = true then (if numB m g.ms.length = true then (if kndI g (mowI g m) = 0 then sloI g m else -1) else -1) else -1

set_option maxHeartbeats 2000000 in
theorem table13_any {g : Img} {t : Int} {w : World} (hg : Im w g) : Calls Tryz.prog 24 #[imA4 g,.int .i64 t] w fun e w' => ∃ v,e = .returned v∧OwnI w' w.heap.size v (tab13 g t)∧Below w.heap.size w w':=by
 obtain ⟨w0,HW0,HB0,HG,HC,HI,c0,c1,c2,c3⟩:=img_head hg
 have HFw : Hid (Ans 44 #[imA4 g] w0 (.bool (finB g))):=fieldsWell_any (HI.out w0 (Below.refl _ _))
 have HKn : Hid (∀ W,Below w0.heap.size w0 W → finB g = true → Ans 16 #[imA4 g,.int .i64 t] W (.int .i64 (kndI g t))):=fun W hW hf => kind_any t (HI.out W hW) (FlOk.of (Wel.of (Fin_.of hf).wel).im)
 have HTb : Hid (∀ W,Below w0.heap.size w0 W → finB g = true → kndI g t = 0 → Calls Tryz.prog 55 #[imA4 g,.int .i64 t] W fun e w' => ∃ v,e = .returned (tbV g v)∧OwnI w' W.heap.size v (tabL g t)∧Below W.heap.size W w'):=fun W hW hf hk => tableOf_any (Fin_.of hf).wel (knd_num (by rw [hk]; decide)) (HI.out W hW)
 have HR : Hid (tab13 g t = if finB g = true then (if kndI g t = 0 then tabL g t else []) else []):=rfl
 have HCl : Hid (∀ W,Below w0.heap.size w0 W → Im4 W w.heap.size g):=HC.out
 unfold imA4 at HFw HKn HTb ⊢
 unfold tbV at HTb
 clear hg HI HC HG
 generalize tab13 g t = R at *
 generalize tabL g t = T at *
 generalize finB g = b1 at *
 generalize kndI g t = kn at *
 have hfl:=field_tb
 go_enter Tryz.func24,Tryz.ntmps24
 go_wp2_with (rw [← HW0.out])
 refine Calls.mono HFw.out ?_
 rintro e w1 ⟨rfl,hb1⟩
 have HB1 : Hid (Below w0.heap.size w0 w1):=hb1
 clear hb1 c0 c1 c2 c3 HFw
 obtain ⟨c0,c1,c2,c3⟩:=HCl.out w1 HB1.out
 cases b1 with
 | false =>
  have HR2 : Hid (R = []):=by show _ = _; rw [HR.out]; rfl
  go_wp2_with fail
  go_ret
  exact ⟨_,rfl,by rw [HR2.out]; exact OwnI.nil _ _,bstep HB0.out HB1.out⟩
 | true =>
  go_wp2_with fail
  refine Calls.mono (HKn.out w1 HB1.out (by trivial)) ?_
  rintro e w2 ⟨rfl,hb2⟩
  have HB2 : Hid (Below w0.heap.size w0 w2):=bstep HB1.out hb2
  clear hb2 c0 c1 c2 c3
  obtain ⟨c0,c1,c2,c3⟩:=HCl.out w2 HB2.out
  by_cases hk : kn = 0
  ·subst hk
   have HR2 : Hid (R = T):=by show _ = _; rw [HR.out]; rfl
   go_wp2_with fail
   refine Calls.mono (HTb.out w2 HB2.out (by trivial) (by trivial)) ?_
   rintro e w3 ⟨v,rfl,ho,hb3⟩
   obtain ⟨va,vc,hv,_,_⟩:=ho.is.shape
   subst hv
   have HB3 : Hid (Below w0.heap.size w0 w3):=bstep HB2.out hb3
   have HO : Hid (OwnI w3 w2.heap.size (.slice va T.length vc) T):=ho
   clear hb3 ho c0 c1 c2 c3
   go_wp2_with fail
   go_ret
   exact ⟨_,rfl,by rw [HR2.out]; exact HO.out.mono (Nat.le_trans HB0.out.size HB2.out.size),bstep HB0.out HB3.out⟩
  ·have hkb : (kn != 0) = true:=by simpa using hk
   have HR2 : Hid (R = []):=by show _ = _; rw [HR.out,if_pos (by trivial),if_neg hk]
   clear hk
   go_wp2_with fail
   go_ret
   exact ⟨_,rfl,by rw [HR2.out]; exact OwnI.nil _ _,bstep HB0.out HB2.out⟩

abbrev opSl0 : Oper := { dst:=some 5,op:=Op.load 26 (Operand.tmp 2),type := 26,pos := "slots.go:33",after:=#[],guard:=none }
abbrev opSl1 : Oper := { dst:=some 6,op:=Op.call { callee:=Callee.value (Operand.func 44),args:=#[Operand.tmp 5],argTypes:=#[26] },type := 4,pos := "slots.go:33",after:=#[{ on := 0,ground:=Ground.data }],guard:=none }
abbrev opSl2 : Oper := { dst:=some 7,op:=Op.unOp UnOp.not 4 (Operand.tmp 6),type := 4,pos := "slots.go:33",after:=#[{ on := 1,ground:=Ground.data }],guard:=none }
abbrev opSl3 : Oper := { dst:=some 8,op:=Op.move (Operand.tmp 7),type := 4,pos := "slots.go:33",after:=#[{ on := 2,ground:=Ground.data }, { on := 1,ground:=Ground.chain }],guard:=none }
abbrev opSl4 : Oper := { dst:=some 9,op:=Op.load 26 (Operand.tmp 2),type := 26,pos := "slots.go:33",after:=#[{ on := 3,ground:=Ground.guard }],guard:=some (3,false) }
abbrev opSl5 : Oper := { dst:=some 10,op:=Op.move (Operand.tmp 1),type := 3,pos := "slots.go:33",after:=#[{ on := 3,ground:=Ground.guard }],guard:=some (3,false) }
abbrev opSl6 : Oper := { dst:=some 11,op:=Op.call { callee:=Callee.value (Operand.func 56),args:=#[Operand.tmp 9,Operand.tmp 10],argTypes:=#[26,3] },type := 4,pos := "slots.go:33",after:=#[{ on := 4,ground:=Ground.data }, { on := 5,ground:=Ground.data }, { on := 3,ground:=Ground.chain }, { on := 3,ground:=Ground.guard }],guard:=some (3,false) }
abbrev opSl7 : Oper := { dst:=some 12,op:=Op.unOp UnOp.not 4 (Operand.tmp 11),type := 4,pos := "slots.go:33",after:=#[{ on := 6,ground:=Ground.data }, { on := 3,ground:=Ground.guard }],guard:=some (3,false) }
abbrev opSl8 : Oper := { dst:=some 13,op:=Op.pick (Operand.tmp 8) (Operand.const (Value.bool true)) (Operand.tmp 12),type := 4,pos := "slots.go:33",after:=#[{ on := 3,ground:=Ground.data }, { on := 7,ground:=Ground.data }],guard:=none }
abbrev opSl9 : Oper := { dst:=some 14,op:=Op.move (Operand.tmp 13),type := 4,pos := "slots.go:33",after:=#[{ on := 8,ground:=Ground.data }, { on := 6,ground:=Ground.chain }],guard:=none }
abbrev opSl10 : Oper := { dst:=some 15,op:=Op.load 26 (Operand.tmp 2),type := 26,pos := "slots.go:33",after:=#[{ on := 9,ground:=Ground.guard }],guard:=some (9,false) }
abbrev opSl11 : Oper := { dst:=some 16,op:=Op.fieldAddr 26 (Operand.tmp 2) 2,type := 0,pos := "slots.go:33",after:=#[{ on := 9,ground:=Ground.guard }],guard:=some (9,false) }
abbrev opSl12 : Oper := { dst:=some 17,op:=Op.load 24 (Operand.tmp 16),type := 24,pos := "slots.go:33",after:=#[{ on := 11,ground:=Ground.data }, { on := 9,ground:=Ground.guard }],guard:=some (9,false) }
abbrev opSl13 : Oper := { dst:=some 18,op:=Op.move (Operand.tmp 1),type := 3,pos := "slots.go:33",after:=#[{ on := 9,ground:=Ground.guard }],guard:=some (9,false) }
abbrev opSl14 : Oper := { dst:=some 19,op:=Op.indexAddr 24 (Operand.tmp 17) (Operand.tmp 18),type := 0,pos := "slots.go:33",after:=#[{ on := 12,ground:=Ground.data }, { on := 13,ground:=Ground.data }, { on := 9,ground:=Ground.guard }],guard:=some (9,false) }
abbrev opSl15 : Oper := { dst:=some 20,op:=Op.fieldAddr 55 (Operand.tmp 19) 1,type := 0,pos := "slots.go:33",after:=#[{ on := 14,ground:=Ground.data }, { on := 9,ground:=Ground.guard }],guard:=some (9,false) }
abbrev opSl16 : Oper := { dst:=some 21,op:=Op.load 3 (Operand.tmp 20),type := 3,pos := "slots.go:33",after:=#[{ on := 15,ground:=Ground.data }, { on := 9,ground:=Ground.guard }],guard:=some (9,false) }
abbrev opSl17 : Oper := { dst:=some 22,op:=Op.call { callee:=Callee.value (Operand.func 16),args:=#[Operand.tmp 15,Operand.tmp 21],argTypes:=#[26,3] },type := 3,pos := "slots.go:33",after:=#[{ on := 10,ground:=Ground.data }, { on := 16,ground:=Ground.data }, { on := 9,ground:=Ground.chain }, { on := 9,ground:=Ground.guard }],guard:=some (9,false) }
abbrev opSl18 : Oper := { dst:=some 23,op:=Op.binOp BinOp.neq 3 (Operand.tmp 22) (Operand.const (Value.int IntKind.i64 0)) 3,type := 4,pos := "slots.go:33",after:=#[{ on := 17,ground:=Ground.data }, { on := 9,ground:=Ground.guard }],guard:=some (9,false) }
abbrev opSl19 : Oper := { dst:=some 24,op:=Op.pick (Operand.tmp 14) (Operand.const (Value.bool true)) (Operand.tmp 23),type := 4,pos := "slots.go:33",after:=#[{ on := 9,ground:=Ground.data }, { on := 18,ground:=Ground.data }],guard:=none }
set_option maxHeartbeats 8000000 in
set_option maxRecDepth 20000 in
theorem slot13_out {g : Img} {m : Int} {w : World} (hg : Im w g) (hm : ¬ (finB g = true∧numB m g.ms.length = true)) : Ans 25 #[imA4 g,.int .i64 m] w (.int .i64 (-1)):=by
 obtain ⟨w0,HW0,HB0,HG,HC,HI,c0,c1,c2,c3⟩:=img_head hg
 have HFw : Hid (∀ W,Below w0.heap.size w0 W → Ans 44 #[imA4 g] W (.bool (finB g))):=fun W hW => fieldsWell_any (HI.out W hW)
 have HIm : Hid (∀ W,Below w0.heap.size w0 W → Ans 56 #[imA4 g,.int .i64 m] W (.bool (numB m g.ms.length))):=fun W hW => isMethod_any13 m (HI.out W hW)
 have HK : Hid (∀ W,Below w0.heap.size w0 W → Im4 W w.heap.size g):=HC.out
 unfold imA4 at HFw HIm ⊢
 unfold Im4 at HK
 clear hg HI HC HG c0 c1 c2 c3
 generalize finB g = b1 at *
 generalize numB m g.ms.length = b2 at *
 go_enter Tryz.func25,Tryz.ntmps25
 go_wp2_with (rw [← HW0.out])
 cases b1 with
 | false =>
  clear hm
  refine wp_region_held_drew (S:=(fun W : World => (W.cell? ⟨w.heap.size,0,none⟩ = some (.slice g.ta g.ts.length g.tc)∧W.cell? ⟨w.heap.size,1,none⟩ = some (.slice g.fa g.fs.length g.fc)∧W.cell? ⟨w.heap.size,2,none⟩ = some (.slice g.ma g.ms.length g.mc)∧W.cell? ⟨w.heap.size,3,none⟩ = some (.int .i64 g.en)))) (by kernel_rfl) (HK.out _ (bdrew _)) (fun hHeld => ?_)
  refine tY 0 opSl0 (.agg #[.slice g.ta g.ts.length g.tc,.slice g.fa g.fs.length g.fc,.slice g.ma g.ms.length g.mc,.int .i64 g.en]) hHeld ?_
  refine wpAnyH_ready (rs := [1]) (by kernel_rfl) (by simp) ?_
  refine AllReadyH.cons (o:=opSl1) rfl (fun K hK => ?_) AllReadyH.nil
  go_simp
  refine (HFw.out _ (bdrew _)).mono ?_
  rintro e w1 ⟨rfl,hb1⟩
  have hB1 : Below w0.heap.size w0 w1:=bstep (bdrew _) hb1
  try go_wp2_with fail
  refine hK.out _ _ (HK.out _ hB1) (fun hHeld => ?_)
  clear hK K
  try simp only [Act.put,sA,s0,sS]
  refine tY 2 opSl2 (.bool true) hHeld ?_
  refine tY 3 opSl3 (.bool true) hHeld ?_
  refine tN 4 opSl4 hHeld ?_
  refine tN 5 opSl5 hHeld ?_
  refine tN 6 opSl6 hHeld ?_
  refine tN 7 opSl7 hHeld ?_
  refine tY 8 opSl8 (.bool true) hHeld ?_
  refine tY 9 opSl9 (.bool true) hHeld ?_
  refine tN 10 opSl10 hHeld ?_
  refine tN 11 opSl11 hHeld ?_
  refine tN 12 opSl12 hHeld ?_
  refine tN 13 opSl13 hHeld ?_
  refine tN 14 opSl14 hHeld ?_
  refine tN 15 opSl15 hHeld ?_
  refine tN 16 opSl16 hHeld ?_
  refine tN 17 opSl17 hHeld ?_
  refine tN 18 opSl18 hHeld ?_
  refine tY 19 opSl19 (.bool true) hHeld ?_
  refine wpAnyH_done (by kernel_rfl) ?_ _
  have HB1 : Hid (Below w0.heap.size w0 w1):=hB1
  clear hb1 hB1
  go_wp2_with fail
  go_ret
  exact ⟨rfl,bstep HB0.out HB1.out⟩
 | true =>
  cases b2 with
  | true => exact absurd ⟨rfl,rfl⟩ hm
  | false =>
   clear hm
   refine wp_region_held_drew (S:=(fun W : World => (W.cell? ⟨w.heap.size,0,none⟩ = some (.slice g.ta g.ts.length g.tc)∧W.cell? ⟨w.heap.size,1,none⟩ = some (.slice g.fa g.fs.length g.fc)∧W.cell? ⟨w.heap.size,2,none⟩ = some (.slice g.ma g.ms.length g.mc)∧W.cell? ⟨w.heap.size,3,none⟩ = some (.int .i64 g.en)))) (by kernel_rfl) (HK.out _ (bdrew _)) (fun hHeld => ?_)
   refine tY 0 opSl0 (.agg #[.slice g.ta g.ts.length g.tc,.slice g.fa g.fs.length g.fc,.slice g.ma g.ms.length g.mc,.int .i64 g.en]) hHeld ?_
   refine wpAnyH_ready (rs := [1]) (by kernel_rfl) (by simp) ?_
   refine AllReadyH.cons (o:=opSl1) rfl (fun K hK => ?_) AllReadyH.nil
   go_simp
   refine (HFw.out _ (bdrew _)).mono ?_
   rintro e w1 ⟨rfl,hb1⟩
   have hB1 : Below w0.heap.size w0 w1:=bstep (bdrew _) hb1
   try go_wp2_with fail
   refine hK.out _ _ (HK.out _ hB1) (fun hHeld => ?_)
   clear hK K
   try simp only [Act.put,sA,s0,sS]
   refine tY 2 opSl2 (.bool false) hHeld ?_
   refine tY 3 opSl3 (.bool false) hHeld ?_
   refine tY 4 opSl4 (.agg #[.slice g.ta g.ts.length g.tc,.slice g.fa g.fs.length g.fc,.slice g.ma g.ms.length g.mc,.int .i64 g.en]) hHeld ?_
   refine tY 5 opSl5 (.int .i64 m) hHeld ?_
   refine wpAnyH_ready (rs := [6]) (by kernel_rfl) (by simp) ?_
   refine AllReadyH.cons (o:=opSl6) rfl (fun K hK => ?_) AllReadyH.nil
   go_simp
   refine (HIm.out _ hB1).mono ?_
   rintro e w2 ⟨rfl,hb2⟩
   have hB2 : Below w0.heap.size w0 w2:=bstep hB1 hb2
   try go_wp2_with fail
   refine hK.out _ _ (HK.out _ hB2) (fun hHeld => ?_)
   clear hK K
   try simp only [Act.put,sA,s0,sS]
   refine tY 7 opSl7 (.bool true) hHeld ?_
   refine tY 8 opSl8 (.bool true) hHeld ?_
   refine tY 9 opSl9 (.bool true) hHeld ?_
   refine tN 10 opSl10 hHeld ?_
   refine tN 11 opSl11 hHeld ?_
   refine tN 12 opSl12 hHeld ?_
   refine tN 13 opSl13 hHeld ?_
   refine tN 14 opSl14 hHeld ?_
   refine tN 15 opSl15 hHeld ?_
   refine tN 16 opSl16 hHeld ?_
   refine tN 17 opSl17 hHeld ?_
   refine tN 18 opSl18 hHeld ?_
   refine tY 19 opSl19 (.bool true) hHeld ?_
   refine wpAnyH_done (by kernel_rfl) ?_ _
   have HB2 : Hid (Below w0.heap.size w0 w2):=hB2
   clear hb1 hB1 hb2 hB2
   go_wp2_with fail
   go_ret
   exact ⟨rfl,bstep HB0.out HB2.out⟩

set_option maxHeartbeats 8000000 in
set_option maxRecDepth 20000 in
theorem slot13_in {g : Img} {k : Nat} {w : World} (hg : Im w g) (hf : finB g = true) (hk : k < g.ms.length) : Ans 25 #[imA4 g,.int .i64 k] w (.int .i64 (slo13 g (k : Int))):=by
 obtain ⟨w0,tb,off,hma,h1,h2,HW0,HB0,HK,HI,HG⟩:=img_mth_head hg hk
 have hnm : mNum g (k : Int):=numB_iff.2 (by omega)
 have HFw : Hid (∀ W,Below w0.heap.size w0 W → Ans 44 #[imA4 g] W (.bool true)):=fun W hW => by rw [← hf]; exact fieldsWell_any (HI.out W hW)
 have HIm : Hid (∀ W,Below w0.heap.size w0 W → Ans 56 #[imA4 g,.int .i64 k] W (.bool true)):=fun W hW => by
  have:=isMethod_any13 (k : Int) (HI.out W hW)
  rw [show numB (k : Int) g.ms.length = true from hnm] at this; exact this
 have HKn : Hid (∀ W,Below w0.heap.size w0 W → Ans 16 #[imA4 g,.int .i64 g.ms[k].ow] W (.int .i64 (kndI g g.ms[k].ow))):=fun W hW => kind_any _ (HI.out W hW) (FlOk.of (Wel.of (Fin_.of hf).wel).im)
 have HSo : Hid (∀ W,Below w0.heap.size w0 W → Ans 57 #[imA4 g,.int .i64 k] W (.int .i64 (sloI g (k : Int)))):=fun W hW => slotOf13_any (HI.out W hW) (Fin_.of hf).wel hnm
 have HR : Hid (slo13 g (k : Int) = if kndI g g.ms[k].ow = 0 then sloI g (k : Int) else -1):=by
  show _ = _
  unfold slo13
  rw [if_pos hf,if_pos (show numB (k : Int) g.ms.length = true from hnm),mowI_at hk]
 have hki : (k : Int) < (g.ms.length : Int):=by omega
 unfold maxLen at h2
 unfold imA4 at HFw HIm HKn HSo ⊢
 rw [hma] at HFw HIm HKn HSo ⊢
 clear hg hf hnm hma HI HG
 generalize slo13 g (k : Int) = R at *
 generalize sloI g (k : Int) = Q at *
 generalize kndI g g.ms[k].ow = kn at *
 generalize g.ms[k] = x at *
 go_enter Tryz.func25,Tryz.ntmps25
 go_wp2_with (rw [← HW0.out])
 by_cases hkn : kn = 0
 ·subst hkn
  have HR2 : Hid (R = Q):=by show _ = _; rw [HR.out,if_pos rfl]
  refine wp_region_held_drew (S:=(fun W : World => (W.cell? ⟨w.heap.size,0,none⟩ = some (.slice g.ta g.ts.length g.tc)∧W.cell? ⟨w.heap.size,1,none⟩ = some (.slice g.fa g.fs.length g.fc)∧W.cell? ⟨w.heap.size,2,none⟩ = some (.slice (some ⟨tb,off,none⟩) g.ms.length g.mc)∧W.cell? ⟨w.heap.size,3,none⟩ = some (.int .i64 g.en))∧MtA W tb (off + k * 12) x)) (by kernel_rfl) (HK.out _ (bdrew _)) (fun hHeld => ?_)
  refine tY 0 opSl0 (.agg #[.slice g.ta g.ts.length g.tc,.slice g.fa g.fs.length g.fc,.slice (some ⟨tb,off,none⟩) g.ms.length g.mc,.int .i64 g.en]) hHeld ?_
  refine wpAnyH_ready (rs := [1]) (by kernel_rfl) (by simp) ?_
  refine AllReadyH.cons (o:=opSl1) rfl (fun K hK => ?_) AllReadyH.nil
  go_simp
  refine (HFw.out _ (bdrew _)).mono ?_
  rintro e w1 ⟨rfl,hb1⟩
  have hB1 : Below w0.heap.size w0 w1:=bstep (bdrew _) hb1
  try go_wp2_with fail
  refine hK.out _ _ (HK.out _ hB1) (fun hHeld => ?_)
  clear hK K
  try simp only [Act.put,sA,s0,sS]
  refine tY 2 opSl2 (.bool false) hHeld ?_
  refine tY 3 opSl3 (.bool false) hHeld ?_
  refine tY 4 opSl4 (.agg #[.slice g.ta g.ts.length g.tc,.slice g.fa g.fs.length g.fc,.slice (some ⟨tb,off,none⟩) g.ms.length g.mc,.int .i64 g.en]) hHeld ?_
  refine tY 5 opSl5 (.int .i64 (k : Int)) hHeld ?_
  refine wpAnyH_ready (rs := [6]) (by kernel_rfl) (by simp) ?_
  refine AllReadyH.cons (o:=opSl6) rfl (fun K hK => ?_) AllReadyH.nil
  go_simp
  refine (HIm.out _ hB1).mono ?_
  rintro e w2 ⟨rfl,hb2⟩
  have hB2 : Below w0.heap.size w0 w2:=bstep hB1 hb2
  try go_wp2_with fail
  refine hK.out _ _ (HK.out _ hB2) (fun hHeld => ?_)
  clear hK K
  try simp only [Act.put,sA,s0,sS]
  refine tY 7 opSl7 (.bool false) hHeld ?_
  refine tY 8 opSl8 (.bool false) hHeld ?_
  refine tY 9 opSl9 (.bool false) hHeld ?_
  refine tY 10 opSl10 (.agg #[.slice g.ta g.ts.length g.tc,.slice g.fa g.fs.length g.fc,.slice (some ⟨tb,off,none⟩) g.ms.length g.mc,.int .i64 g.en]) hHeld ?_
  refine tY 11 opSl11 (.pointer (some ⟨w.heap.size,2,none⟩)) hHeld ?_
  refine tY 12 opSl12 (.slice (some ⟨tb,off,none⟩) g.ms.length g.mc) hHeld ?_
  refine tY 13 opSl13 (.int .i64 (k : Int)) hHeld ?_
  refine tY 14 opSl14 (.pointer (some ⟨tb,off + k * 12,none⟩)) hHeld ?_
  refine tY 15 opSl15 (.pointer (some ⟨tb,off + k * 12 + 1,none⟩)) hHeld ?_
  refine tY 16 opSl16 (.int .i64 x.ow) hHeld ?_
  refine wpAnyH_ready (rs := [17]) (by kernel_rfl) (by simp) ?_
  refine AllReadyH.cons (o:=opSl17) rfl (fun K hK => ?_) AllReadyH.nil
  go_simp
  refine (HKn.out _ hB2).mono ?_
  rintro e w3 ⟨rfl,hb3⟩
  have hB3 : Below w0.heap.size w0 w3:=bstep hB2 hb3
  try go_wp2_with fail
  refine hK.out _ _ (HK.out _ hB3) (fun hHeld => ?_)
  clear hK K
  try simp only [Act.put,sA,s0,sS]
  refine tY 18 opSl18 (.bool false) hHeld ?_
  refine tY 19 opSl19 (.bool false) hHeld ?_
  refine wpAnyH_done (by kernel_rfl) ?_ _
  have HB3 : Hid (Below w0.heap.size w0 w3):=hB3
  clear hb1 hB1 hb2 hB2 hb3 hB3
  obtain ⟨⟨c0,c1,c2,c3⟩,_⟩:=HK.out w3 HB3.out
  go_wp2_with fail
  refine Calls.mono (HSo.out w3 HB3.out) ?_
  rintro e w4 ⟨rfl,hb4⟩
  have HB4 : Hid (Below w0.heap.size w0 w4):=bstep HB3.out hb4
  clear hb4 c0 c1 c2 c3
  go_wp2_with fail
  go_ret
  exact ⟨ret_int HR2.out.symm,bstep HB0.out HB4.out⟩
 ·have hkb : (kn != 0) = true:=by simpa using hkn
  have HR2 : Hid (R = -1):=by show _ = _; rw [HR.out,if_neg hkn]
  clear hkn
  refine wp_region_held_drew (S:=(fun W : World => (W.cell? ⟨w.heap.size,0,none⟩ = some (.slice g.ta g.ts.length g.tc)∧W.cell? ⟨w.heap.size,1,none⟩ = some (.slice g.fa g.fs.length g.fc)∧W.cell? ⟨w.heap.size,2,none⟩ = some (.slice (some ⟨tb,off,none⟩) g.ms.length g.mc)∧W.cell? ⟨w.heap.size,3,none⟩ = some (.int .i64 g.en))∧MtA W tb (off + k * 12) x)) (by kernel_rfl) (HK.out _ (bdrew _)) (fun hHeld => ?_)
  refine tY 0 opSl0 (.agg #[.slice g.ta g.ts.length g.tc,.slice g.fa g.fs.length g.fc,.slice (some ⟨tb,off,none⟩) g.ms.length g.mc,.int .i64 g.en]) hHeld ?_
  refine wpAnyH_ready (rs := [1]) (by kernel_rfl) (by simp) ?_
  refine AllReadyH.cons (o:=opSl1) rfl (fun K hK => ?_) AllReadyH.nil
  go_simp
  refine (HFw.out _ (bdrew _)).mono ?_
  rintro e w1 ⟨rfl,hb1⟩
  have hB1 : Below w0.heap.size w0 w1:=bstep (bdrew _) hb1
  try go_wp2_with fail
  refine hK.out _ _ (HK.out _ hB1) (fun hHeld => ?_)
  clear hK K
  try simp only [Act.put,sA,s0,sS]
  refine tY 2 opSl2 (.bool false) hHeld ?_
  refine tY 3 opSl3 (.bool false) hHeld ?_
  refine tY 4 opSl4 (.agg #[.slice g.ta g.ts.length g.tc,.slice g.fa g.fs.length g.fc,.slice (some ⟨tb,off,none⟩) g.ms.length g.mc,.int .i64 g.en]) hHeld ?_
  refine tY 5 opSl5 (.int .i64 (k : Int)) hHeld ?_
  refine wpAnyH_ready (rs := [6]) (by kernel_rfl) (by simp) ?_
  refine AllReadyH.cons (o:=opSl6) rfl (fun K hK => ?_) AllReadyH.nil
  go_simp
  refine (HIm.out _ hB1).mono ?_
  rintro e w2 ⟨rfl,hb2⟩
  have hB2 : Below w0.heap.size w0 w2:=bstep hB1 hb2
  try go_wp2_with fail
  refine hK.out _ _ (HK.out _ hB2) (fun hHeld => ?_)
  clear hK K
  try simp only [Act.put,sA,s0,sS]
  refine tY 7 opSl7 (.bool false) hHeld ?_
  refine tY 8 opSl8 (.bool false) hHeld ?_
  refine tY 9 opSl9 (.bool false) hHeld ?_
  refine tY 10 opSl10 (.agg #[.slice g.ta g.ts.length g.tc,.slice g.fa g.fs.length g.fc,.slice (some ⟨tb,off,none⟩) g.ms.length g.mc,.int .i64 g.en]) hHeld ?_
  refine tY 11 opSl11 (.pointer (some ⟨w.heap.size,2,none⟩)) hHeld ?_
  refine tY 12 opSl12 (.slice (some ⟨tb,off,none⟩) g.ms.length g.mc) hHeld ?_
  refine tY 13 opSl13 (.int .i64 (k : Int)) hHeld ?_
  refine tY 14 opSl14 (.pointer (some ⟨tb,off + k * 12,none⟩)) hHeld ?_
  refine tY 15 opSl15 (.pointer (some ⟨tb,off + k * 12 + 1,none⟩)) hHeld ?_
  refine tY 16 opSl16 (.int .i64 x.ow) hHeld ?_
  refine wpAnyH_ready (rs := [17]) (by kernel_rfl) (by simp) ?_
  refine AllReadyH.cons (o:=opSl17) rfl (fun K hK => ?_) AllReadyH.nil
  go_simp
  refine (HKn.out _ hB2).mono ?_
  rintro e w3 ⟨rfl,hb3⟩
  have hB3 : Below w0.heap.size w0 w3:=bstep hB2 hb3
  try go_wp2_with fail
  refine hK.out _ _ (HK.out _ hB3) (fun hHeld => ?_)
  clear hK K
  try simp only [Act.put,sA,s0,sS]
  refine tY 18 opSl18 (.bool true) hHeld ?_
  refine tY 19 opSl19 (.bool true) hHeld ?_
  refine wpAnyH_done (by kernel_rfl) ?_ _
  have HB3 : Hid (Below w0.heap.size w0 w3):=hB3
  clear hb1 hB1 hb2 hB2 hb3 hB3
  go_wp2_with fail
  go_ret
  exact ⟨ret_int HR2.out.symm,bstep HB0.out HB3.out⟩
theorem slot13_any {g : Img} {m : Int} {w : World} (hg : Im w g) : Ans 25 #[imA4 g,.int .i64 m] w (.int .i64 (slo13 g m)):=by
 by_cases h : finB g = true∧numB m g.ms.length = true
 ·obtain ⟨k,hk,rfl⟩:=mNum_at h.2
  exact slot13_in hg h.1 hk
 ·have e : slo13 g m = -1:=by
   unfold slo13
   by_cases hf : finB g = true
   ·rw [if_pos hf,if_neg (fun h2 => h ⟨hf,h2⟩)]
   ·rw [if_neg hf]
  rw [e]
  exact slot13_out hg h
end Go.Proofs.YthpmpdpfnlecmaaGreat

namespace Go.Proofs.YthpmpdpfnlecmaaGreat
open Go.Shelf
def lays189_ren : Go.Shelf.Ren:=⟨fun | 189 => 39 | 125 => 74 | 257 => 73 | 128 => 128 | 129 => 129 | 294 => 119 | 295 => 120 | 296 => 121 | 297 => 122 | 298 => 123 | 299 => 124 | 216 => 125 | 300 => 126 | 301 => 127 | 328 => 172 | 329 => 173 | 330 => 174 | 331 => 175 | 332 => 176 | 215 => 177 | 343 => 207 | n => n,fun | 28 => 31 | 3 => 3 | 46 => 87 | 0 => 0 | 51 => 132 | 53 => 134 | 4 => 4 | 183 => 125 | 182 => 124 | 131 => 129 | 5 => 5 | 9 => 9 | 218 => 148 | 222 => 152 | 228 => 179 | 229 => 58 | n => n,fun | n => n⟩
theorem lays189 : Go.Proofs.Lays.n189 Tryz.prog lays189_ren := {
 mixed:=by kernel_rfl
 f125:=Tryz.func74.trans (congrArg some (by kernel_rfl))
 f128:=Tryz.func128.trans (congrArg some (by kernel_rfl))
 f129:=Tryz.func129.trans (congrArg some (by kernel_rfl))
 f189:=Tryz.func39.trans (congrArg some (by kernel_rfl))
 f215:=Tryz.func177.trans (congrArg some (by kernel_rfl))
 f216:=Tryz.func125.trans (congrArg some (by kernel_rfl))
 f257:=Tryz.func73.trans (congrArg some (by kernel_rfl))
 f294:=Tryz.func119.trans (congrArg some (by kernel_rfl))
 f295:=Tryz.func120.trans (congrArg some (by kernel_rfl))
 f296:=Tryz.func121.trans (congrArg some (by kernel_rfl))
 f297:=Tryz.func122.trans (congrArg some (by kernel_rfl))
 f298:=Tryz.func123.trans (congrArg some (by kernel_rfl))
 f299:=Tryz.func124.trans (congrArg some (by kernel_rfl))
 f300:=Tryz.func126.trans (congrArg some (by kernel_rfl))
 f301:=Tryz.func127.trans (congrArg some (by kernel_rfl))
 f328:=Tryz.func172.trans (congrArg some (by kernel_rfl))
 f329:=Tryz.func173.trans (congrArg some (by kernel_rfl))
 f330:=Tryz.func174.trans (congrArg some (by kernel_rfl))
 f331:=Tryz.func175.trans (congrArg some (by kernel_rfl))
 f332:=Tryz.func176.trans (congrArg some (by kernel_rfl))
 f343:=Tryz.func207.trans (congrArg some (by kernel_rfl))
 t0:=Tryz.underlying0
 a0:=Tryz.isAgg0
 z0:=Tryz.sizeOf0
 v0:=Tryz.zeroValue0
 t3:=Tryz.underlying3
 a3:=Tryz.isAgg3
 z3:=Tryz.sizeOf3
 v3:=Tryz.zeroValue3
 t4:=Tryz.underlying4
 a4:=Tryz.isAgg4
 z4:=Tryz.sizeOf4
 v4:=Tryz.zeroValue4
 t5:=Tryz.underlying5
 a5:=Tryz.isAgg5
 z5:=Tryz.sizeOf5
 v5:=Tryz.zeroValue5
 t9:=Tryz.underlying9
 a9:=Tryz.isAgg9
 z9:=Tryz.sizeOf9
 v9:=Tryz.zeroValue9
 t28:=Tryz.underlying31
 a28:=Tryz.isAgg31
 z28:=Tryz.sizeOf31
 v28:=Tryz.zeroValue31
 t46:=Tryz.underlying87
 a46:=Tryz.isAgg87
 z46:=Tryz.sizeOf87
 v46:=Tryz.zeroValue87
 t51:=Tryz.underlying132
 a51:=Tryz.isAgg132
 z51:=Tryz.sizeOf132
 v51:=Tryz.zeroValue132
 t53:=Tryz.underlying134
 a53:=Tryz.isAgg134
 z53:=Tryz.sizeOf134
 v53:=Tryz.zeroValue134
 t131:=Tryz.underlying129
 a131:=Tryz.isAgg129
 z131:=Tryz.sizeOf129
 v131:=Tryz.zeroValue129
 t182:=Tryz.underlying124
 a182:=Tryz.isAgg124
 z182:=Tryz.sizeOf124
 v182:=Tryz.zeroValue124
 t183:=Tryz.underlying125
 a183:=Tryz.isAgg125
 z183:=Tryz.sizeOf125
 v183:=Tryz.zeroValue125
 t218:=Tryz.underlying148
 a218:=Tryz.isAgg148
 z218:=Tryz.sizeOf148
 v218:=Tryz.zeroValue148
 t222:=Tryz.underlying152
 a222:=Tryz.isAgg152
 z222:=Tryz.sizeOf152
 v222:=Tryz.zeroValue152
 t228:=Tryz.underlying179
 a228:=Tryz.isAgg179
 z228:=Tryz.sizeOf179
 v228:=Tryz.zeroValue179
 t229:=Tryz.underlying58
 a229:=Tryz.isAgg58
 z229:=Tryz.sizeOf58
 v229:=Tryz.zeroValue58 }
open Go.Sort Go.RowKit in
theorem slices_Sort_int (blk off cap : Nat) (zs : List Int) (w : World) (hH : Holds (Value.int .i64) w blk off zs.toArray) (hblk : blk < w.heap.size) (hsz : zs.length < 4611686018427387904) :
  Calls Tryz.prog 39 #[.slice (some ⟨blk,off,none⟩) zs.length cap] w fun e w' =>
   e = .returned (.tuple #[])∧∃ n os,w' = grow (putRow (Value.int .i64) (Sort.ahead w n) blk off (zs.mergeSort fun x y => decide (x ≤ y)).toArray) os:=Any.slices_Sort_int lays189 blk off cap zs w hH hblk hsz
open Go.RowKit in
theorem slices_Sort_int_none (p : Option Addr) (cap : Nat) (w : World) : Calls Tryz.prog 39 #[.slice p 0 cap] w fun e w' => e = .returned (.tuple #[])∧w' = w:=Any.slices_Sort_int_none lays189 p cap w
end Go.Proofs.YthpmpdpfnlecmaaGreat
