/- Texts joined: Find13, Wakes13, Law13. -/
import Derived.Test.YthpmpdpfnlecmaaGreatQ41
import Derived.Test.YthpmpdpfnlecmaaGreatQ46
import Derived.Test.YthpmpdpfnlecmaaGreatQ47
namespace Go.Proofs.YthpmpdpfnlecmaaGreat
set_option linter.unusedVariables false
set_option linter.unusedSimpArgs false
open Go.RowKit
attribute [local go_sem ↓] Go.wp_at_zero Go.wp_at_succ
abbrev opFd0 : Oper := { dst:=some 7,op:=Op.load 26 (Operand.tmp 3),type := 26,pos := "slots.go:41",after:=#[],guard:=none }
abbrev opFd1 : Oper := { dst:=some 8,op:=Op.call { callee:=Callee.value (Operand.func 44),args:=#[Operand.tmp 7],argTypes:=#[26] },type := 4,pos := "slots.go:41",after:=#[{ on := 0,ground:=Ground.data }],guard:=none }
abbrev opFd2 : Oper := { dst:=some 9,op:=Op.unOp UnOp.not 4 (Operand.tmp 8),type := 4,pos := "slots.go:41",after:=#[{ on := 1,ground:=Ground.data }],guard:=none }
abbrev opFd3 : Oper := { dst:=some 10,op:=Op.move (Operand.tmp 9),type := 4,pos := "slots.go:41",after:=#[{ on := 2,ground:=Ground.data }, { on := 1,ground:=Ground.chain }],guard:=none }
abbrev opFd4 : Oper := { dst:=some 11,op:=Op.load 26 (Operand.tmp 3),type := 26,pos := "slots.go:41",after:=#[{ on := 3,ground:=Ground.guard }],guard:=some (3,false) }
abbrev opFd5 : Oper := { dst:=some 12,op:=Op.move (Operand.tmp 2),type := 3,pos := "slots.go:41",after:=#[{ on := 3,ground:=Ground.guard }],guard:=some (3,false) }
abbrev opFd6 : Oper := { dst:=some 13,op:=Op.call { callee:=Callee.value (Operand.func 56),args:=#[Operand.tmp 11,Operand.tmp 12],argTypes:=#[26,3] },type := 4,pos := "slots.go:41",after:=#[{ on := 4,ground:=Ground.data }, { on := 5,ground:=Ground.data }, { on := 3,ground:=Ground.chain }, { on := 3,ground:=Ground.guard }],guard:=some (3,false) }
abbrev opFd7 : Oper := { dst:=some 14,op:=Op.unOp UnOp.not 4 (Operand.tmp 13),type := 4,pos := "slots.go:41",after:=#[{ on := 6,ground:=Ground.data }, { on := 3,ground:=Ground.guard }],guard:=some (3,false) }
abbrev opFd8 : Oper := { dst:=some 15,op:=Op.pick (Operand.tmp 10) (Operand.const (Value.bool true)) (Operand.tmp 14),type := 4,pos := "slots.go:41",after:=#[{ on := 3,ground:=Ground.data }, { on := 7,ground:=Ground.data }],guard:=none }
abbrev opFd9 : Oper := { dst:=some 16,op:=Op.move (Operand.tmp 15),type := 4,pos := "slots.go:41",after:=#[{ on := 8,ground:=Ground.data }, { on := 6,ground:=Ground.chain }],guard:=none }
abbrev opFd10 : Oper := { dst:=some 17,op:=Op.load 26 (Operand.tmp 3),type := 26,pos := "slots.go:41",after:=#[{ on := 9,ground:=Ground.guard }],guard:=some (9,false) }
abbrev opFd11 : Oper := { dst:=some 18,op:=Op.move (Operand.tmp 1),type := 3,pos := "slots.go:41",after:=#[{ on := 9,ground:=Ground.guard }],guard:=some (9,false) }
abbrev opFd12 : Oper := { dst:=some 19,op:=Op.call { callee:=Callee.value (Operand.func 16),args:=#[Operand.tmp 17,Operand.tmp 18],argTypes:=#[26,3] },type := 3,pos := "slots.go:41",after:=#[{ on := 10,ground:=Ground.data }, { on := 11,ground:=Ground.data }, { on := 9,ground:=Ground.chain }, { on := 9,ground:=Ground.guard }],guard:=some (9,false) }
abbrev opFd13 : Oper := { dst:=some 20,op:=Op.binOp BinOp.neq 3 (Operand.tmp 19) (Operand.const (Value.int IntKind.i64 0)) 3,type := 4,pos := "slots.go:41",after:=#[{ on := 12,ground:=Ground.data }, { on := 9,ground:=Ground.guard }],guard:=some (9,false) }
abbrev opFd14 : Oper := { dst:=some 21,op:=Op.pick (Operand.tmp 16) (Operand.const (Value.bool true)) (Operand.tmp 20),type := 4,pos := "slots.go:41",after:=#[{ on := 9,ground:=Ground.data }, { on := 13,ground:=Ground.data }],guard:=none }
abbrev opFd15 : Oper := { dst:=some 22,op:=Op.move (Operand.tmp 21),type := 4,pos := "slots.go:41",after:=#[{ on := 14,ground:=Ground.data }, { on := 12,ground:=Ground.chain }],guard:=none }
abbrev opFd16 : Oper := { dst:=some 23,op:=Op.load 26 (Operand.tmp 3),type := 26,pos := "slots.go:41",after:=#[{ on := 15,ground:=Ground.guard }],guard:=some (15,false) }
abbrev opFd17 : Oper := { dst:=some 24,op:=Op.move (Operand.tmp 1),type := 3,pos := "slots.go:41",after:=#[{ on := 15,ground:=Ground.guard }],guard:=some (15,false) }
abbrev opFd18 : Oper := { dst:=some 25,op:=Op.fieldAddr 26 (Operand.tmp 3) 2,type := 0,pos := "slots.go:41",after:=#[{ on := 15,ground:=Ground.guard }],guard:=some (15,false) }
abbrev opFd19 : Oper := { dst:=some 26,op:=Op.load 24 (Operand.tmp 25),type := 24,pos := "slots.go:41",after:=#[{ on := 18,ground:=Ground.data }, { on := 15,ground:=Ground.guard }],guard:=some (15,false) }
abbrev opFd20 : Oper := { dst:=some 27,op:=Op.move (Operand.tmp 2),type := 3,pos := "slots.go:41",after:=#[{ on := 15,ground:=Ground.guard }],guard:=some (15,false) }
abbrev opFd21 : Oper := { dst:=some 28,op:=Op.indexAddr 24 (Operand.tmp 26) (Operand.tmp 27),type := 0,pos := "slots.go:41",after:=#[{ on := 19,ground:=Ground.data }, { on := 20,ground:=Ground.data }, { on := 15,ground:=Ground.guard }],guard:=some (15,false) }
abbrev opFd22 : Oper := { dst:=some 29,op:=Op.fieldAddr 55 (Operand.tmp 28) 1,type := 0,pos := "slots.go:41",after:=#[{ on := 21,ground:=Ground.data }, { on := 15,ground:=Ground.guard }],guard:=some (15,false) }
abbrev opFd23 : Oper := { dst:=some 30,op:=Op.load 3 (Operand.tmp 29),type := 3,pos := "slots.go:41",after:=#[{ on := 22,ground:=Ground.data }, { on := 15,ground:=Ground.guard }],guard:=some (15,false) }
abbrev opFd24 : Oper := { dst:=some 31,op:=Op.call { callee:=Callee.value (Operand.func 12),args:=#[Operand.tmp 23,Operand.tmp 24,Operand.tmp 30],argTypes:=#[26,3,3] },type := 4,pos := "slots.go:41",after:=#[{ on := 16,ground:=Ground.data }, { on := 17,ground:=Ground.data }, { on := 23,ground:=Ground.data }, { on := 15,ground:=Ground.chain }, { on := 15,ground:=Ground.guard }],guard:=some (15,false) }
abbrev opFd25 : Oper := { dst:=some 32,op:=Op.unOp UnOp.not 4 (Operand.tmp 31),type := 4,pos := "slots.go:41",after:=#[{ on := 24,ground:=Ground.data }, { on := 15,ground:=Ground.guard }],guard:=some (15,false) }
abbrev opFd26 : Oper := { dst:=some 33,op:=Op.pick (Operand.tmp 22) (Operand.const (Value.bool true)) (Operand.tmp 32),type := 4,pos := "slots.go:41",after:=#[{ on := 15,ground:=Ground.data }, { on := 25,ground:=Ground.data }],guard:=none }
set_option maxHeartbeats 8000000 in
set_option maxRecDepth 20000 in
theorem find13_yes {g : Img} {t : Int} {k : Nat} {w : World} (hg : Im w g) (hf : finB g = true) (hk : k < g.ms.length) (ht : kndI g t = 0) (hwf : Wf t) (hb : belB g t g.ms[k].ow = true) : Ans 43 #[imA4 g,.int .i64 t,.int .i64 k] w (.int .i64 (donI g t (k : Int))):=by
 obtain ⟨w0,tb,off,hma,h1,h2,HW0,HB0,HK,HI,HG⟩:=img_mth_head hg hk
 have hnm : mNum g (k : Int):=numB_iff.2 (by omega)
 have hw:=(Fin_.of hf).wel
 have hi:=(Wel.of hw).im
 have HFw : Hid (∀ W,Below w0.heap.size w0 W → Ans 44 #[imA4 g] W (.bool true)):=fun W hW => by rw [← hf]; exact fieldsWell_any (HI.out W hW)
 have HIm : Hid (∀ W,Below w0.heap.size w0 W → Ans 56 #[imA4 g,.int .i64 k] W (.bool true)):=fun W hW => by
  have:=isMethod_any13 (k : Int) (HI.out W hW)
  rw [show numB (k : Int) g.ms.length = true from hnm] at this; exact this
 have HKn : Hid (∀ W,Below w0.heap.size w0 W → Ans 16 #[imA4 g,.int .i64 t] W (.int .i64 0)):=fun W hW => by rw [← ht]; exact kind_any _ (HI.out W hW) (FlOk.of hi)
 have HBe : Hid (∀ W,Below w0.heap.size w0 W → Ans 12 #[imA4 g,.int .i64 t,.int .i64 g.ms[k].ow] W (.bool true)):=fun W hW => by rw [← hb]; exact below_any (HI.out W hW) hi hwf
 have HDn : Hid (∀ W,Below w0.heap.size w0 W → Ans 76 #[imA4 g,.int .i64 t,.int .i64 k] W (.int .i64 (donI g t (k : Int)))):=fun W hW => doneBy_any (HI.out W hW) hw hnm ht hwf (by rw [mowI_at hk]; exact hb)
 have hki : (k : Int) < (g.ms.length : Int):=by omega
 unfold maxLen at h2
 unfold imA4 at HFw HIm HKn HBe HDn ⊢
 rw [hma] at HFw HIm HKn HBe HDn ⊢
 clear hg hf hnm hw hi ht hwf hb hma HI HG
 generalize donI g t (k : Int) = R at *
 generalize g.ms[k] = x at *
 go_enter Tryz.func43,Tryz.ntmps43
 go_wp2_with (rw [← HW0.out])
 refine wp_region_held_drew (S:=(fun W : World => (W.cell? ⟨w.heap.size,0,none⟩ = some (.slice g.ta g.ts.length g.tc)∧W.cell? ⟨w.heap.size,1,none⟩ = some (.slice g.fa g.fs.length g.fc)∧W.cell? ⟨w.heap.size,2,none⟩ = some (.slice (some ⟨tb,off,none⟩) g.ms.length g.mc)∧W.cell? ⟨w.heap.size,3,none⟩ = some (.int .i64 g.en))∧MtA W tb (off + k * 12) x)) (by kernel_rfl) (HK.out _ (bdrew _)) (fun hHeld => ?_)
 refine tY 0 opFd0 (.agg #[.slice g.ta g.ts.length g.tc,.slice g.fa g.fs.length g.fc,.slice (some ⟨tb,off,none⟩) g.ms.length g.mc,.int .i64 g.en]) hHeld ?_
 refine wpAnyH_ready (rs := [1]) (by kernel_rfl) (by simp) ?_
 refine AllReadyH.cons (o:=opFd1) rfl (fun K hK => ?_) AllReadyH.nil
 go_simp
 refine (HFw.out _ (bdrew _)).mono ?_
 rintro e w1 ⟨rfl,hb1⟩
 have hB1 : Below w0.heap.size w0 w1:=bstep (bdrew _) hb1
 try go_wp2_with fail
 refine hK.out _ _ (HK.out _ hB1) (fun hHeld => ?_)
 clear hK K
 try simp only [Act.put,sA,s0,sS]
 refine tY 2 opFd2 (.bool false) hHeld ?_
 refine tY 3 opFd3 (.bool false) hHeld ?_
 refine tY 4 opFd4 (.agg #[.slice g.ta g.ts.length g.tc,.slice g.fa g.fs.length g.fc,.slice (some ⟨tb,off,none⟩) g.ms.length g.mc,.int .i64 g.en]) hHeld ?_
 refine tY 5 opFd5 (.int .i64 (k : Int)) hHeld ?_
 refine wpAnyH_ready (rs := [6]) (by kernel_rfl) (by simp) ?_
 refine AllReadyH.cons (o:=opFd6) rfl (fun K hK => ?_) AllReadyH.nil
 go_simp
 refine (HIm.out _ hB1).mono ?_
 rintro e w2 ⟨rfl,hb2⟩
 have hB2 : Below w0.heap.size w0 w2:=bstep hB1 hb2
 try go_wp2_with fail
 refine hK.out _ _ (HK.out _ hB2) (fun hHeld => ?_)
 clear hK K
 try simp only [Act.put,sA,s0,sS]
 refine tY 7 opFd7 (.bool false) hHeld ?_
 refine tY 8 opFd8 (.bool false) hHeld ?_
 refine tY 9 opFd9 (.bool false) hHeld ?_
 refine tY 10 opFd10 (.agg #[.slice g.ta g.ts.length g.tc,.slice g.fa g.fs.length g.fc,.slice (some ⟨tb,off,none⟩) g.ms.length g.mc,.int .i64 g.en]) hHeld ?_
 refine tY 11 opFd11 (.int .i64 t) hHeld ?_
 refine wpAnyH_ready (rs := [12]) (by kernel_rfl) (by simp) ?_
 refine AllReadyH.cons (o:=opFd12) rfl (fun K hK => ?_) AllReadyH.nil
 go_simp
 refine (HKn.out _ hB2).mono ?_
 rintro e w3 ⟨rfl,hb3⟩
 have hB3 : Below w0.heap.size w0 w3:=bstep hB2 hb3
 try go_wp2_with fail
 refine hK.out _ _ (HK.out _ hB3) (fun hHeld => ?_)
 clear hK K
 try simp only [Act.put,sA,s0,sS]
 refine tY 13 opFd13 (.bool false) hHeld ?_
 refine tY 14 opFd14 (.bool false) hHeld ?_
 refine tY 15 opFd15 (.bool false) hHeld ?_
 refine tY 16 opFd16 (.agg #[.slice g.ta g.ts.length g.tc,.slice g.fa g.fs.length g.fc,.slice (some ⟨tb,off,none⟩) g.ms.length g.mc,.int .i64 g.en]) hHeld ?_
 refine tY 17 opFd17 (.int .i64 t) hHeld ?_
 refine tY 18 opFd18 (.pointer (some ⟨w.heap.size,2,none⟩)) hHeld ?_
 refine tY 19 opFd19 (.slice (some ⟨tb,off,none⟩) g.ms.length g.mc) hHeld ?_
 refine tY 20 opFd20 (.int .i64 (k : Int)) hHeld ?_
 refine tY 21 opFd21 (.pointer (some ⟨tb,off + k * 12,none⟩)) hHeld ?_
 refine tY 22 opFd22 (.pointer (some ⟨tb,off + k * 12 + 1,none⟩)) hHeld ?_
 refine tY 23 opFd23 (.int .i64 x.ow) hHeld ?_
 refine wpAnyH_ready (rs := [24]) (by kernel_rfl) (by simp) ?_
 refine AllReadyH.cons (o:=opFd24) rfl (fun K hK => ?_) AllReadyH.nil
 go_simp
 refine (HBe.out _ hB3).mono ?_
 rintro e w4 ⟨rfl,hb4⟩
 have hB4 : Below w0.heap.size w0 w4:=bstep hB3 hb4
 try go_wp2_with fail
 refine hK.out _ _ (HK.out _ hB4) (fun hHeld => ?_)
 clear hK K
 try simp only [Act.put,sA,s0,sS]
 refine tY 25 opFd25 (.bool false) hHeld ?_
 refine tY 26 opFd26 (.bool false) hHeld ?_
 refine wpAnyH_done (by kernel_rfl) ?_ _
 have HB4 : Hid (Below w0.heap.size w0 w4):=hB4
 clear hb1 hB1 hb2 hB2 hb3 hB3 hb4 hB4
 obtain ⟨⟨c0,c1,c2,c3⟩,_⟩:=HK.out w4 HB4.out
 go_wp2_with fail
 refine Calls.mono (HDn.out w4 HB4.out) ?_
 rintro e w5 ⟨rfl,hb5⟩
 have HB5 : Hid (Below w0.heap.size w0 w5):=bstep HB4.out hb5
 clear hb5 c0 c1 c2 c3
 go_wp2_with fail
 go_ret
 exact ⟨rfl,bstep HB0.out HB5.out⟩
def mSo (cb : Nat) (nm : ByteArray) (ow : Int) : MD:=⟨nm,ow,2,none,0,[],(1,0,0,false),none,0,[],0,some ⟨cb,0,none⟩,1,[(46,0,0,0,0,false)],none,0,[]⟩
def mzA : Array Value:=#[.string ⟨#[]⟩,.int .i64 0,.int .i64 0,.slice none 0 0,.int .i64 0,.int .i64 0,.int .i64 0,.bool false,.slice none 0 0,.int .i64 0,.slice none 0 0,.slice none 0 0]

set_option maxHeartbeats 4000000 in
theorem fSome_any {w : World} {vb rb cb : Nat} {nm : ByteArray} {ow : Int} (hv : At w vb #[.int .i64 1,.int .i64 0,.int .i64 0,.bool false] 51) (hr : At w rb #[.slice (some ⟨cb,0,none⟩) 1 1] 52) :
  Ans 75 #[.string nm,.int .i64 ow,.pointer (some ⟨vb,0,none⟩),.pointer (some ⟨rb,0,none⟩)] w (mdV (mSo cb nm ow)):=by
 obtain ⟨w0,hw0⟩ : ∃ W,W = w.alloc (.cells mzA 55):=⟨_,rfl⟩
 have HW0 : Hid (w0 = _):=hw0
 have hb0 : Below w.heap.size w w0:=by rw [hw0]; exact made_below _ _ _
 have HB0 : Hid (Below w.heap.size w w0):=hb0
 have hz : At w0 w.heap.size mzA 55:=by rw [hw0]; exact At.made _ _ _
 have d0:=hz.cell
 have dm:=hz.melt
 have HFc:=((show At w0 w.heap.size #[.string ⟨#[]⟩,.int .i64 0,.int .i64 0,.slice none 0 0,.int .i64 0,.int .i64 0,.int .i64 0,.bool false,.slice none 0 0,.int .i64 0,.slice none 0 0,.slice none 0 0] 55 from hz).set12 (.string nm) (.int .i64 ow) (.int .i64 2) (.slice none 0 0) (.int .i64 1) (.int .i64 0) (.int .i64 0) (.bool false) (.slice none 0 0) (.int .i64 0) (.slice (some ⟨cb,0,none⟩) 1 1) (.slice none 0 0)).cell
 have v0:=(hv.later hb0).cell 0
 have v1:=(hv.later hb0).cell 1
 have v2:=(hv.later hb0).cell 2
 have v3:=(hv.later hb0).cell 3
 have r0:=(hr.later hb0).cell 0
 simp at v0 v1 v2 v3 r0
 unfold mzA at d0 HW0
 clear hz hv hr hw0 hb0
 go_enter Tryz.func75,Tryz.ntmps75
 go_wp2_with (rw [← HW0.out])
 exact bodyPost_ret (v:=mdV (mSo cb nm ow)) (by simp [results,Tryz.results75,go_sem,HFc,mdV,mSo]) rfl ⟨rfl,below_set12 HB0.out (Nat.le_refl _) _ _ _ _ _ _ _ _ _ _ _ _⟩

def gSo (t m : Option Addr) (cb : Nat) : Img:=⟨t,2,[⟨⟨#[65]⟩,0, -1,none,0,[]⟩,⟨⟨#[66]⟩,0,0,none,0,[]⟩],none,0,[],m,3,[mSo cb ⟨#[102]⟩ 0,mSo cb ⟨#[103]⟩ 0,mSo cb ⟨#[103]⟩ 1], -1⟩
theorem gSo_agg (t m : Option Addr) (cb : Nat) : imA4 (gSo t m cb) = .agg #[.slice t 2 2,.slice none 0 0,.slice m 3 3,.int .i64 (-1)]:=by kernel_rfl
theorem gSo_chk (t m : Option Addr) (cb : Nat) : schI (gSo t m cb) = (0,0,0):=by kernel_rfl
theorem gSo_fin (t m : Option Addr) (cb : Nat) : finB (gSo t m cb) = true:=by kernel_rfl
theorem gSo_tab (t m : Option Addr) (cb : Nat) : tab13 (gSo t m cb) 1 = [0,2]:=by kernel_rfl
theorem gSo_d1 (t m : Option Addr) (cb : Nat) : donI (gSo t m cb) 1 1 = 2:=by kernel_rfl
theorem gSo_d0 (t m : Option Addr) (cb : Nat) : donI (gSo t m cb) 0 1 = 1:=by kernel_rfl
theorem gSo_k1 (t m : Option Addr) (cb : Nat) : kndI (gSo t m cb) 1 = 0:=by kernel_rfl
theorem gSo_k0 (t m : Option Addr) (cb : Nat) : kndI (gSo t m cb) 0 = 0:=by kernel_rfl
theorem gSo_b1 (t m : Option Addr) (cb : Nat) : belB (gSo t m cb) 1 0 = true:=by kernel_rfl
theorem gSo_b0 (t m : Option Addr) (cb : Nat) : belB (gSo t m cb) 0 0 = true:=by kernel_rfl

theorem At.set4i {w : World} {g : Nat} {c0 c1 c2 c3 : Value} {t : TypeId} (h : At w g #[c0,c1,c2,c3] t) (x0 x1 x2 x3 : Value) : At ((((w.setCell ⟨g,0,none⟩ x0).setCell ⟨g,1,none⟩ x1).setCell ⟨g,2,none⟩ x2).setCell ⟨g,3,none⟩ x3) g #[x0,x1,x2,x3] t:=by
 have:=(((h.set 0 x0).set 1 x1).set 2 x2).set 3 x3
 simpa using this
theorem other_set4 {w : World} {g k : Nat} (hk : k ≠ g) (x0 x1 x2 x3 : Value) : ((((w.setCell ⟨g,0,none⟩ x0).setCell ⟨g,1,none⟩ x1).setCell ⟨g,2,none⟩ x2).setCell ⟨g,3,none⟩ x3).heap[k]? = w.heap[k]?:=by
 rw [Below.heap_setCell _ _ _ _ hk,Below.heap_setCell _ _ _ _ hk,Below.heap_setCell _ _ _ _ hk,Below.heap_setCell _ _ _ _ hk]
theorem so_mem {w we : World} (h : we = ((((w.alloc (.cells #[.slice none 0 0,.slice none 0 0,.slice none 0 0,.int .i64 0] 26)).alloc (.cells #[.int .i64 46,.int .i64 0,.int .i64 0,.int .i64 0,.int .i64 0,.bool false] 89)).alloc (.cells #[.int .i64 1,.int .i64 0,.int .i64 0,.bool false] 51)).alloc (.cells #[.slice (some ⟨w.heap.size + 1,0,none⟩) 1 1] 52)).alloc (.cells #[.string ⟨#[65]⟩,.int .i64 0,.int .i64 (-1),.slice none 0 0,.string ⟨#[66]⟩,.int .i64 0,.int .i64 0,.slice none 0 0] 34)) :
  Below w.heap.size w we∧At we w.heap.size #[.slice none 0 0,.slice none 0 0,.slice none 0 0,.int .i64 0] 26∧At we (w.heap.size + 1 + 1) #[.int .i64 1,.int .i64 0,.int .i64 0,.bool false] 51∧At we (w.heap.size + 1 + 1 + 1) #[.slice (some ⟨w.heap.size + 1,0,none⟩) 1 1] 52 ∧
   Es insE we (.slice (some ⟨w.heap.size + 1,0,none⟩) 1 1) [(46,0,0,0,0,false)]∧Es tdE we (.slice (some ⟨w.heap.size + 1 + 1 + 1 + 1,0,none⟩) 2 2) [⟨⟨#[65]⟩,0, -1,none,0,[]⟩,⟨⟨#[66]⟩,0,0,none,0,[]⟩]∧we.heap.size = w.heap.size + 5:=by
 obtain ⟨wa,ha⟩ : ∃ W,W = w.alloc (.cells #[.slice none 0 0,.slice none 0 0,.slice none 0 0,.int .i64 0] 26):=⟨_,rfl⟩
 obtain ⟨wb,hb⟩ : ∃ W,W = wa.alloc (.cells #[.int .i64 46,.int .i64 0,.int .i64 0,.int .i64 0,.int .i64 0,.bool false] 89):=⟨_,rfl⟩
 obtain ⟨wc,hc⟩ : ∃ W,W = wb.alloc (.cells #[.int .i64 1,.int .i64 0,.int .i64 0,.bool false] 51):=⟨_,rfl⟩
 obtain ⟨wd,hd⟩ : ∃ W,W = wc.alloc (.cells #[.slice (some ⟨w.heap.size + 1,0,none⟩) 1 1] 52):=⟨_,rfl⟩
 have he : we = wd.alloc (.cells #[.string ⟨#[65]⟩,.int .i64 0,.int .i64 (-1),.slice none 0 0,.string ⟨#[66]⟩,.int .i64 0,.int .i64 0,.slice none 0 0] 34):=by rw [h,hd,hc,hb,ha]
 have sa : wa.heap.size = w.heap.size + 1:=by rw [ha]; simp
 have sb : wb.heap.size = w.heap.size + 1 + 1:=by rw [hb]; simp [sa]
 have sc : wc.heap.size = w.heap.size + 1 + 1 + 1:=by rw [hc]; simp [sb]
 have sd : wd.heap.size = w.heap.size + 1 + 1 + 1 + 1:=by rw [hd]; simp [sc]
 have se : we.heap.size = w.heap.size + 5:=by rw [he]; simp [sd]
 have ba : Below w.heap.size w wa:=by rw [ha]; exact made_below _ _ _
 have bb : Below wa.heap.size wa wb:=by rw [hb]; exact made_below _ _ _
 have bc : Below wb.heap.size wb wc:=by rw [hc]; exact made_below _ _ _
 have bd : Below wc.heap.size wc wd:=by rw [hd]; exact made_below _ _ _
 have be : Below wd.heap.size wd we:=by rw [he]; exact made_below _ _ _
 have aa : At wa w.heap.size #[.slice none 0 0,.slice none 0 0,.slice none 0 0,.int .i64 0] 26:=by rw [ha]; exact At.made _ _ _
 have ac : At wc wb.heap.size #[.int .i64 1,.int .i64 0,.int .i64 0,.bool false] 51:=by rw [hc]; exact At.made _ _ _
 have ad : At wd wc.heap.size #[.slice (some ⟨w.heap.size + 1,0,none⟩) 1 1] 52:=by rw [hd]; exact At.made _ _ _
 have eb : Es insE wb (.slice (some ⟨wa.heap.size,0,none⟩) 1 1) [(46,0,0,0,0,false)]:=by
  rw [hb]; exact (OwnE.lit insE wa 0 89 [(46,0,0,0,0,false)] _ 1 (Nat.zero_le _) rfl rfl (by simp [maxLen])).es
 have ee : Es tdE we (.slice (some ⟨wd.heap.size,0,none⟩) 2 2) [⟨⟨#[65]⟩,0, -1,none,0,[]⟩,⟨⟨#[66]⟩,0,0,none,0,[]⟩]:=by
  rw [he]; exact (OwnE.lit tdE wd 0 34 [⟨⟨#[65]⟩,0, -1,none,0,[]⟩,⟨⟨#[66]⟩,0,0,none,0,[]⟩] _ 2 (Nat.zero_le _) rfl rfl (by simp [maxLen])).es
 rw [sa] at eb
 rw [sb] at ac
 rw [sc] at ad
 rw [sd] at ee
 have bbe:=bstep bb (bstep bc (bstep bd be))
 exact ⟨bstep ba bbe,aa.later bbe,ac.later (bstep bd be),ad.later be,eb.later (bstep bc (bstep bd be)),ee,se⟩
theorem so_end {w w4 w5 : World} {n cb tb : Nat} (h4 : Below n w w4) (hn : n = w.heap.size) (hA : At w4 n #[.slice none 0 0,.slice none 0 0,.slice none 0 0,.int .i64 0] 26) (hC : Es insE w4 (.slice (some ⟨cb,0,none⟩) 1 1) [(46,0,0,0,0,false)]) (hT : Es tdE w4 (.slice (some ⟨tb,0,none⟩) 2 2) [⟨⟨#[65]⟩,0, -1,none,0,[]⟩,⟨⟨#[66]⟩,0,0,none,0,[]⟩])
  (hc : cb ≠ n) (ht : tb ≠ n) (h5 : w5 = w4.alloc (.cells #[.string ⟨#[102]⟩,.int .i64 0,.int .i64 2,.slice none 0 0,.int .i64 1,.int .i64 0,.int .i64 0,.bool false,.slice none 0 0,.int .i64 0,.slice (some ⟨cb,0,none⟩) 1 1,.slice none 0 0,.string ⟨#[103]⟩,.int .i64 0,.int .i64 2,.slice none 0 0,.int .i64 1,.int .i64 0,.int .i64 0,.bool false,.slice none 0 0,.int .i64 0,.slice (some ⟨cb,0,none⟩) 1 1,.slice none 0 0,.string ⟨#[103]⟩,.int .i64 1,.int .i64 2,.slice none 0 0,.int .i64 1,.int .i64 0,.int .i64 0,.bool false,.slice none 0 0,.int .i64 0,.slice (some ⟨cb,0,none⟩) 1 1,.slice none 0 0] 55)) :
  At w5 n #[.slice none 0 0,.slice none 0 0,.slice none 0 0,.int .i64 0] 26∧∀ x0 x1 x2 x3,Im ((((w5.setCell ⟨n,0,none⟩ x0).setCell ⟨n,1,none⟩ x1).setCell ⟨n,2,none⟩ x2).setCell ⟨n,3,none⟩ x3) (gSo (some ⟨tb,0,none⟩) (some ⟨w4.heap.size,0,none⟩) cb)∧Below n w ((((w5.setCell ⟨n,0,none⟩ x0).setCell ⟨n,1,none⟩ x1).setCell ⟨n,2,none⟩ x2).setCell ⟨n,3,none⟩ x3):=by
 have hb5 : Below w4.heap.size w4 w5:=by rw [h5]; exact made_below _ _ _
 have hlt:=hA.lt
 have hM : Es mdE w5 (.slice (some ⟨w4.heap.size,0,none⟩) 3 3) [mSo cb ⟨#[102]⟩ 0,mSo cb ⟨#[103]⟩ 0,mSo cb ⟨#[103]⟩ 1]:=by
  rw [h5]; exact (OwnE.lit mdE w4 0 55 [mSo cb ⟨#[102]⟩ 0,mSo cb ⟨#[103]⟩ 0,mSo cb ⟨#[103]⟩ 1] _ 3 (Nat.zero_le _) rfl rfl (by simp [maxLen])).es
 refine ⟨hA.later hb5,fun x0 x1 x2 x3 => ⟨?_,below_set4 (h4.trans (hb5.mono (Nat.le_of_lt hlt))) (Nat.le_refl _) _ _ _ _⟩⟩
 obtain ⟨wF,hF⟩ : ∃ W,W = (((w5.setCell ⟨n,0,none⟩ x0).setCell ⟨n,1,none⟩ x1).setCell ⟨n,2,none⟩ x2).setCell ⟨n,3,none⟩ x3:=⟨_,rfl⟩
 rw [← hF]
 have hsz : wF.heap.size = w5.heap.size:=by rw [hF]; simp
 have hk : ∀ k,k ≠ n → wF.heap[k]? = w5.heap[k]?:=fun k hk => by rw [hF]; exact other_set4 hk _ _ _ _
 have hC5 : Es insE wF (.slice (some ⟨cb,0,none⟩) 1 1) [(46,0,0,0,0,false)]:=(hC.later hb5).of_block (Nat.le_of_eq hsz.symm) (fun k e _ => hk k (by simp [Value.ownBlock] at e; omega))
 have hok : ∀ nm ow,(mSo cb nm ow).ok wF:=fun nm ow => ⟨Es.nil _ _,Es.nil _ _,hC5,Es.nil _ _⟩
 refine ⟨(hT.later hb5).of_block (Nat.le_of_eq hsz.symm) (fun k e _ => hk k (by simp [Value.ownBlock] at e; omega)),fun x hx => ?_,Es.nil _ _,hM.of_block (Nat.le_of_eq hsz.symm) (fun k e _ => hk k (by simp [Value.ownBlock] at e; omega)),fun x hx => ?_⟩
 ·simp only [gSo,List.mem_cons,List.not_mem_nil,or_false] at hx
  rcases hx with rfl | rfl <;> exact Es.nil _ _
 ·simp only [gSo,List.mem_cons,List.not_mem_nil,or_false] at hx
  rcases hx with rfl | rfl | rfl <;> exact hok _ _

set_option maxHeartbeats 8000000 in
set_option maxRecDepth 20000 in
theorem some13_any (w : World) : Calls Tryz.prog 42 #[] w fun e w' => ∃ t m cb,e = .returned (.agg #[.slice t 2 2,.slice none 0 0,.slice m 3 3,.int .i64 (-1)])∧Im w' (gSo t m cb)∧Below w.heap.size w w':=by
 obtain ⟨we,hwe⟩ : ∃ W,W = ((((w.alloc (.cells #[.slice none 0 0,.slice none 0 0,.slice none 0 0,.int .i64 0] 26)).alloc (.cells #[.int .i64 46,.int .i64 0,.int .i64 0,.int .i64 0,.int .i64 0,.bool false] 89)).alloc (.cells #[.int .i64 1,.int .i64 0,.int .i64 0,.bool false] 51)).alloc (.cells #[.slice (some ⟨w.heap.size + 1,0,none⟩) 1 1] 52)).alloc (.cells #[.string ⟨#[65]⟩,.int .i64 0,.int .i64 (-1),.slice none 0 0,.string ⟨#[66]⟩,.int .i64 0,.int .i64 0,.slice none 0 0] 34):=⟨_,rfl⟩
 obtain ⟨hbe,hA,hV,hR,hC,hT,hse⟩:=so_mem hwe
 have HWe : Hid (we = _):=hwe
 have HBe : Hid (Below w.heap.size w we):=hbe
 have HM : Hid (∀ W nm ow,Below we.heap.size we W → Ans 75 #[.string nm,.int .i64 ow,.pointer (some ⟨w.heap.size + 1 + 1,0,none⟩),.pointer (some ⟨w.heap.size + 1 + 1 + 1,0,none⟩)] W (mdV (mSo (w.heap.size + 1) nm ow))):=fun W nm ow hW => fSome_any (hV.later hW) (hR.later hW)
 have HE : Hid (∀ w4 w5,Below we.heap.size we w4 → w5 = _ → _):=fun w4 w5 h4 h5 => so_end (n:=w.heap.size) (cb:=w.heap.size + 1) (tb:=w.heap.size + 1 + 1 + 1 + 1) (bstep hbe h4) rfl (hA.later h4) (hC.later h4) (hT.later h4) (by omega) (by omega) h5
 unfold mdV mSo at HM
 clear hwe hbe hA hV hR hC hT hse
 go_enter Tryz.func42,Tryz.ntmps42
 go_wp2_with (rw [← HWe.out])
 refine Calls.mono (HM.out we _ _ (Below.refl _ _)) ?_
 rintro e w1 ⟨rfl,hb1⟩
 have HB1 : Hid (Below we.heap.size we w1):=hb1
 clear hb1
 go_wp2_with fail
 refine Calls.mono (HM.out w1 _ _ HB1.out) ?_
 rintro e w2 ⟨rfl,hb2⟩
 have HB2 : Hid (Below we.heap.size we w2):=bstep HB1.out hb2
 clear hb2
 go_wp2_with fail
 refine Calls.mono (HM.out w2 _ _ HB2.out) ?_
 rintro e w3 ⟨rfl,hb3⟩
 have HB3 : Hid (Below we.heap.size we w3):=bstep HB2.out hb3
 clear hb3
 obtain ⟨w5,hw5⟩ : ∃ W,W = w3.alloc (.cells #[.string ⟨#[102]⟩,.int .i64 0,.int .i64 2,.slice none 0 0,.int .i64 1,.int .i64 0,.int .i64 0,.bool false,.slice none 0 0,.int .i64 0,.slice (some ⟨w.heap.size + 1,0,none⟩) 1 1,.slice none 0 0,.string ⟨#[103]⟩,.int .i64 0,.int .i64 2,.slice none 0 0,.int .i64 1,.int .i64 0,.int .i64 0,.bool false,.slice none 0 0,.int .i64 0,.slice (some ⟨w.heap.size + 1,0,none⟩) 1 1,.slice none 0 0,.string ⟨#[103]⟩,.int .i64 1,.int .i64 2,.slice none 0 0,.int .i64 1,.int .i64 0,.int .i64 0,.bool false,.slice none 0 0,.int .i64 0,.slice (some ⟨w.heap.size + 1,0,none⟩) 1 1,.slice none 0 0] 55):=⟨_,rfl⟩
 obtain ⟨hA5,hEnd⟩:=HE.out w3 w5 HB3.out hw5
 have HW5 : Hid (w5 = _):=hw5
 have HEn : Hid _:=hEnd
 have d0:=hA5.cell
 have dm:=hA5.melt
 have HFc:=(At.set4i hA5 (.slice (some ⟨w.heap.size + 1 + 1 + 1 + 1,0,none⟩) 2 2) (.slice none 0 0) (.slice (some ⟨w3.heap.size,0,none⟩) 3 3) (.int .i64 (-1))).cell
 clear hA5 hEnd hw5
 go_wp2_with (rw [← HW5.out])
 obtain ⟨hIm,hBl⟩:=HEn.out (.slice (some ⟨w.heap.size + 1 + 1 + 1 + 1,0,none⟩) 2 2) (.slice none 0 0) (.slice (some ⟨w3.heap.size,0,none⟩) 3 3) (.int .i64 (-1))
 exact bodyPost_ret (v := .agg #[.slice (some ⟨w.heap.size + 1 + 1 + 1 + 1,0,none⟩) 2 2,.slice none 0 0,.slice (some ⟨w3.heap.size,0,none⟩) 3 3,.int .i64 (-1)]) (by simp [results,Tryz.results42,go_sem,HFc]) rfl ⟨_,_,_,rfl,hIm,hBl⟩
theorem same13_any {va vb : Value} {xs ys : List Int} {w : World} (ha : Is w va xs) (hb : Is w vb ys) : Ans 17 #[va,vb] w (.bool (decide (xs = ys))):=by
 have HS : Hid (Calls Tryz.prog 41 #[va,vb] w fun e w' => e = .returned (.bool (decide (xs = ys)))∧∃ n,w' = w.drewN n):=sameI_any ha hb
 clear ha hb
 go_enter Tryz.func17,Tryz.ntmps17
 go_wp2_with fail
 refine Calls.mono HS.out ?_
 rintro e w1 ⟨rfl,n,rfl⟩
 go_wp2
 go_ret
 exact ⟨rfl,Below.drewN (Below.refl _ _) n⟩

set_option maxHeartbeats 8000000 in
set_option maxRecDepth 20000 in
theorem wakes13_any (w : World) : Ans 19 #[] w (.bool true):=by
 have HSo : Hid (∀ W,Calls Tryz.prog 42 #[] W fun e w' => ∃ t m cb,e = .returned (.agg #[.slice t 2 2,.slice none 0 0,.slice m 3 3,.int .i64 (-1)])∧Im w' (gSo t m cb)∧Below W.heap.size W w'):=fun W => some13_any W
 have HCk : Hid (∀ W t m cb,Im W (gSo t m cb) → Ans 21 #[.agg #[.slice t 2 2,.slice none 0 0,.slice m 3 3,.int .i64 (-1)]] W (.tuple #[.agg #[.int .i64 0,.int .i64 0],.int .i64 0])):=fun W t m cb h => by
  have:=check13_any h
  rw [gSo_agg,gSo_chk] at this; exact this
 have HTb : Hid (∀ W t m cb,Im W (gSo t m cb) → Calls Tryz.prog 24 #[.agg #[.slice t 2 2,.slice none 0 0,.slice m 3 3,.int .i64 (-1)],.int .i64 1] W fun e w' => (∃ a c,e = .returned (.slice a 2 c)∧Is w' (.slice a 2 c) [0,2])∧Below W.heap.size W w'):=fun W t m cb h => by
  have:=table13_any (t := 1) h
  rw [gSo_agg] at this
  refine this.mono ?_
  rintro e w' ⟨v,rfl,ho,hb⟩
  rw [gSo_tab] at ho
  obtain ⟨a,c,hv,_,_⟩:=ho.is.shape
  have hi:=ho.is
  subst hv
  exact ⟨⟨a,c,rfl,hi⟩,hb⟩
 have HF1 : Hid (∀ W t m cb,Im W (gSo t m cb) → Ans 43 #[.agg #[.slice t 2 2,.slice none 0 0,.slice m 3 3,.int .i64 (-1)],.int .i64 1,.int .i64 1] W (.int .i64 2)):=fun W t m cb h => by
  have:=find13_yes (t := 1) (k := 1) h (gSo_fin t m cb) (show 1 < 3 by omega) (gSo_k1 t m cb) (wf_of (by omega)) (gSo_b1 t m cb)
  rw [gSo_agg] at this
  rw [show donI (gSo t m cb) 1 ((1 : Nat) : Int) = 2 from gSo_d1 t m cb] at this
  exact this
 have HF0 : Hid (∀ W t m cb,Im W (gSo t m cb) → Ans 43 #[.agg #[.slice t 2 2,.slice none 0 0,.slice m 3 3,.int .i64 (-1)],.int .i64 0,.int .i64 1] W (.int .i64 1)):=fun W t m cb h => by
  have:=find13_yes (t := 0) (k := 1) h (gSo_fin t m cb) (show 1 < 3 by omega) (gSo_k0 t m cb) (wf_of (by omega)) (gSo_b0 t m cb)
  rw [gSo_agg] at this
  rw [show donI (gSo t m cb) 0 ((1 : Nat) : Int) = 1 from gSo_d0 t m cb] at this
  exact this
 have HSm : Hid (∀ W a c,Is W (.slice a 2 c) [0,2] → Ans 17 #[.slice a 2 c,.slice (some ⟨W.heap.size,0,none⟩) 2 2] (W.alloc (.cells #[.int .i64 0,.int .i64 2] 3)) (.bool true)):=fun W a c h => by
  have h2 : Is (W.alloc (.cells #[.int .i64 0,.int .i64 2] 3)) (.slice (some ⟨W.heap.size,0,none⟩) 2 2) [0,2]:=(OwnE.lit intE W 0 3 [0,2] _ 2 (Nat.zero_le _) rfl rfl (by simp [maxLen])).es.toIs
  have:=same13_any (h.later (made_below W #[.int .i64 0,.int .i64 2] 3)) h2
  simpa using this
 go_enter Tryz.func19,Tryz.ntmps19
 go_wp2_with fail
 refine Calls.mono (HSo.out w) ?_
 rintro e w1 ⟨t1,m1,c1,rfl,hi1,hb1⟩
 have HC1 : Hid _:=HCk.out w1 t1 m1 c1 hi1
 have HB1 : Hid (Below w.heap.size w w1):=hb1
 clear hi1 hb1
 go_wp2_with fail
 refine Calls.mono HC1.out ?_
 rintro e w2 ⟨rfl,hb2⟩
 have HB2 : Hid (Below w.heap.size w w2):=bstep HB1.out hb2
 clear hb2 HC1
 go_wp2_with fail
 refine Calls.mono (HSo.out _) ?_
 rintro e w4 ⟨t4,m4,c4,rfl,hi4,hb4⟩
 have HC4 : Hid _:=HTb.out w4 t4 m4 c4 hi4
 have HB4 : Hid (Below w.heap.size w w4):=bstep HB2.out (bstep (made_below _ _ _) hb4)
 clear hi4 hb4
 go_wp2_with fail
 refine Calls.mono HC4.out ?_
 rintro e w5 ⟨⟨a,c,rfl,his⟩,hb5⟩
 have HB5 : Hid (Below w.heap.size w w5):=bstep HB4.out hb5
 have HS5 : Hid _:=HSm.out w5 a c his
 clear his hb5 HC4
 go_wp2_with fail
 refine Calls.mono HS5.out ?_
 rintro e w6 ⟨rfl,hb6⟩
 have HB6 : Hid (Below w.heap.size w w6):=bstep HB5.out (bstep (made_below _ _ _) hb6)
 clear hb6 HS5
 go_wp2_with fail
 refine Calls.mono (HSo.out w6) ?_
 rintro e w7 ⟨t7,m7,c7,rfl,hi7,hb7⟩
 have HC7 : Hid _:=HF1.out w7 t7 m7 c7 hi7
 have HB7 : Hid (Below w.heap.size w w7):=bstep HB6.out hb7
 clear hi7 hb7
 go_wp2_with fail
 refine Calls.mono HC7.out ?_
 rintro e w8 ⟨rfl,hb8⟩
 have HB8 : Hid (Below w.heap.size w w8):=bstep HB7.out hb8
 clear hb8 HC7
 go_wp2_with fail
 refine Calls.mono (HSo.out w8) ?_
 rintro e w9 ⟨t9,m9,c9,rfl,hi9,hb9⟩
 have HC9 : Hid _:=HF0.out w9 t9 m9 c9 hi9
 have HB9 : Hid (Below w.heap.size w w9):=bstep HB8.out hb9
 clear hi9 hb9
 go_wp2_with fail
 refine Calls.mono HC9.out ?_
 rintro e w10 ⟨rfl,hb10⟩
 have HB10 : Hid (Below w.heap.size w w10):=bstep HB9.out hb10
 clear hb10 HC9
 go_wp2_with fail
 go_ret
 exact ⟨rfl,HB10.out⟩
end Go.Proofs.YthpmpdpfnlecmaaGreat
