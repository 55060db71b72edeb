/- Texts joined: LaySpec, LayBase, Fit14, OpenV14, OpenE9. -/
import Derived.Test.YtapocgcdjkbnhaaDoorQ04
import Derived.Test.YtapocgcdjkbnhaaDoorQ10
import Derived.Test.YtapocgcdjkbnhaaDoorQ08
import Derived.Deep.QuietTactic
import Derived.BigQuiet
import Derived.Test.YtapocgcdjkbnhaaDoorQ07
import Derived.Test.YtapocgcdjkbnhaaDoorQ05
import Derived.Test.YtapocgcdjkbnhaaDoorQ09
import Derived.Test.YtapocgcdjkbnhaaDoorQ01
import Derived.Lib.LaidU8
import Derived.FnData
namespace Go.Proofs.YtapocgcdjkbnhaaDoor
set_option linter.unusedVariables false
set_option linter.unusedSimpArgs false
open Go.RowKit
def ownF (t : Int) (x : FD) : Bool:=decide (x.ow = t) && !x.st
def hldL (g : Img) (t : Int) : List Ty:=(g.fs.filter (ownF t)).map (·.t)
def whlB (t : Ty) : Bool:=decide (t.1 ≠ 6) || (t.2.2.2 || decide (0 < t.2.2.1))
def intT : Ty:=(2,0,0,false)
def orI (l : List Ty) : List Ty:=if l = [] then [intT] else l
def oneL (t : Ty) : List Ty:=if t.1 = 1 then [] else [t]
def celK (g : Img) : Nat → Ty → List Ty
 | 0,t => oneL t
 | k + 1,t => if whlB t = true then oneL t else orI ((hldL g t.2.1).flatMap (celK g k))
def celL (g : Img) (t : Ty) : List Ty:=celK g g.ts.length t
def usdB (g : Img) (t : Ty) : Bool:=plainT t && (if t.1 = 5 then decide (kndI g t.2.1 ≠ -1) && decide (kndI g t.2.1 ≠ 1) else if t.1 = 6 then decide (kndI g t.2.1 = 1) else true)
def ownC (g : Img) (u : Int) : List Ty:=(hldL g u).flatMap (celL g)
def objL (g : Img) (t : Int) : List Ty:=(upL g t).reverse.flatMap (ownC g)
def tooB (g : Img) (t : Int) : Bool:=if kndI g t = 1 then decide (8 < (celL g (6,t,0,false)).length) else if kndI g t = 0 then decide (32 < (objL g t).length) else false
def lchI (g : Img) : Int × Int :=
 if welB g = false then (0,17) else
 match g.fs.findIdx? (fun x => !usdB g x.t) with
 | some i => ((i : Int),10)
 | none => match (List.range g.ts.length).findIdx? (fun t : Nat => tooB g (t : Int)) with
  | some t => ((t : Int),20)
  | none => (0,0)
def finB (g : Img) : Bool:=decide ((lchI g).2 = 0)
theorem knd_num {g : Img} {t : Int} (h : kndI g t ≠ -1) : numB t g.ts.length = true:=by
 cases hn : numB t g.ts.length with
 | true => rfl
 | false => exact absurd (by unfold kndI; rw [hn]; rfl) h
def AllU (g : Img) : Prop := ∀ x ∈ g.fs,usdB g x.t = true
def ValA (g : Img) : Prop := ∀ t,numB t g.ts.length = true → kndI g t = 1 → t ∉ reachL g.ts.length (prtL g) (prtL g t)
theorem ValA.of {g : Img} (h : welB g = true) : ValA g:=by
 intro t ht hk hm
 have:=((wel_all h).2 t ht).2.2.2.2
 unfold szdB at this
 rw [hk,if_neg (by decide),if_neg (by decide),if_pos rfl] at this
 rw [List.contains_iff_mem.2 hm] at this
 cases this
structure Fin_ (g : Img) : Prop where
 wel : welB g = true
 used : AllU g
 val : ∀ t,kndI g t = 1 → (celL g (6,t,0,false)).length ≤ 8
 cls : ∀ t,kndI g t = 0 → (objL g t).length ≤ 32
theorem findIdx_none {α : Type} {p : α → Bool} {l : List α} : l.findIdx? p = none ↔ ∀ x ∈ l,p x = false:=List.findIdx?_eq_none_iff
theorem Fin_.of {g : Img} (h : finB g = true) : Fin_ g:=by
 unfold finB lchI at h
 rw [decide_eq_true_iff] at h
 cases hw : welB g with
 | false => rw [hw,if_pos rfl] at h; simp at h
 | true =>
  rw [hw,if_neg (by decide)] at h
  cases h1 : g.fs.findIdx? (fun x => !usdB g x.t) with
  | some i => rw [h1] at h; simp at h
  | none =>
   rw [h1] at h
   cases h2 : (List.range g.ts.length).findIdx? (fun t : Nat => tooB g (t : Int)) with
   | some i => rw [h2] at h; simp at h
   | none =>
    rw [findIdx_none] at h1 h2
    have hT : ∀ t : Int,kndI g t ≠ -1 → tooB g t = false:=fun t ht => by
     have hn:=numB_iff.1 (knd_num ht)
     have:=h2 t.toNat (by rw [List.mem_range]; omega)
     rwa [show ((t.toNat : Nat) : Int) = t by omega] at this
    refine ⟨hw,fun x hx => by simpa using h1 x hx,fun t ht => ?_,fun t ht => ?_⟩
    ·have:=hT t (by rw [ht]; decide)
     unfold tooB at this
     rw [ht,if_pos rfl,decide_eq_false_iff_not] at this
     omega
    ·have:=hT t (by rw [ht]; decide)
     unfold tooB at this
     rw [ht,if_neg (by decide),if_pos rfl,decide_eq_false_iff_not] at this
     omega
end Go.Proofs.YtapocgcdjkbnhaaDoor

namespace Go.Proofs.YtapocgcdjkbnhaaDoor
set_option linter.unusedVariables false
set_option linter.unusedSimpArgs false
open Go.RowKit
attribute [local go_sem ↓] Go.wp_at_zero Go.wp_at_succ
def Im4 (W : World) (b : Nat) (g : Img) : Prop:=W.cell? ⟨b,0,none⟩ = some (.slice g.ta g.ts.length g.tc)∧W.cell? ⟨b,1,none⟩ = some (.slice g.fa g.fs.length g.fc)∧W.cell? ⟨b,2,none⟩ = some (.slice g.ma g.ms.length g.mc)∧W.cell? ⟨b,3,none⟩ = some (.int .i64 g.en)
theorem img_type_head {w : World} {g : Img} (hg : Im w g) (t : Ty) : ∃ w0,Hid (w0 = (w.alloc (.cells #[.slice g.ta g.ts.length g.tc,.slice g.fa g.fs.length g.fc,.slice g.ma g.ms.length g.mc,.int .i64 g.en] 26)).alloc (.cells #[.int .i64 t.1,.int .i64 t.2.1,.int .i64 t.2.2.1,.bool t.2.2.2] 28))∧Hid (Below w.heap.size w w0)∧Hid (∀ W,Below w0.heap.size w0 W → Im4 W w.heap.size g∧(W.cell? ⟨w.heap.size + 1,0,none⟩ = some (.int .i64 t.1)∧W.cell? ⟨w.heap.size + 1,1,none⟩ = some (.int .i64 t.2.1)∧W.cell? ⟨w.heap.size + 1,2,none⟩ = some (.int .i64 t.2.2.1)∧W.cell? ⟨w.heap.size + 1,3,none⟩ = some (.bool t.2.2.2)))∧Hid (∀ W,Below w0.heap.size w0 W → Im W g):=by
 obtain ⟨w0,hw0⟩ : ∃ W,W = (w.alloc (.cells (imC g) 26)).alloc (.cells (tyA t) 28):=⟨_,rfl⟩
 obtain ⟨hb0,hat⟩:=two_boxes hw0
 refine ⟨w0,hw0,hb0,fun W hW => ⟨?_, ?_⟩,fun W hW => (hg.later hb0).later hW⟩
 ·have h:=(hat W hW).1
  exact ⟨h.cell 0,h.cell 1,h.cell 2,h.cell 3⟩
 ·have h:=(hat W hW).2
  exact ⟨h.cell 0,h.cell 1,h.cell 2,h.cell 3⟩
abbrev Ans (f : FuncId) (xs : Array Value) (W : World) (v : Value) : Prop:=Calls Tryd.prog f xs W fun e w' => e = .returned v∧Below W.heap.size W w'
def imA4 (g : Img) : Value := .agg #[.slice g.ta g.ts.length g.tc,.slice g.fa g.fs.length g.fc,.slice g.ma g.ms.length g.mc,.int .i64 g.en]
def Ty4 (W : World) (p : Nat) (t : Ty) : Prop:=W.cell? ⟨p,0,none⟩ = some (.int .i64 t.1)∧W.cell? ⟨p,1,none⟩ = some (.int .i64 t.2.1)∧W.cell? ⟨p,2,none⟩ = some (.int .i64 t.2.2.1)∧W.cell? ⟨p,3,none⟩ = some (.bool t.2.2.2)
theorem Ty4.of {W : World} {p : Nat} {t : Ty} (h : At W p (tyA t) 28) : Ty4 W p t:=⟨h.cell 0,h.cell 1,h.cell 2,h.cell 3⟩
def Wd14 (W : World) : Prop := 2 ≤ W.heap.size∧Ty4 W 0 (7,0,0,false)∧Ty4 W 1 (4,0,0,false)
theorem Wd14.later {w w' : World} (h : Wd14 w) (hb : Below w.heap.size w w') : Wd14 w':=by
 obtain ⟨h1,⟨a0,a1,a2,a3⟩,⟨b0,b1,b2,b3⟩⟩:=h
 have hs:=hb.size
 have hc : ∀ b o,b < w.heap.size → w'.cell? ⟨b,o,none⟩ = w.cell? ⟨b,o,none⟩:=fun b o h => hb.cell (p:=⟨b,o,none⟩) h
 refine ⟨by omega,⟨?_, ?_, ?_, ?_⟩,⟨?_, ?_, ?_, ?_⟩⟩
 all_goals (rw [hc _ _ (by omega)]; assumption)
theorem fit_head {w : World} {g : Img} (hg : Im w g) (a b : Ty) : ∃ w0,Hid (w0 = ((w.alloc (.cells #[.slice g.ta g.ts.length g.tc,.slice g.fa g.fs.length g.fc,.slice g.ma g.ms.length g.mc,.int .i64 g.en] 26)).alloc (.cells #[.int .i64 a.1,.int .i64 a.2.1,.int .i64 a.2.2.1,.bool a.2.2.2] 28)).alloc (.cells #[.int .i64 b.1,.int .i64 b.2.1,.int .i64 b.2.2.1,.bool b.2.2.2] 28))∧Hid (Below w.heap.size w w0) ∧
  Hid (∀ W,Below w0.heap.size w0 W → Im4 W w.heap.size g∧Ty4 W (w.heap.size + 1) a∧Ty4 W (w.heap.size + 2) b)∧Hid (∀ W,Below w0.heap.size w0 W → Im W g):=by
 obtain ⟨w1,hw1⟩ : ∃ W,W = (w.alloc (.cells (imC g) 26)).alloc (.cells (tyA a) 28):=⟨_,rfl⟩
 obtain ⟨hb1,hat⟩:=two_boxes hw1
 have hs1 : w1.heap.size = w.heap.size + 2:=by subst hw1; simp
 obtain ⟨w0,hw0⟩ : ∃ W,W = w1.alloc (.cells (tyA b) 28):=⟨_,rfl⟩
 have hb0 : Below w1.heap.size w1 w0:=by rw [hw0]; exact made_below _ _ _
 have ht0 : At w0 w1.heap.size (tyA b) 28:=by rw [hw0]; exact At.made _ _ _
 refine ⟨w0,by rw [hw0,hw1]; rfl,bstep hb1 hb0,fun W hW => ?_,fun W hW => hg.later (bstep (bstep hb1 hb0) hW)⟩
 obtain ⟨h1,h2⟩:=hat W (bstep hb0 hW)
 have h3:=ht0.later hW
 rw [hs1] at h3
 exact ⟨⟨h1.cell 0,h1.cell 1,h1.cell 2,h1.cell 3⟩,Ty4.of h2,Ty4.of h3⟩

set_option maxHeartbeats 1000000 in
theorem is14_any (t : Ty) (k : Int) (w : World) : Ans 17 #[.agg #[.int .i64 t.1,.int .i64 t.2.1,.int .i64 t.2.2.1,.bool t.2.2.2],.int .i64 k] w (.bool (isT t k)):=by
 go_enter Tryd.func17,Tryd.ntmps17
 go_wp2
 all_goals go_ret
 all_goals refine ⟨ret_bool ?_,(Below.refl _ _).alloc (Nat.le_refl _) _⟩
 all_goals try simp only [beq_iff_eq,beq_eq_false_iff_ne,ne_eq] at *
 all_goals (unfold isT; rw [Bool.eq_iff_iff]; simp; try omega)

set_option maxHeartbeats 1000000 in
theorem object14_any (t : Ty) (w : World) : Ans 15 #[.agg #[.int .i64 t.1,.int .i64 t.2.1,.int .i64 t.2.2.1,.bool t.2.2.2]] w (.bool (objT t)):=by
 obtain ⟨a,b,c,d⟩:=t
 go_enter Tryd.func15,Tryd.ntmps15
 cases d
 all_goals go_wp2
 all_goals go_ret
 all_goals refine ⟨ret_bool ?_,(Below.refl _ _).alloc (Nat.le_refl _) _⟩
 all_goals try simp only [beq_iff_eq,beq_eq_false_iff_ne,ne_eq] at *
 all_goals (unfold objT; rw [Bool.eq_iff_iff]; simp; try omega)

set_option maxHeartbeats 4000000 in
theorem fits14_gen {g : Img} {a b : Ty} {w : World} (hg : Im w g) (hi : imB g = true) (hd : Wd14 w) (ha : isT a 5 = true → objT a = true → objT b = true → isT b 4 = false → Wf a.2.1) :
  Ans 10 #[imA4 g,.agg #[.int .i64 a.1,.int .i64 a.2.1,.int .i64 a.2.2.1,.bool a.2.2.2],.agg #[.int .i64 b.1,.int .i64 b.2.1,.int .i64 b.2.2.1,.bool b.2.2.2]] w (.bool (fitT g a b)):=by
 obtain ⟨w0,HW0,HB0,HC,HI⟩:=fit_head hg a b
 have HOa : Hid (∀ W,Ans 15 #[.agg #[.int .i64 a.1,.int .i64 a.2.1,.int .i64 a.2.2.1,.bool a.2.2.2]] W (.bool (objT a))):=fun W => object14_any a W
 have HOb : Hid (∀ W,Ans 15 #[.agg #[.int .i64 b.1,.int .i64 b.2.1,.int .i64 b.2.2.1,.bool b.2.2.2]] W (.bool (objT b))):=fun W => object14_any b W
 have HIa : Hid (∀ W,Ans 17 #[.agg #[.int .i64 a.1,.int .i64 a.2.1,.int .i64 a.2.2.1,.bool a.2.2.2],.int .i64 8] W (.bool (isT a 8))∧Ans 17 #[.agg #[.int .i64 a.1,.int .i64 a.2.1,.int .i64 a.2.2.1,.bool a.2.2.2],.int .i64 5] W (.bool (isT a 5))∧Ans 17 #[.agg #[.int .i64 a.1,.int .i64 a.2.1,.int .i64 a.2.2.1,.bool a.2.2.2],.int .i64 7] W (.bool (isT a 7))):=fun W => ⟨is14_any a 8 W,is14_any a 5 W,is14_any a 7 W⟩
 have HIb : Hid (∀ W,Ans 17 #[.agg #[.int .i64 b.1,.int .i64 b.2.1,.int .i64 b.2.2.1,.bool b.2.2.2],.int .i64 4] W (.bool (isT b 4))∧Ans 17 #[.agg #[.int .i64 b.1,.int .i64 b.2.1,.int .i64 b.2.2.1,.bool b.2.2.2],.int .i64 5] W (.bool (isT b 5))∧Ans 17 #[.agg #[.int .i64 b.1,.int .i64 b.2.1,.int .i64 b.2.2.1,.bool b.2.2.2],.int .i64 7] W (.bool (isT b 7))):=fun W => ⟨is14_any b 4 W,is14_any b 5 W,is14_any b 7 W⟩
 have HBe : Hid (∀ W,Below w0.heap.size w0 W → isT a 5 = true → objT a = true → objT b = true → isT b 4 = false → Ans 18 #[imA4 g,.int .i64 a.2.1,.int .i64 b.2.1] W (.bool (belB g a.2.1 b.2.1))):=fun W hW h5 h6 h7 h8 => below_any (HI.out W hW) hi (ha h5 h6 h7 h8)
 have HD : Hid (∀ W,Below w0.heap.size w0 W → W.cell? ⟨0,0,none⟩ = some (.int .i64 7)∧W.cell? ⟨0,1,none⟩ = some (.int .i64 0)∧W.cell? ⟨0,2,none⟩ = some (.int .i64 0)∧W.cell? ⟨0,3,none⟩ = some (.bool false)):=fun W hW => ((hd.later HB0.out).later hW).2.1
 have HR : Hid (fitT g a b = (decide (a = b) || (objT a && objT b && (isT a 8 || isT b 4 || (isT a 5 && isT b 5 && belB g a.2.1 b.2.1) || (isT a 7 && isT b 7 && decide (b = (7,0,0,false))))))):=rfl
 have H57 : Hid (isT a 5 = true → isT a 7 = false):=fun h => by
  have:=(isT_iff.1 h).1
  unfold isT
  rw [this]; rfl
 have hq : ∀ W : World,(binOp .eql 28 (.agg #[.int .i64 a.1,.int .i64 a.2.1,.int .i64 a.2.2.1,.bool a.2.2.2]) (.agg #[.int .i64 b.1,.int .i64 b.2.1,.int .i64 b.2.2.1,.bool b.2.2.2])).run Tryd.prog W = .ok (.bool (decide (a = b))) W:=fun W => eq_ty2 W a b
 have hq7 : ∀ W : World,(binOp .eql 28 (.agg #[.int .i64 b.1,.int .i64 b.2.1,.int .i64 b.2.2.1,.bool b.2.2.2]) (.agg #[.int .i64 7,.int .i64 0,.int .i64 0,.bool false])).run Tryd.prog W = .ok (.bool (decide (b = (7,0,0,false)))) W:=fun W => eq_ty2 W b (7,0,0,false)
 obtain ⟨⟨c0,c1,c2,c3⟩,⟨d0,d1,d2,d3⟩,⟨e0,e1,e2,e3⟩⟩:=HC.out w0 (Below.refl _ _)
 unfold imA4 at HBe ⊢
 unfold Im4 Ty4 at HC
 clear hg hi hd ha HI
 generalize fitT g a b = R at *
 generalize decide (a = b) = ab at *
 generalize decide (b = (7,0,0,false)) = b7 at *
 generalize objT a = oa at *
 generalize objT b = ob at *
 generalize isT a 8 = a8 at *
 generalize isT b 4 = b4 at *
 generalize isT a 5 = a5 at *
 generalize isT b 5 = b5 at *
 generalize isT a 7 = a7 at *
 generalize isT b 7 = bb7 at *
 generalize belB g a.2.1 b.2.1 = bl at *
 obtain ⟨ak,ai,ad,ar⟩:=a
 obtain ⟨bk,bi,bd,br⟩:=b
 simp only at HW0 HOa HOb HIa HIb HBe HC hq hq7 d0 d1 d2 d3 e0 e1 e2 e3 ⊢
 go_enter Tryd.func10,Tryd.ntmps10
 cases ab with
 | true =>
  go_wp2_with (rw [← HW0.out])
  go_ret
  exact ⟨ret_bool (by rw [HR.out]; rfl),HB0.out⟩
 | false =>
 go_wp2_with (rw [← HW0.out])
 refine Calls.mono (HOa.out w0) ?_
 rintro e w1 ⟨rfl,hb1⟩
 have HB1 : Hid (Below w0.heap.size w0 w1):=hb1
 clear hb1 c0 c1 c2 c3 d0 d1 d2 d3 e0 e1 e2 e3 HW0
 obtain ⟨⟨c0,c1,c2,c3⟩,⟨d0,d1,d2,d3⟩,⟨e0,e1,e2,e3⟩⟩:=HC.out w1 HB1.out
 cases oa with
 | false =>
  go_wp2_with fail
  go_ret
  exact ⟨ret_bool (by rw [HR.out]; rfl),bstep HB0.out HB1.out⟩
 | true =>
 go_wp2_with fail
 refine Calls.mono (HOb.out w1) ?_
 rintro e w2 ⟨rfl,hb2⟩
 have HB2 : Hid (Below w0.heap.size w0 w2):=bstep HB1.out hb2
 clear hb2 c0 c1 c2 c3 d0 d1 d2 d3 e0 e1 e2 e3
 obtain ⟨⟨c0,c1,c2,c3⟩,⟨d0,d1,d2,d3⟩,⟨e0,e1,e2,e3⟩⟩:=HC.out w2 HB2.out
 cases ob with
 | false =>
  go_wp2_with fail
  go_ret
  exact ⟨ret_bool (by rw [HR.out]; rfl),bstep HB0.out HB2.out⟩
 | true =>
 go_wp2_with fail
 refine Calls.mono (HIa.out w2).1 ?_
 rintro e w3 ⟨rfl,hb3⟩
 have HB3 : Hid (Below w0.heap.size w0 w3):=bstep HB2.out hb3
 clear hb3 c0 c1 c2 c3 d0 d1 d2 d3 e0 e1 e2 e3
 obtain ⟨⟨c0,c1,c2,c3⟩,⟨d0,d1,d2,d3⟩,⟨e0,e1,e2,e3⟩⟩:=HC.out w3 HB3.out
 cases a8 with
 | true =>
  go_wp2_with fail
  go_ret
  exact ⟨ret_bool (by rw [HR.out]; rfl),bstep HB0.out HB3.out⟩
 | false =>
 go_wp2_with fail
 refine Calls.mono (HIb.out w3).1 ?_
 rintro e w4 ⟨rfl,hb4⟩
 have HB4 : Hid (Below w0.heap.size w0 w4):=bstep HB3.out hb4
 clear hb4 c0 c1 c2 c3 d0 d1 d2 d3 e0 e1 e2 e3
 obtain ⟨⟨c0,c1,c2,c3⟩,⟨d0,d1,d2,d3⟩,⟨e0,e1,e2,e3⟩⟩:=HC.out w4 HB4.out
 cases b4 with
 | true =>
  go_wp2_with fail
  go_ret
  exact ⟨ret_bool (by rw [HR.out]; rfl),bstep HB0.out HB4.out⟩
 | false =>
 go_wp2_with fail
 refine Calls.mono (HIa.out w4).2.1 ?_
 rintro e w5 ⟨rfl,hb5⟩
 have HB5 : Hid (Below w0.heap.size w0 w5):=bstep HB4.out hb5
 clear hb5 c0 c1 c2 c3 d0 d1 d2 d3 e0 e1 e2 e3
 obtain ⟨⟨c0,c1,c2,c3⟩,⟨d0,d1,d2,d3⟩,⟨e0,e1,e2,e3⟩⟩:=HC.out w5 HB5.out
 cases a5 with
 | true =>
  go_wp2_with fail
  refine Calls.mono (HIb.out w5).2.1 ?_
  rintro e w6 ⟨rfl,hb6⟩
  have HB6 : Hid (Below w0.heap.size w0 w6):=bstep HB5.out hb6
  clear hb6 c0 c1 c2 c3 d0 d1 d2 d3 e0 e1 e2 e3
  obtain ⟨⟨c0,c1,c2,c3⟩,⟨d0,d1,d2,d3⟩,⟨e0,e1,e2,e3⟩⟩:=HC.out w6 HB6.out
  cases b5 with
  | true =>
   go_wp2_with fail
   refine Calls.mono (HBe.out w6 HB6.out (by trivial) (by trivial) (by trivial) (by trivial)) ?_
   rintro e w7 ⟨rfl,hb7⟩
   have HB7 : Hid (Below w0.heap.size w0 w7):=bstep HB6.out hb7
   clear hb7 c0 c1 c2 c3 d0 d1 d2 d3 e0 e1 e2 e3
   have HA7 : Hid (R = bl):=by
    show _ = _
    rw [HR.out,H57.out (by trivial)]
    cases bl <;> rfl
   go_wp2_with fail
   go_ret
   exact ⟨ret_bool HA7.out.symm,bstep HB0.out HB7.out⟩
  | false =>
   go_wp2_with fail
   refine Calls.mono (HIa.out w6).2.2 ?_
   rintro e w7 ⟨rfl,hb7⟩
   have HB7 : Hid (Below w0.heap.size w0 w7):=bstep HB6.out hb7
   clear hb7 c0 c1 c2 c3 d0 d1 d2 d3 e0 e1 e2 e3
   obtain ⟨⟨c0,c1,c2,c3⟩,⟨d0,d1,d2,d3⟩,⟨e0,e1,e2,e3⟩⟩:=HC.out w7 HB7.out
   cases a7 with
   | false =>
    go_wp2_with fail
    go_ret
    exact ⟨ret_bool (by rw [HR.out]; rfl),bstep HB0.out HB7.out⟩
   | true =>
    go_wp2_with fail
    refine Calls.mono (HIb.out w7).2.2 ?_
    rintro e w8 ⟨rfl,hb8⟩
    have HB8 : Hid (Below w0.heap.size w0 w8):=bstep HB7.out hb8
    clear hb8 c0 c1 c2 c3 d0 d1 d2 d3 e0 e1 e2 e3
    obtain ⟨⟨c0,c1,c2,c3⟩,⟨d0,d1,d2,d3⟩,⟨e0,e1,e2,e3⟩⟩:=HC.out w8 HB8.out
    obtain ⟨f0,f1,f2,f3⟩:=HD.out w8 HB8.out
    cases bb7 with
    | false =>
     go_wp2_with fail
     go_ret
     exact ⟨ret_bool (by rw [HR.out]; rfl),bstep HB0.out HB8.out⟩
    | true =>
     go_wp2_with fail
     go_ret
     exact ⟨ret_bool (by rw [HR.out]; rfl),bstep HB0.out HB8.out⟩
 | false =>
  go_wp2_with fail
  refine Calls.mono (HIa.out w5).2.2 ?_
  rintro e w7 ⟨rfl,hb7⟩
  have HB7 : Hid (Below w0.heap.size w0 w7):=bstep HB5.out hb7
  clear hb7 c0 c1 c2 c3 d0 d1 d2 d3 e0 e1 e2 e3
  obtain ⟨⟨c0,c1,c2,c3⟩,⟨d0,d1,d2,d3⟩,⟨e0,e1,e2,e3⟩⟩:=HC.out w7 HB7.out
  cases a7 with
  | false =>
   go_wp2_with fail
   go_ret
   exact ⟨ret_bool (by rw [HR.out]; rfl),bstep HB0.out HB7.out⟩
  | true =>
   go_wp2_with fail
   refine Calls.mono (HIb.out w7).2.2 ?_
   rintro e w8 ⟨rfl,hb8⟩
   have HB8 : Hid (Below w0.heap.size w0 w8):=bstep HB7.out hb8
   clear hb8 c0 c1 c2 c3 d0 d1 d2 d3 e0 e1 e2 e3
   obtain ⟨⟨c0,c1,c2,c3⟩,⟨d0,d1,d2,d3⟩,⟨e0,e1,e2,e3⟩⟩:=HC.out w8 HB8.out
   obtain ⟨f0,f1,f2,f3⟩:=HD.out w8 HB8.out
   cases bb7 with
   | false =>
    go_wp2_with fail
    go_ret
    exact ⟨ret_bool (by rw [HR.out]; rfl),bstep HB0.out HB8.out⟩
   | true =>
    go_wp2_with fail
    go_ret
    exact ⟨ret_bool (by rw [HR.out]; rfl),bstep HB0.out HB8.out⟩

theorem fits14_any {g : Img} {a b : Ty} {w : World} (hg : Im w g) (hi : imB g = true) (hd : Wd14 w) (ha : a.1 = 5 → Wf a.2.1) :
  Ans 10 #[imA4 g,.agg #[.int .i64 a.1,.int .i64 a.2.1,.int .i64 a.2.2.1,.bool a.2.2.2],.agg #[.int .i64 b.1,.int .i64 b.2.1,.int .i64 b.2.2.1,.bool b.2.2.2]] w (.bool (fitT g a b)) :=
 fits14_gen hg hi hd fun h _ _ _ => ha (isT_iff.1 h).1
theorem fits14_not {g : Img} {a b : Ty} {w : World} (hn : objT a = false ∨ objT b = false ∨ isT a 8 = true ∨ isT b 4 = true) (hg : Im w g) (hi : imB g = true) (hd : Wd14 w) :
  Ans 10 #[imA4 g,.agg #[.int .i64 a.1,.int .i64 a.2.1,.int .i64 a.2.2.1,.bool a.2.2.2],.agg #[.int .i64 b.1,.int .i64 b.2.1,.int .i64 b.2.2.1,.bool b.2.2.2]] w (.bool (fitT g a b)) :=
 fits14_gen hg hi hd fun h5 h1 h2 h4 => by
  rcases hn with h | h | h | h
  ·rw [h1] at h; cases h
  ·rw [h2] at h; cases h
  ·have e1:=(isT_iff.1 h5).1
   have e2:=(isT_iff.1 h).1
   omega
  ·rw [h4] at h; cases h
end Go.Proofs.YtapocgcdjkbnhaaDoor

namespace Go.Proofs.YtapocgcdjkbnhaaDoor
set_option linter.unusedVariables false
set_option linter.unusedSimpArgs false
open Go.RowKit
theorem tyCells_lit {H : Type} {enc : TypeId × Value → H} {W : World} {base : Nat} {sp : Nat → Bool} {held : Bool} {cs : List Value} {n : Nat} {k i d : Int} {r : Bool} {p : List MemPlace}
  (h : DataW.trod enc Tryd.prog W base sp held n 28 cs = some (.agg [.lit (.int .i64 k),.lit (.int .i64 i),.lit (.int .i64 d),.lit (.bool r)],p)) : cs = [.int .i64 k,.int .i64 i,.int .i64 d,.bool r]:=by
 obtain ⟨y0,y1,y2,y3,m,hx,hl,h0,h1,h2,h3⟩:=Go.Joins.trod_struct4 Tryd.underlying28 h
 rw [Tryd.cellsTy] at hl
 obtain ⟨c0,c1,c2,c3,rfl⟩:=list4 hl
 simp only [Tryd.cellsInt,Tryd.cellsBool,List.drop_zero,List.drop_succ_cons,List.take_succ_cons,List.take_zero] at h0 h1 h2 h3
 obtain ⟨x0,e0,rfl,_⟩:=DataW.trod_int Tryd.underlying3 h0
 obtain ⟨x1,e1,rfl,_⟩:=DataW.trod_int Tryd.underlying3 h1
 obtain ⟨x2,e2,rfl,_⟩:=DataW.trod_int Tryd.underlying3 h2
 obtain ⟨x3,e3,rfl⟩:=DataW.trod_bool Tryd.underlying4 h3
 simp only [List.cons.injEq,and_true] at e0 e1 e2 e3
 subst e0 e1 e2 e3
 simp only [Prod.mk.injEq,DataW.agg.injEq,List.cons.injEq,DataW.lit.injEq,Lit.int.injEq,Lit.bool.injEq,true_and,and_true] at hx
 obtain ⟨⟨rfl,rfl,rfl,rfl⟩,_⟩:=hx
 rfl
theorem gObj : Tryd.prog.globalNamed "cattlegrid/fit.anyObject" = some 1:=by kernel_rfl
theorem gFault : Tryd.prog.globalNamed "cattlegrid/fit.anyFault" = some 0:=by kernel_rfl
theorem gObjType : (Tryd.prog.globals[1]?).map (·.type) = some 28:=by kernel_rfl
theorem gFaultType : (Tryd.prog.globals[0]?).map (·.type) = some 28:=by kernel_rfl
theorem ty4_of_reads {W : World} {n : String} {q : Nat} {k i d : Int} {r : Bool} (hg : Tryd.prog.globalNamed n = some q) (ht : (Tryd.prog.globals[q]?).map (·.type) = some 28)
  (h : Lib.VarReads Tryd.prog W n (.agg [.lit (.int .i64 k),.lit (.int .i64 i),.lit (.int .i64 d),.lit (.bool r)])) : Ty4 W q (k,i,d,r):=by
 obtain ⟨q',t,cs,fuel,p,h1,h2,h3,h4⟩:=h
 obtain rfl:=Option.some.inj (hg.symm.trans h1)
 obtain rfl:=Option.some.inj (ht.symm.trans h2)
 have hcs:=tyCells_lit h4
 have hc : cs = #[.int .i64 k,.int .i64 i,.int .i64 d,.bool r]:=by
  apply Array.toList_inj.1
  simpa using hcs
 have hv:=World.var?_cell h1 h3
 rw [hc] at hv
 exact ⟨hv 0,hv 1,hv 2,hv 3⟩
theorem wd14_of_laid {W : World} (h : laidMetH Tryd.prog [("cattlegrid/fit.anyObject",Rows.laid_cattlegrid_fit_anyObject),("cattlegrid/fit.anyFault",Rows.laid_cattlegrid_fit_anyFault)] W) : Wd14 W:=by
 have hm : laidMet Tryd.prog [("cattlegrid/fit.anyObject",Rows.laid_cattlegrid_fit_anyObject),("cattlegrid/fit.anyFault",Rows.laid_cattlegrid_fit_anyFault)] W:=h
 have r1 : Ty4 W 1 (4,0,0,false):=ty4_of_reads gObj gObjType (Lib.laidMet.reads hm (List.mem_cons_self ..))
 have r0 : Ty4 W 0 (7,0,0,false):=ty4_of_reads gFault gFaultType (Lib.laidMet.reads hm (List.mem_cons_of_mem _ (List.mem_cons_self ..)))
 refine ⟨?_,r0,r1⟩
 have:=World.block_lt_of_cell? W _ r1.1
 simp at this
 omega
end Go.Proofs.YtapocgcdjkbnhaaDoor

namespace Go.Proofs.YtapocgcdjkbnhaaDoor
set_option linter.unusedVariables false
set_option linter.unusedSimpArgs false
open Go.ChangeShapes Go.WideShapes Go.ChangeAt Go.RowKit
theorem openEs1 {α : Type} (E : Enc α) (dft : α) {P : Program} {H : Type} {enc : TypeId × Value → H} {W : World} {v : Value} {n : Nat} {y : DataW H × List MemPlace} (ts t : TypeId) (ht : P.underlying ts = some (.slice t)) (hcells : P.cellsOf t = E.size)
  (hel : ∀ (cs : List Value) (n : Nat) (y : DataW H × List MemPlace),cs.length = E.size → DataW.trod enc P W 0 (fun _ => true) true n t cs = some y → ∃ x,cs = E.cells x)
  (h : DataW.trod enc P W 0 (fun _ => true) true n ts [v] = some y) : ∃ l,Es E W v l:=by
 haveI : Inhabited α:=⟨dft⟩
 rcases Go.Deep.open_slice ht h with ⟨hcs,_⟩ | ⟨a,len,cap,m,k,D,Pl,hcs,_,hl,hm,hmm,_,hx⟩
 ·simp at hcs
  subst hcs
  exact ⟨[],Es.nil E W⟩
 ·simp at hcs
  subst hcs
  simp only [if_true] at hmm
  rw [hcells] at hx
  obtain ⟨f,hf⟩:=Go.Deep.choose_lt (n:=len) (p:=fun i (x : α) => ∀ j u,(E.cells x)[j]? = some u → W.cell? (a.add (i * E.size + j)) = some u) fun i hi => by
   obtain ⟨cs',h1,h2⟩:=hx i (by omega)
   obtain ⟨_,hlen,h3⟩:=World.cells?_some h1
   obtain ⟨x,hxc⟩:=hel _ _ _ (by simpa using hlen) h2
   refine ⟨x,fun j u hj => ?_⟩
   have hjl : j < E.size:=by rw [← E.len x]; exact (List.getElem?_eq_some_iff.1 hj).1
   have g:=h3 j hjl
   rw [Go.Deep.add_add a (i * E.size) j] at g
   rw [g]
   have hx2 : cs'[j]? = some u:=by
    have:=congrArg (fun t => t[j]?) hxc
    rw [hj] at this
    simpa using this
   exact hx2
  refine ⟨(List.range len).map f,some a,cap,by simp,by simpa using hl,hm,fun hne => ?_⟩
  have hpos : 0 < len:=by
   rcases Nat.eq_zero_or_pos len with h | h
   ·subst h; simp at hne
   ·exact h
  obtain ⟨u0,hu0⟩ : ∃ u,(E.cells (f 0))[0]? = some u:=by
   have:=E.pos
   rw [← E.len (f 0)] at this
   exact ⟨_,List.getElem?_eq_getElem this⟩
  have h0:=hf 0 hpos 0 u0 hu0
  obtain ⟨b,off,spot⟩:=a
  have hspot : spot = none:=by simpa [Addr.add] using World.cell?_spot h0
  subst hspot
  have hplain : ∀ i,(⟨b,off,none⟩ : Addr).add i = ⟨b,off + i,none⟩:=fun i => by unfold Addr.add; split <;> simp_all
  have hb : b < W.heap.size:=by have:=World.block_lt_of_cell? W _ h0; simpa [Addr.add] using this
  have hes : Es E W (.slice (some ⟨b,off,none⟩) ((List.range len).map f).length cap) ((List.range len).map f):=by
   refine Es.of_parts (by simpa using hl) hm hb fun i hi j u hj => ?_
   simp only [List.length_map,List.length_range] at hi
   simp only [List.getElem_map,List.getElem_range] at hj
   have:=hf i hi j u hj
   rw [hplain,← Nat.add_assoc] at this
   exact this
  obtain ⟨_,_,he,_,_,h3⟩:=hes
  simp only [Value.slice.injEq] at he
  obtain ⟨rfl,_,_⟩:=he
  exact h3 hne

theorem list10 {α : Type} {cs : List α} (h : cs.length = 10) : ∃ c0 c1 c2 c3 c4 c5 c6 c7 c8 c9,cs = [c0,c1,c2,c3,c4,c5,c6,c7,c8,c9]:=by
 match cs,h with
 | [c0,c1,c2,c3,c4,c5,c6,c7,c8,c9],_ => exact ⟨c0,c1,c2,c3,c4,c5,c6,c7,c8,c9,rfl⟩
theorem list7 {α : Type} {cs : List α} (h : cs.length = 7) : ∃ c0 c1 c2 c3 c4 c5 c6,cs = [c0,c1,c2,c3,c4,c5,c6]:=by
 match cs,h with
 | [c0,c1,c2,c3,c4,c5,c6],_ => exact ⟨c0,c1,c2,c3,c4,c5,c6,rfl⟩
theorem Tryd.cellsClause : Tryd.prog.cellsOf 84 = 10:=by kernel_rfl

theorem clauseCells {H : Type} {enc : TypeId × Value → H} {W : World} (cs : List Value) (n : Nat) (y : DataW H × List MemPlace) (hl : cs.length = 10)
  (h : DataW.trod enc Tryd.prog W 0 (fun _ => true) true n 84 cs = some y) : ∃ x : Cl,cs = clC x:=by
 obtain ⟨c0,c1,c2,c3,c4,c5,c6,c7,c8,c9,rfl⟩:=list10 hl
 obtain ⟨xs,m,_,_,_,hlen,hf⟩:=DataW.trod_struct Tryd.underlying84 h
 obtain ⟨y0,y1,y2,y3,y4,y5,y6,rfl⟩:=list7 (show xs.length = 7 from hlen)
 have h0 : DataW.trod enc Tryd.prog W 0 (fun _ => true) true m 3 [c0] = some y0:=by
  have:=hf 0 _ rfl
  simpa [Tryd.cellsInt] using this
 have h1 : DataW.trod enc Tryd.prog W 0 (fun _ => true) true m 3 [c1] = some y1:=by
  have:=hf 1 _ rfl
  simpa [Tryd.cellsInt] using this
 have h2 : DataW.trod enc Tryd.prog W 0 (fun _ => true) true m 3 [c2] = some y2:=by
  have:=hf 2 _ rfl
  simpa [Tryd.cellsInt] using this
 have h3 : DataW.trod enc Tryd.prog W 0 (fun _ => true) true m 3 [c3] = some y3:=by
  have:=hf 3 _ rfl
  simpa [Tryd.cellsInt] using this
 have h4 : DataW.trod enc Tryd.prog W 0 (fun _ => true) true m 3 [c4] = some y4:=by
  have:=hf 4 _ rfl
  simpa [Tryd.cellsInt] using this
 have h5 : DataW.trod enc Tryd.prog W 0 (fun _ => true) true m 3 [c5] = some y5:=by
  have:=hf 5 _ rfl
  simpa [Tryd.cellsInt] using this
 have h6 : DataW.trod enc Tryd.prog W 0 (fun _ => true) true m 28 [c6,c7,c8,c9] = some y6:=by
  have:=hf 6 _ rfl
  simpa [Tryd.cellsInt,Tryd.cellsTy] using this
 obtain ⟨x0,e0,_,_⟩:=DataW.trod_int Tryd.underlying3 h0
 obtain ⟨x1,e1,_,_⟩:=DataW.trod_int Tryd.underlying3 h1
 obtain ⟨x2,e2,_,_⟩:=DataW.trod_int Tryd.underlying3 h2
 obtain ⟨x3,e3,_,_⟩:=DataW.trod_int Tryd.underlying3 h3
 obtain ⟨x4,e4,_,_⟩:=DataW.trod_int Tryd.underlying3 h4
 obtain ⟨x5,e5,_,_⟩:=DataW.trod_int Tryd.underlying3 h5
 obtain ⟨t,e6⟩:=tyCells h6
 simp only [List.cons.injEq,and_true] at e0 e1 e2 e3 e4 e5 e6
 obtain ⟨rfl,rfl,rfl,rfl⟩:=e6
 subst e0 e1 e2 e3 e4 e5
 exact ⟨⟨x0,x1,x2,x3,x4,x5,t.1,t.2.1,t.2.2.1,t.2.2.2⟩,rfl⟩
end Go.Proofs.YtapocgcdjkbnhaaDoor
