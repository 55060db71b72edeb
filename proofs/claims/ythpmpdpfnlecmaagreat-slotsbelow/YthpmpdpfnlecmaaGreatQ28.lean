/- Texts joined: Tabl13. -/
import Derived.Test.YthpmpdpfnlecmaaGreatQ27
import Derived.Test.YthpmpdpfnlecmaaGreatQ10
namespace Go.Proofs.YthpmpdpfnlecmaaGreat
set_option linter.unusedVariables false
set_option linter.unusedSimpArgs false
open Go.RowKit
attribute [local go_sem ↓] Go.wp_at_zero Go.wp_at_succ
theorem At.set5 {w : World} {g : Nat} {c0 c1 c2 c3 c4 : Value} {t : TypeId} (h : At w g #[c0,c1,c2,c3,c4] t) (x0 x1 x2 x3 x4 : Value) :
  At (((((w.setCell ⟨g,0,none⟩ x0).setCell ⟨g,1,none⟩ x1).setCell ⟨g,2,none⟩ x2).setCell ⟨g,3,none⟩ x3).setCell ⟨g,4,none⟩ x4) g #[x0,x1,x2,x3,x4] t:=by
 have:=((((h.set 0 x0).set 1 x1).set 2 x2).set 3 x3).set 4 x4
 simpa using this
theorem below_set5 {B g : Nat} {w w1 : World} (h : Below B w w1) (hg : B ≤ g) (x0 x1 x2 x3 x4 : Value) : Below B w (((((w1.setCell ⟨g,0,none⟩ x0).setCell ⟨g,1,none⟩ x1).setCell ⟨g,2,none⟩ x2).setCell ⟨g,3,none⟩ x3).setCell ⟨g,4,none⟩ x4) :=
 ((((h.setCell hg _).setCell hg _).setCell hg _).setCell hg _).setCell hg _
theorem other_set5 {w : World} {g k : Nat} (hk : k ≠ g) (x0 x1 x2 x3 x4 : Value) : (((((w.setCell ⟨g,0,none⟩ x0).setCell ⟨g,1,none⟩ x1).setCell ⟨g,2,none⟩ x2).setCell ⟨g,3,none⟩ x3).setCell ⟨g,4,none⟩ x4).heap[k]? = w.heap[k]?:=by
 rw [Below.heap_setCell _ _ _ _ hk,Below.heap_setCell _ _ _ _ hk,Below.heap_setCell _ _ _ _ hk,Below.heap_setCell _ _ _ _ hk,Below.heap_setCell _ _ _ _ hk]

def tbZ : Array Value:=#[.slice none 0 0,.slice none 0 0,.slice none 0 0,.int .i64 0,.slice none 0 0]
theorem tab_head {w : World} {g : Img} (hg : Im w g) : ∃ w0,Hid (w0 = (w.alloc (.cells #[.slice g.ta g.ts.length g.tc,.slice g.fa g.fs.length g.fc,.slice g.ma g.ms.length g.mc,.int .i64 g.en] 26)).alloc (.cells #[.slice none 0 0,.slice none 0 0,.slice none 0 0,.int .i64 0,.slice none 0 0] 77))∧Hid (Below w.heap.size w w0) ∧
  Hid (∀ W,Below w0.heap.size w0 W → Im4 W w.heap.size g∧At W (w.heap.size + 1) tbZ 77)∧Hid (∀ W,Below w0.heap.size w0 W → Im W g):=by
 obtain ⟨w0,hw0⟩ : ∃ W,W = (w.alloc (.cells (imC g) 26)).alloc (.cells tbZ 77):=⟨_,rfl⟩
 obtain ⟨hb0,hat⟩:=two_boxes hw0
 refine ⟨w0,hw0,hb0,fun W hW => ⟨?_,(hat W hW).2⟩,fun W hW => (hg.later hb0).later hW⟩
 have h:=(hat W hW).1
 exact ⟨h.cell 0,h.cell 1,h.cell 2,h.cell 3⟩
def TabC (g : Img) (t : Int) (w : World) : Prop:=Calls Tryz.prog 55 #[imA4 g,.int .i64 t] w fun e w' => ∃ v,e = .returned (tbV g v)∧OwnI w' w.heap.size v (tabL g t)∧Below w.heap.size w w'

set_option maxHeartbeats 4000000 in
theorem tableOf_none {g : Img} {w : World} (hg : Im w g) : TabC g (-1) w:=by
 obtain ⟨w0,HW0,HB0,HC,HI⟩:=tab_head hg
 obtain ⟨⟨c0,c1,c2,c3⟩,hz⟩:=HC.out w0 (Below.refl _ _)
 have HZ : Hid (At w0 (w.heap.size + 1) tbZ 77):=hz
 have d0:=hz.cell
 have dm:=hz.melt
 have HFc:=((show At w0 (w.heap.size + 1) #[.slice none 0 0,.slice none 0 0,.slice none 0 0,.int .i64 0,.slice none 0 0] 77 from hz).set5 (.slice g.ta g.ts.length g.tc) (.slice g.fa g.fs.length g.fc) (.slice g.ma g.ms.length g.mc) (.int .i64 g.en) (.slice none 0 0)).cell
 unfold TabC
 have HT : Hid (tabL g (-1) = []):=tabL_out rfl
 unfold tbZ at d0
 unfold imA4
 clear hz hg
 go_enter Tryz.func55,Tryz.ntmps55
 go_wp2_with (rw [← HW0.out])
 exact bodyPost_ret (v:=tbV g (.slice none 0 0)) (by simp [results,Tryz.results55,go_sem,HFc,tbV]) rfl ⟨_,rfl,by rw [HT.out]; exact OwnI.nil _ _,below_set5 HB0.out (by omega) _ _ _ _ _⟩

abbrev opTb0 : Oper := { dst:=some 12,op:=Op.load 26 (Operand.tmp 2),type := 26,pos := "table.go:25",after:=#[],guard:=none }
abbrev opTb1 : Oper := { dst:=some 13,op:=Op.fieldAddr 26 (Operand.tmp 2) 0,type := 0,pos := "table.go:25",after:=#[],guard:=none }
abbrev opTb2 : Oper := { dst:=some 14,op:=Op.load 22 (Operand.tmp 13),type := 22,pos := "table.go:25",after:=#[{ on := 1,ground:=Ground.data }],guard:=none }
abbrev opTb3 : Oper := { dst:=some 15,op:=Op.move (Operand.tmp 1),type := 3,pos := "table.go:25",after:=#[],guard:=none }
abbrev opTb4 : Oper := { dst:=some 16,op:=Op.indexAddr 22 (Operand.tmp 14) (Operand.tmp 15),type := 0,pos := "table.go:25",after:=#[{ on := 2,ground:=Ground.data }, { on := 3,ground:=Ground.data }],guard:=none }
abbrev opTb5 : Oper := { dst:=some 17,op:=Op.fieldAddr 34 (Operand.tmp 16) 2,type := 0,pos := "table.go:25",after:=#[{ on := 4,ground:=Ground.data }],guard:=none }
abbrev opTb6 : Oper := { dst:=some 18,op:=Op.load 3 (Operand.tmp 17),type := 3,pos := "table.go:25",after:=#[{ on := 5,ground:=Ground.data }],guard:=none }
abbrev opTb7 : Oper := { dst:=some 19,op:=Op.call { callee:=Callee.value (Operand.func 55),args:=#[Operand.tmp 12,Operand.tmp 18],argTypes:=#[26,3] },type := 77,pos := "table.go:25",after:=#[{ on := 0,ground:=Ground.data }, { on := 6,ground:=Ground.data }],guard:=none }
abbrev opTb8 : Oper := { dst:=some 20,op:=Op.build 105 #[(0,Operand.tmp 19)],type := 105,pos := "table.go:25",after:=#[{ on := 7,ground:=Ground.data }],guard:=none }
abbrev opTb9 : Oper := { dst:=some 5,op:=Op.alloc 105,type := 0,pos := "table.go:25",after:=#[],guard:=none }
abbrev opTb10 : Oper := { dst:=none,op:=Op.store 105 (Operand.tmp 5) (Operand.tmp 20),type := 0,pos := "table.go:25",after:=#[{ on := 9,ground:=Ground.data }, { on := 8,ground:=Ground.data }, { on := 7,ground:=Ground.chain }, { on := 0,ground:=Ground.phase }, { on := 1,ground:=Ground.phase }, { on := 2,ground:=Ground.phase }, { on := 3,ground:=Ground.phase }, { on := 4,ground:=Ground.phase }, { on := 5,ground:=Ground.phase }, { on := 6,ground:=Ground.phase }, { on := 7,ground:=Ground.phase }, { on := 8,ground:=Ground.phase }, { on := 9,ground:=Ground.phase }],guard:=none }
theorem ex_cases {g : Img} (W : Wel g) {q : Nat} (hq : q < g.ts.length) : g.ts[q].ex = -1 ∨ numB g.ts[q].ex g.ts.length = true:=by
 have hn : numB (q : Int) g.ts.length = true:=numB_iff.2 (by omega)
 have hx:=W.ext _ hn
 unfold extB at hx
 rw [exI_at hq,Bool.and_eq_true,Bool.or_eq_true] at hx
 rcases hx.1 with h | h
 ·exact Or.inl (by simpa using h)
 ·rw [Bool.and_eq_true] at h
  refine Or.inr (knd_num ?_)
  have : kndI g g.ts[q].ex = 0:=by simpa using h.1
  rw [this]; decide
theorem vir_take {g : Img} {V T0 : List Int} {i : Nat} (hi : i < V.length) : (V.take (i + 1)).foldl (putL g) T0 = putL g ((V.take i).foldl (putL g) T0) V[i]:=by
 rw [List.take_succ_eq_append_getElem hi,List.foldl_append]; rfl

def Sep13 (w : World) (vv : Value) (cb : Nat) (mv : Value) : Prop := ∀ k,vv.ownBlock = some k → k < w.heap.size∧k ≠ cb∧mv.ownBlock ≠ some k
theorem Sep13.next {w w' : World} {vv mv mv' : Value} {cb : Nat} (h : Sep13 w vv cb mv) (hk : Kept13 w w' cb mv mv') : Sep13 w' vv cb mv':=fun k e => by
 obtain ⟨h1,h2,h3⟩:=h k e
 refine ⟨Nat.lt_of_lt_of_le h1 hk.size,h2,fun e2 => ?_⟩
 rcases hk.place k e2 with e3 | e3
 ·exact h3 e3
 ·omega
theorem Sep13.is {w w' : World} {vv mv mv' : Value} {cb : Nat} {l : List Int} (h : Sep13 w vv cb mv) (hk : Kept13 w w' cb mv mv') (hi : Is w vv l) : Is w' vv l :=
 hi.keep hk.size fun k e => by
  obtain ⟨h1,h2,h3⟩:=h k e
  exact hk.block k h1 h2 h3

set_option maxHeartbeats 16000000 in
set_option maxRecDepth 20000 in
theorem tableOf_step {g : Img} {q : Nat} {w : World} (hg : Im w g) (hw : welB g = true) (hq : q < g.ts.length) (IH : ∀ W,Im W g → TabC g g.ts[q].ex W) : TabC g (q : Int) w:=by
 obtain ⟨w0,HW0,HB0,HC,HI⟩:=tab_head hg
 have W0:=Wel.of hw
 have hi:=W0.im
 have hln:=im_len hi
 have hn : numB (q : Int) g.ts.length = true:=numB_iff.2 (by omega)
 have HRec : Hid (∀ W,Below w0.heap.size w0 W → Calls Tryz.prog 55 #[imA4 g,.int .i64 g.ts[q].ex] W fun e w' => ∃ v,e = .returned (tbV g v)∧OwnI w' W.heap.size v (tabL g g.ts[q].ex)∧Below W.heap.size W w'):=fun W hW => IH W (HI.out W hW)
 have HVr : Hid (∀ W,Below w0.heap.size w0 W → Calls Tryz.prog 93 #[imA4 g,.int .i64 q] W fun e w' => ∃ v,e = .returned v∧OwnI w' W.heap.size v (virL g (q : Int))∧Below W.heap.size W w'):=fun W hW => virtuals_any (HI.out W hW) hi
 have HT : Hid (tabL g (q : Int) = (virL g (q : Int)).foldl (putL g) (tabL g g.ts[q].ex)):=by show _ = _; rw [tabL_cons W0 hn,exI_at hq]
 have HTn : Hid (∀ x ∈ tabL g g.ts[q].ex,mNum g x):=fun x hx => tab_num hx
 have HVn : Hid (∀ x ∈ virL g (q : Int),mNum g x):=fun x hx => vir_num hx
 have hvl:=vir_len g (q : Int)
 have htl : (tabL g g.ts[q].ex).length ≤ 2048:=by
  have h1:=tab_len (g:=g) g.ts[q].ex
  have h2 : g.ts.length * g.ms.length ≤ 32 * 64:=Nat.mul_le_mul hln.1 hln.2.2
  omega
 have HPut : Hid (∀ (W : World) (cb : Nat) (mv : Value) (L : List Int) (m : Int),Cls13 w0 W cb g mv L → (∀ x ∈ L,mNum g x) → L.length ≤ 10000 → mNum g m → Calls Tryz.prog 94 #[.pointer (some ⟨cb,0,none⟩),.int .i64 m] W fun e w' => e = .returned (.tuple #[])∧∃ mv',Cls13 w0 w' cb g mv' (putL g L m)∧Kept13 W w' cb mv mv'):=fun W cb mv L m h1 h2 h3 h4 => put13_any h1 hi h2 h3 h4
 obtain ⟨tb,off,cap,hv,h1,h2,hb,hc⟩:=(HI.out w0 (Below.refl _ _)).ts.parts (by intro e; rw [e] at hq; simp at hq)
 simp only [Value.slice.injEq] at hv
 obtain ⟨hta,_,hcap⟩:=hv
 subst hcap
 have HEx : Hid (∀ W,Below w0.heap.size w0 W → W.cell? ⟨tb,off + q * 4 + 2,none⟩ = some (.int .i64 g.ts[q].ex)):=fun W hW => ((show El tdE w0 tb (off + q * 4) g.ts[q] from hc q hq).below hW hb).cells_T.2.2.1
 have HK : Hid (∀ W,Below w0.heap.size w0 W → Im4 W w.heap.size g∧W.cell? ⟨tb,off + q * 4 + 2,none⟩ = some (.int .i64 g.ts[q].ex)):=fun W hW => ⟨(HC.out W hW).1,HEx.out W hW⟩
 have HRb : Hid (∀ W,Below w0.heap.size w0 W → At W (w.heap.size + 1) tbZ 77):=fun W hW => (HC.out W hW).2
 have HIw : Hid (Im w0 g):=HI.out w0 (Below.refl _ _)
 have hqi : (q : Int) < (g.ts.length : Int):=by omega
 obtain ⟨⟨c0,c1,c2,c3⟩,hz⟩:=HC.out w0 (Below.refl _ _)
 have hxe:=HEx.out w0 (Below.refl _ _)
 rw [hta] at c0
 have HTA : Hid (g.ta = some ⟨tb,off,none⟩):=hta
 unfold maxLen at h2
 unfold TabC
 unfold imA4 at HRec HVr ⊢
 unfold tbV at HRec ⊢
 unfold Im4 at HK
 clear hz hc hg hw IH W0 hi HC HI HEx
 generalize tabL g g.ts[q].ex = T0 at *
 generalize tabL g (q : Int) = R at *
 generalize virL g (q : Int) = V at *
 generalize g.ts[q] = x at *
 rw [hta] at HW0 HRec HVr HK ⊢
 clear hta
 go_enter Tryz.func55,Tryz.ntmps55
 go_wp2_with (rw [← HW0.out])
 refine wp_region_held_drew (S:=(fun W : World => (W.cell? ⟨w.heap.size,0,none⟩ = some (.slice (some ⟨tb,off,none⟩) g.ts.length g.tc)∧W.cell? ⟨w.heap.size,1,none⟩ = some (.slice g.fa g.fs.length g.fc)∧W.cell? ⟨w.heap.size,2,none⟩ = some (.slice g.ma g.ms.length g.mc)∧W.cell? ⟨w.heap.size,3,none⟩ = some (.int .i64 g.en))∧W.cell? ⟨tb,off + q * 4 + 2,none⟩ = some (.int .i64 x.ex))) (by kernel_rfl) (HK.out _ (bdrew _)) (fun hHeld => ?_)
 refine tY 0 opTb0 (.agg #[.slice (some ⟨tb,off,none⟩) g.ts.length g.tc,.slice g.fa g.fs.length g.fc,.slice g.ma g.ms.length g.mc,.int .i64 g.en]) hHeld ?_
 refine tY 1 opTb1 (.pointer (some ⟨w.heap.size,0,none⟩)) hHeld ?_
 refine tY 2 opTb2 (.slice (some ⟨tb,off,none⟩) g.ts.length g.tc) hHeld ?_
 refine tY 3 opTb3 (.int .i64 (q : Int)) hHeld ?_
 refine tY 4 opTb4 (.pointer (some ⟨tb,off + q * 4,none⟩)) hHeld ?_
 refine tY 5 opTb5 (.pointer (some ⟨tb,off + q * 4 + 2,none⟩)) hHeld ?_
 refine tY 6 opTb6 (.int .i64 x.ex) hHeld ?_
 refine wpAnyH_ready (rs := [7,9]) (by kernel_rfl) (by simp) ?_
 refine AllReadyH.cons (o:=opTb7) rfl (fun K hK => ?_) (AllReadyH.cons (o:=opTb9) rfl (fun K hK => ?_) AllReadyH.nil)
 focus
  go_simp
  refine (HRec.out _ (bdrew _)).mono ?_
  rintro e w1 ⟨tv,rfl,ho1,hb1⟩
  obtain ⟨va,vc,htv,_,hvc⟩:=ho1.is.shape
  subst htv
  have hBc : Below w0.heap.size w0 w1:=bstep (bdrew _) hb1
  try go_wp2_with fail
  refine hK.out _ _ (HK.out _ hBc) (fun hHeld => ?_)
  clear hK K
  try simp only [Act.put,sA,s0,sS]
  refine tY 8 opTb8 (.agg #[.slice (some ⟨tb,off,none⟩) g.ts.length g.tc,.slice g.fa g.fs.length g.fc,.slice g.ma g.ms.length g.mc,.int .i64 g.en,.slice va T0.length vc]) hHeld ?_
  refine wpAnyH_ready (rs := [9]) (by kernel_rfl) (by simp) ?_
  refine AllReadyH.cons (o:=opTb9) rfl (fun K hK => ?_) AllReadyH.nil
  go_simp
  obtain ⟨wB,hwB⟩ : ∃ W,W = w1.alloc (.cells #[.slice none 0 0,.slice none 0 0,.slice none 0 0,.int .i64 0,.slice none 0 0] 105):=⟨_,rfl⟩
  rw [← hwB]
  have hbB : Below w1.heap.size w1 wB:=by rw [hwB]; exact made_below _ _ _
  have hAt : At wB w1.heap.size #[.slice none 0 0,.slice none 0 0,.slice none 0 0,.int .i64 0,.slice none 0 0] 105:=by rw [hwB]; exact At.made _ _ _
  have HBB : Hid (Below w0.heap.size w0 wB):=bstep hBc hbB
  have HOB : Hid (OwnI wB w0.heap.size (.slice va T0.length vc) T0):=ho1.later hbB
  have hcl : w0.heap.size ≤ w1.heap.size:=hBc.size
  clear hwB hbB ho1 hb1 hBc
  generalize w1.heap.size = cb at *
  refine hK.out _ _ (HK.out _ HBB.out) (fun hHeld => ?_)
  clear hK K
  try simp only [Act.put,sA,s0,sS]
  have hxB:=hAt.cell
  have hmB:=hAt.melt
  refine wpAnyH_ready (rs := [10]) (by kernel_rfl) (by simp) ?_
  refine AllReadyH.cons (o:=opTb10) rfl (fun K hK => ?_) AllReadyH.nil
  go_simp
  refine hK.out _ _ (HK.out _ (below_set5 HBB.out hcl _ _ _ _ _)) (fun hHeld => ?_)
  clear hK K
  try simp only [Act.put,sA,s0,sS]
  refine wpAnyH_done (by kernel_rfl) ?_ _
  obtain ⟨wS,hwS⟩ : ∃ W,W = (((((wB.setCell ⟨cb,0,none⟩ (.slice (some ⟨tb,off,none⟩) g.ts.length g.tc)).setCell ⟨cb,1,none⟩ (.slice g.fa g.fs.length g.fc)).setCell ⟨cb,2,none⟩ (.slice g.ma g.ms.length g.mc)).setCell ⟨cb,3,none⟩ (.int .i64 g.en)).setCell ⟨cb,4,none⟩ (.slice va T0.length vc)):=⟨_,rfl⟩
  rw [← hwS]
  have HCl : Hid (Cls13 w0 wS cb g (.slice va T0.length vc) T0):=by
   refine ⟨HIw.out, ?_, ?_, ?_,hcl⟩
   ·rw [hwS]; exact below_set5 HBB.out hcl _ _ _ _ _
   ·have:=hAt.set5 (.slice (some ⟨tb,off,none⟩) g.ts.length g.tc) (.slice g.fa g.fs.length g.fc) (.slice g.ma g.ms.length g.mc) (.int .i64 g.en) (.slice va T0.length vc)
    rw [← hwS] at this
    unfold tbC
    rw [HTA.out]; exact this
   ·rw [hwS]
    refine HOB.out.of_block fun k hk _ => other_set5 (fun e => ?_) _ _ _ _ _
    exact HOB.out.ne hAt (by decide) (e ▸ hk)
  clear hwS hAt hcl HBB HOB hHeld hxB hmB
 rotate_left
 focus
  go_simp
  obtain ⟨wA,hwA⟩ : ∃ W,W = (w0.alloc (.cells #[.slice none 0 0,.slice none 0 0,.slice none 0 0,.int .i64 0,.slice none 0 0] 105)).drew:=⟨_,rfl⟩
  rw [← hwA]
  have hbA : Below w0.heap.size w0 wA:=by rw [hwA]; exact (made_below _ _ _).drew
  have hAA : At wA w0.heap.size #[.slice none 0 0,.slice none 0 0,.slice none 0 0,.int .i64 0,.slice none 0 0] 105:=by rw [hwA]; exact At.made _ _ _
  have hcl : w0.heap.size ≤ w0.heap.size:=Nat.le_refl _
  clear hwA
  refine hK.out _ _ (HK.out _ hbA) (fun hHeld => ?_)
  clear hK K
  try simp only [Act.put,sA,s0,sS]
  refine wpAnyH_ready (rs := [7]) (by kernel_rfl) (by simp) ?_
  refine AllReadyH.cons (o:=opTb7) rfl (fun K hK => ?_) AllReadyH.nil
  go_simp
  refine (HRec.out wA hbA).mono ?_
  rintro e wB ⟨tv,rfl,ho1,hb1⟩
  obtain ⟨va,vc,htv,_,hvc⟩:=ho1.is.shape
  subst htv
  have hAt:=hAA.later hb1
  have HBB : Hid (Below w0.heap.size w0 wB):=bstep hbA hb1
  have HOB : Hid (OwnI wB w0.heap.size (.slice va T0.length vc) T0):=ho1.mono hbA.size
  clear hbA hAA ho1 hb1
  try go_wp2_with fail
  refine hK.out _ _ (HK.out _ HBB.out) (fun hHeld => ?_)
  clear hK K
  try simp only [Act.put,sA,s0,sS]
  obtain ⟨cb,hcb⟩ : ∃ c,c = w0.heap.size:=⟨_,rfl⟩
  rw [← hcb] at hAt ⊢
  replace hcl : w0.heap.size ≤ cb:=by omega
  clear hcb
  refine tY 8 opTb8 (.agg #[.slice (some ⟨tb,off,none⟩) g.ts.length g.tc,.slice g.fa g.fs.length g.fc,.slice g.ma g.ms.length g.mc,.int .i64 g.en,.slice va T0.length vc]) hHeld ?_
  have hxB:=hAt.cell
  have hmB:=hAt.melt
  refine wpAnyH_ready (rs := [10]) (by kernel_rfl) (by simp) ?_
  refine AllReadyH.cons (o:=opTb10) rfl (fun K hK => ?_) AllReadyH.nil
  go_simp
  refine hK.out _ _ (HK.out _ (below_set5 HBB.out hcl _ _ _ _ _)) (fun hHeld => ?_)
  clear hK K
  try simp only [Act.put,sA,s0,sS]
  refine wpAnyH_done (by kernel_rfl) ?_ _
  obtain ⟨wS,hwS⟩ : ∃ W,W = (((((wB.setCell ⟨cb,0,none⟩ (.slice (some ⟨tb,off,none⟩) g.ts.length g.tc)).setCell ⟨cb,1,none⟩ (.slice g.fa g.fs.length g.fc)).setCell ⟨cb,2,none⟩ (.slice g.ma g.ms.length g.mc)).setCell ⟨cb,3,none⟩ (.int .i64 g.en)).setCell ⟨cb,4,none⟩ (.slice va T0.length vc)):=⟨_,rfl⟩
  rw [← hwS]
  have HCl : Hid (Cls13 w0 wS cb g (.slice va T0.length vc) T0):=by
   refine ⟨HIw.out, ?_, ?_, ?_,hcl⟩
   ·rw [hwS]; exact below_set5 HBB.out hcl _ _ _ _ _
   ·have:=hAt.set5 (.slice (some ⟨tb,off,none⟩) g.ts.length g.tc) (.slice g.fa g.fs.length g.fc) (.slice g.ma g.ms.length g.mc) (.int .i64 g.en) (.slice va T0.length vc)
    rw [← hwS] at this
    unfold tbC
    rw [HTA.out]; exact this
   ·rw [hwS]
    refine HOB.out.of_block fun k hk _ => other_set5 (fun e => ?_) _ _ _ _ _
    exact HOB.out.ne hAt (by decide) (e ▸ hk)
  clear hwS hAt hcl HBB HOB hHeld hxB hmB
 all_goals clear hxe c0 c1 c2 c3
 all_goals
  obtain ⟨⟨c0,c1,c2,c3⟩,_⟩:=HK.out wS HCl.out.bel
  go_wp2_with fail
  refine Calls.mono (HVr.out wS HCl.out.bel) ?_
  rintro e w2 ⟨vv,rfl,ho2,hb2⟩
  have HC2 : Hid (Cls13 w0 w2 cb g (.slice va T0.length vc) T0):=HCl.out.later hb2
  have hsp : Sep13 w2 vv cb (.slice va T0.length vc):=fun k e => by
   have h1:=ho2.block k e
   have h2:=HCl.out.box.lt
   refine ⟨h1.2,by omega,fun e2 => ?_⟩
   have h3:=HCl.out.own.block k e2
   omega
  obtain ⟨ua,uc,hvv,_,huc⟩:=ho2.is.shape
  have hvi:=ho2.is
  subst hvv
  have HV2 : Hid (Is w2 (.slice ua V.length uc) V):=hvi
  have HS2 : Hid (Sep13 w2 (.slice ua V.length uc) cb (.slice va T0.length vc)):=hsp
  have hva : V.length ≤ 64:=by omega
  unfold maxLen at huc
  clear ho2 hb2 hvi hsp c0 c1 c2 c3 HVr HRec HCl
  go_wp2_with fail
  go_loopw [7,25] (fun _ z wr => ∃ (i : Nat) (mv : Value),i ≤ V.length∧z = .int .i64 i∧Hid (Cls13 w0 wr cb g mv ((V.take i).foldl (putL g) T0))∧Hid (Is wr (.slice ua V.length uc) V)∧Hid (Sep13 wr (.slice ua V.length uc) cb mv)) (fun _ z _ => V.length - (intOf z).toNat)
  case atStart => exact ⟨0,_,Nat.zero_le _,rfl,HC2.out,HV2.out,HS2.out⟩
  case round =>
   obtain ⟨i,mv,hil0,rfl,HCr,HVs,HSs⟩:=hrel
   by_cases hil : i < V.length
   ·have hii : (i : Int) < (V.length : Int):=by omega
    have HNx : Hid ((V.take (i + 1)).foldl (putL g) T0 = putL g ((V.take i).foldl (putL g) T0) V[i]):=vir_take hil
    obtain ⟨lb,loff,hla,hlb,_,h6',h7',hcv⟩:=(HVs.out).at hil
    have cA:=hcv i hil
    have HPq : Hid _:=HPut.out wr cb mv _ V[i] HCr.out (fun x hx => by
     rcases fold_mem hx with hx | hx
     ·exact HTn.out x hx
     ·exact HVn.out x (List.mem_of_mem_take hx)) (by
      have:=fold_len (g:=g) (V.take i) T0
      rw [List.length_take] at this
      omega) (HVn.out _ (List.getElem_mem hil))
    subst hla
    clear hcv
    generalize V[i] = y at *
    go_wp2_with fail
    refine Calls.mono HPq.out ?_
    rintro e w3 ⟨rfl,mv',hc3,hk3⟩
    have HC3 : Hid (Cls13 w0 w3 cb g mv' ((V.take (i + 1)).foldl (putL g) T0)):=by show Cls13 _ _ _ _ _ _; rw [HNx.out]; exact hc3
    have HV3 : Hid (Is w3 (.slice (some ⟨lb,loff,none⟩) V.length uc) V):=HSs.out.is hk3 HVs.out
    have HS3 : Hid (Sep13 w3 (.slice (some ⟨lb,loff,none⟩) V.length uc) cb mv'):=HSs.out.next hk3
    clear hc3 hk3 HPq cA
    go_wp2_with fail
    go_roundw
    case rel => exact ⟨i + 1,mv',by omega,by go_num,HC3.out,HV3.out,HS3.out⟩
    case measure => simp [intOf]; omega
   ·have hii : ¬ (i : Int) < (V.length : Int):=by omega
    have HE : Hid (Cls13 w0 wr cb g mv R):=by
     have:=HCr.out
     rw [List.take_of_length_le (by omega),← HT.out] at this
     exact this
    obtain ⟨ma,mc,hmv,_,_⟩:=HE.out.own.is.shape
    subst hmv
    obtain ⟨c0,c1,c2,c3,c4⟩:=Tb5.of HE.out.box
    rw [HTA.out] at c0
    have hz:=HRb.out wr HE.out.bel
    have d0:=hz.cell
    have dm:=hz.melt
    have HFc:=((show At wr (w.heap.size + 1) #[.slice none 0 0,.slice none 0 0,.slice none 0 0,.int .i64 0,.slice none 0 0] 77 from hz).set5 (.slice (some ⟨tb,off,none⟩) g.ts.length g.tc) (.slice g.fa g.fs.length g.fc) (.slice g.ma g.ms.length g.mc) (.int .i64 g.en) (.slice ma R.length mc)).cell
    unfold tbZ at d0
    have HO : Hid (OwnI (((((wr.setCell ⟨w.heap.size + 1,0,none⟩ (.slice (some ⟨tb,off,none⟩) g.ts.length g.tc)).setCell ⟨w.heap.size + 1,1,none⟩ (.slice g.fa g.fs.length g.fc)).setCell ⟨w.heap.size + 1,2,none⟩ (.slice g.ma g.ms.length g.mc)).setCell ⟨w.heap.size + 1,3,none⟩ (.int .i64 g.en)).setCell ⟨w.heap.size + 1,4,none⟩ (.slice ma R.length mc)) w.heap.size (.slice ma R.length mc) R):=by
     refine (HE.out.own.mono HB0.out.size).of_block fun k hk _ => other_set5 (fun e => ?_) _ _ _ _ _
     exact HE.out.own.ne hz (by decide) (e ▸ hk)
    have HBf:=below_set5 (bstep HB0.out HE.out.bel) (Nat.le_succ w.heap.size) (.slice (some ⟨tb,off,none⟩) g.ts.length g.tc) (.slice g.fa g.fs.length g.fc) (.slice g.ma g.ms.length g.mc) (.int .i64 g.en) (.slice ma R.length mc)
    have HBF : Hid _:=HBf
    clear hz HBf HCr HVs HSs HE
    go_wp2_with fail
    exact bodyPost_ret (v := .agg #[.slice (some ⟨tb,off,none⟩) g.ts.length g.tc,.slice g.fa g.fs.length g.fc,.slice g.ma g.ms.length g.mc,.int .i64 g.en,.slice ma R.length mc]) (by simp [results,Tryz.results55,go_sem,HFc]) rfl ⟨_,rfl,HO.out,HBF.out⟩

theorem tableOf_all {g : Img} (hw : welB g = true) : ∀ (n : Nat) (t : Int) (w : World),(t = -1 ∨ numB t g.ts.length = true) → (upL g t).length ≤ n → Im w g → TabC g t w
 | n,t,w,h,hn,hg => by
  rcases h with rfl | h
  ·exact tableOf_none hg
  ·have W:=Wel.of hw
   obtain ⟨q,hq,rfl⟩ : ∃ q : Nat,q < g.ts.length∧t = q:=⟨t.toNat,by have:=numB_iff.1 h; omega,by have:=numB_iff.1 h; omega⟩
   have hc:=upL_cons W h
   rw [exI_at hq] at hc
   match n with
   | 0 => rw [hc] at hn; simp at hn
   | n + 1 => exact tableOf_step hg hw hq (fun W2 hW2 => tableOf_all hw n _ W2 (ex_cases W hq) (by rw [hc] at hn; simpa using hn) hW2)
theorem tableOf_any {g : Img} (hw : welB g = true) {t : Int} (h : numB t g.ts.length = true) {w : World} (hg : Im w g) :
  Calls Tryz.prog 55 #[imA4 g,.int .i64 t] w fun e w' => ∃ v,e = .returned (tbV g v)∧OwnI w' w.heap.size v (tabL g t)∧Below w.heap.size w w':=tableOf_all hw _ t w (Or.inr h) (Nat.le_refl _) hg
end Go.Proofs.YthpmpdpfnlecmaaGreat
