/- Texts joined: RefWell11. -/
import Derived.Test.YthpmpdpfnlecmaaGreatQ21
import Derived.Test.YthpmpdpfnlecmaaGreatQ25
import Derived.Test.YthpmpdpfnlecmaaGreatQ35
import Derived.Test.YthpmpdpfnlecmaaGreatQ51
namespace Go.Proofs.YthpmpdpfnlecmaaGreat
set_option linter.unusedVariables false
set_option linter.unusedSimpArgs false
open Go.RowKit
attribute [local go_sem ↓] Go.wp_at_zero Go.wp_at_succ
theorem ret_pr11 {a b c d : Int} (h : (a,b) = (c,d)) : Ending.returned (.tuple #[.int .i64 a,.int .i64 b]) = .returned (.tuple #[.int .i64 c,.int .i64 d]):=by cases h; rfl
theorem wrg_bad {g : Img} {k i : Nat} {e : Int} (h : errT g i = e) (he : e ≠ 0) : wrgL g (k + 1) i = ((i : Int),e):=by unfold wrgL; rw [h,if_neg he]
theorem wrg_ok {g : Img} {k i : Nat} (h : errT g i = 0) : wrgL g (k + 1) i = wrgL g k (i + 1):=by rw [wrgL,if_pos h]

set_option maxHeartbeats 8000000 in
set_option maxRecDepth 100000 in
theorem refCheck_any11 {g : Img} {w : World} (hg : Im w g) (hnm : g.nmOk) :
  Calls Tryz.prog 32 #[imV g] w fun e w' => e = .returned (.tuple #[.int .i64 (chkI g).1,.int .i64 (chkI g).2])∧Below w.heap.size w w':=by
 obtain ⟨w0,hw0⟩ : ∃ W,W = w.alloc (.cells (imC g) 26):=⟨_,rfl⟩
 have HW0 : Hid (w0 = _):=hw0
 obtain ⟨hb0,hgb⟩:=GB.made hg hw0
 have HB0 : Hid (Below w.heap.size w w0):=hb0
 have HG : Hid (GB w0 w.heap.size g):=hgb
 have HFm : Hid (Calls Tryz.prog 64 #[.agg (imC g)] w0 fun e w' => e = .returned (.bool (imB g))∧Below w0.heap.size w0 w'):=refFormed_any hgb.im hnm
 have HC4 : Hid (∀ W,Below w0.heap.size w0 W → W.cell? ⟨w.heap.size,0,none⟩ = some (.slice g.ta g.ts.length g.tc)∧W.cell? ⟨w.heap.size,1,none⟩ = some (.slice g.fa g.fs.length g.fc)∧W.cell? ⟨w.heap.size,2,none⟩ = some (.slice g.ma g.ms.length g.mc)∧W.cell? ⟨w.heap.size,3,none⟩ = some (.int .i64 g.en)):=fun W hW => (hgb.later hW).cells
 obtain ⟨c0,c1,c2,c3⟩:=hgb.cells
 have htl:=hg.ts.len
 unfold maxLen at htl
 unfold imC at HW0 HFm
 clear hw0 hb0 hgb hg hnm
 unfold imV
 go_enter Tryz.func32,Tryz.ntmps32
 go_wp2_with (rw [← HW0.out])
 refine Calls.mono HFm.out ?_
 rintro e w1 ⟨rfl,hb1⟩
 have HB1 : Hid (Below w0.heap.size w0 w1):=hb1
 clear hb1 c0 c1 c2 c3 HFm
 cases hi : imB g with
 | false =>
  have HE : Hid (chkI g = (0,17)):=by show _ = _; unfold chkI; rw [hi]; rfl
  clear hi
  go_wp2_with fail
  go_ret2
  exact ⟨ret_pr11 (by rw [HE.out]),bstep HB0.out HB1.out⟩
 | true =>
  have HE : Hid (chkI g = wrgL g g.ts.length 0):=by show _ = _; unfold chkI; rw [hi]; rfl
  have HFlg : Hid (∀ W,Below w0.heap.size w0 W → ∀ q (hq : q < g.ts.length),Calls Tryz.prog 65 #[.agg (imC g),.int .i64 q] W fun e w' => e = .returned (.bool (flgF g.ts[q].fl g.ts[q].ex))∧Below W.heap.size W w'):=fun W hW q hq => refFlagged_any (HG.out.im.later hW) hi hq
  have HHan : Hid (∀ W,Below w0.heap.size w0 W → ∀ q (hq : q < g.ts.length),flgF g.ts[q].fl g.ts[q].ex = true → Calls Tryz.prog 66 #[.agg (imC g),.int .i64 q] W fun e w' => e = .returned (.bool (extB g (q : Int) && facB g (q : Int)))∧Below W.heap.size W w'):=fun W hW q hq hf => refHangs_any (HG.out.im.later hW) hi hq hf
  have HNam : Hid (∀ W,Below w0.heap.size w0 W → ∀ q (hq : q < g.ts.length),Calls Tryz.prog 67 #[.agg (imC g),.int .i64 q] W fun e w' => e = .returned (.bool (nmdB g (q : Int)))∧Below W.heap.size W w'):=fun W hW q hq => refNamed_any11 (HG.out.im.later hW) hi hq
  have HSiz : Hid (∀ W,Below w0.heap.size w0 W → ∀ q (hq : q < g.ts.length),Calls Tryz.prog 68 #[.agg (imC g),.int .i64 q] W fun e w' => e = .returned (.bool (szdB g (q : Int)))∧Below W.heap.size W w'):=fun W hW q hq => refSized_any (HG.out.im.later hW) hi hq
  unfold imC at HFlg HHan HNam HSiz
  clear hi
  go_wp2_with fail
  go_loopw [4] (fun z wr => ∃ q : Nat,q ≤ g.ts.length∧z = .int .i64 q∧Hid (Below w0.heap.size w0 wr)∧Hid (wrgL g (g.ts.length - q) q = chkI g)) (fun z _ => g.ts.length - (intOf z).toNat)
  case atStart => exact ⟨0,Nat.zero_le _,rfl,HB1.out,HE.out.symm⟩
  case round =>
   obtain ⟨q,hq,rfl,HB,HC⟩:=hrel
   obtain ⟨c0,c1,c2,c3⟩:=HC4.out wr HB.out
   by_cases hql : q < g.ts.length
   ·have hqi : (q : Int) < (g.ts.length : Int):=by omega
    have HFl:=HFlg.out wr HB.out q hql
    have HHa:=fun W hW h => HHan.out W hW q hql h
    have HEr : Hid (errT g (q : Int) = if (flgF g.ts[q].fl g.ts[q].ex && extB g (q : Int) && facB g (q : Int)) = false then 7 else if nmdB g (q : Int) = false then 18 else if szdB g (q : Int) = false then 20 else 0):=by show _ = _; unfold errT; rw [flI_at hql,exI_at hql]
    have HBd : Hid (∀ e : Int,errT g (q : Int) = e → e ≠ 0 → ((q : Int),e) = chkI g):=fun e h1 h2 => by rw [← HC.out,show g.ts.length - q = (g.ts.length - (q + 1)) + 1 by omega,wrg_bad h1 h2]
    have HOk : Hid (errT g (q : Int) = 0 → wrgL g (g.ts.length - (q + 1)) (q + 1) = chkI g):=fun h => by rw [← HC.out,show g.ts.length - q = (g.ts.length - (q + 1)) + 1 by omega,wrg_ok h]
    have HF2 : Hid (Calls Tryz.prog 65 #[.agg #[.slice g.ta g.ts.length g.tc,.slice g.fa g.fs.length g.fc,.slice g.ma g.ms.length g.mc,.int .i64 g.en],.int .i64 q] wr fun e w' => e = .returned (.bool (flgF g.ts[q].fl g.ts[q].ex))∧Below wr.heap.size wr w'):=HFl
    have HH2 : Hid (∀ W,Below w0.heap.size w0 W → flgF g.ts[q].fl g.ts[q].ex = true → Calls Tryz.prog 66 #[.agg #[.slice g.ta g.ts.length g.tc,.slice g.fa g.fs.length g.fc,.slice g.ma g.ms.length g.mc,.int .i64 g.en],.int .i64 q] W fun e w' => e = .returned (.bool (extB g (q : Int) && facB g (q : Int)))∧Below W.heap.size W w'):=HHa
    clear HFl HHa
    generalize flgF g.ts[q].fl g.ts[q].ex = bf at *
    go_wp2_with fail
    refine Calls.mono HF2.out ?_
    rintro e w2 ⟨rfl,hb2⟩
    have HB2 : Hid (Below w0.heap.size w0 w2):=bstep HB.out hb2
    clear hb2 c0 c1 c2 c3 HF2
    cases bf with
    | false =>
     have HR : Hid _:=HBd.out 7 (by rw [HEr.out]; rfl) (by decide)
     clear HEr HBd HOk HH2
     go_wp2_with fail
     go_ret2
     exact ⟨ret_pr11 HR.out,bstep HB0.out HB2.out⟩
    | true =>
     obtain ⟨c0,c1,c2,c3⟩:=HC4.out w2 HB2.out
     have HEr2 : Hid (errT g (q : Int) = if (extB g (q : Int) && facB g (q : Int)) = false then 7 else if nmdB g (q : Int) = false then 18 else if szdB g (q : Int) = false then 20 else 0):=by show _ = _; rw [HEr.out]; rfl
     clear HEr
     generalize (extB g (q : Int) && facB g (q : Int)) = bh at *
     go_wp2_with fail
     refine Calls.mono (HH2.out w2 HB2.out trivial) ?_
     rintro e w3 ⟨rfl,hb3⟩
     have HB3 : Hid (Below w0.heap.size w0 w3):=bstep HB2.out hb3
     clear hb3 c0 c1 c2 c3 HH2
     cases bh with
     | false =>
      have HR : Hid _:=HBd.out 7 (by rw [HEr2.out]; rfl) (by decide)
      clear HEr2 HBd HOk
      go_wp2_with fail
      go_ret2
      exact ⟨ret_pr11 HR.out,bstep HB0.out HB3.out⟩
     | true =>
      obtain ⟨c0,c1,c2,c3⟩:=HC4.out w3 HB3.out
      have HEr3 : Hid (errT g (q : Int) = if nmdB g (q : Int) = false then 18 else if szdB g (q : Int) = false then 20 else 0):=by show _ = _; rw [HEr2.out]; rfl
      have HN:=HNam.out w3 HB3.out q hql
      have HS:=fun W hW => HSiz.out W hW q hql
      have HN2 : Hid (Calls Tryz.prog 67 #[.agg #[.slice g.ta g.ts.length g.tc,.slice g.fa g.fs.length g.fc,.slice g.ma g.ms.length g.mc,.int .i64 g.en],.int .i64 q] w3 fun e w' => e = .returned (.bool (nmdB g (q : Int)))∧Below w3.heap.size w3 w'):=HN
      have HS2 : Hid (∀ W,Below w0.heap.size w0 W → Calls Tryz.prog 68 #[.agg #[.slice g.ta g.ts.length g.tc,.slice g.fa g.fs.length g.fc,.slice g.ma g.ms.length g.mc,.int .i64 g.en],.int .i64 q] W fun e w' => e = .returned (.bool (szdB g (q : Int)))∧Below W.heap.size W w'):=HS
      clear HEr2 HN HS
      generalize nmdB g (q : Int) = bn at *
      generalize szdB g (q : Int) = bs at *
      go_wp2_with fail
      refine Calls.mono HN2.out ?_
      rintro e w4 ⟨rfl,hb4⟩
      have HB4 : Hid (Below w0.heap.size w0 w4):=bstep HB3.out hb4
      clear hb4 c0 c1 c2 c3 HN2
      cases bn with
      | false =>
       have HR : Hid _:=HBd.out 18 (by rw [HEr3.out]; rfl) (by decide)
       clear HEr3 HBd HOk
       go_wp2_with fail
       go_ret2
       exact ⟨ret_pr11 HR.out,bstep HB0.out HB4.out⟩
      | true =>
       obtain ⟨c0,c1,c2,c3⟩:=HC4.out w4 HB4.out
       go_wp2_with fail
       refine Calls.mono (HS2.out w4 HB4.out) ?_
       rintro e w5 ⟨rfl,hb5⟩
       have HB5 : Hid (Below w0.heap.size w0 w5):=bstep HB4.out hb5
       clear hb5 c0 c1 c2 c3 HS2
       cases bs with
       | false =>
        have HR : Hid _:=HBd.out 20 (by rw [HEr3.out]; rfl) (by decide)
        clear HEr3 HBd HOk
        go_wp2_with fail
        go_ret2
        exact ⟨ret_pr11 HR.out,bstep HB0.out HB5.out⟩
       | true =>
        have HO2 : Hid _:=HOk.out (by rw [HEr3.out]; rfl)
        clear HEr3 HBd HOk
        go_wp2_with fail
        go_roundw
        case rel => exact ⟨q + 1,by omega,by go_num,HB5.out,HO2.out⟩
        case measure => simp [intOf]; omega
   ·have hqi : ¬ (q : Int) < (g.ts.length : Int):=by omega
    have HR : Hid (((0 : Int),(0 : Int)) = chkI g):=by show _ = _; rw [← HC.out,show g.ts.length - q = 0 by omega]; rfl
    go_wp2_with fail
    go_ret2
    exact ⟨ret_pr11 HR.out,bstep HB0.out HB.out⟩

set_option maxHeartbeats 1000000 in
theorem refWell_any {g : Img} {w : World} (hg : Im w g) (hnm : g.nmOk) :
  Calls Tryz.prog 11 #[imV g] w fun e w' => e = .returned (.bool (welB g))∧Below w.heap.size w w':=by
 obtain ⟨w0,hw0⟩ : ∃ W,W = w.alloc (.cells (imC g) 26):=⟨_,rfl⟩
 have HW0 : Hid (w0 = _):=hw0
 obtain ⟨hb0,hgb⟩:=GB.made hg hw0
 have HB0 : Hid (Below w.heap.size w w0):=hb0
 have HCk : Hid (Calls Tryz.prog 32 #[.agg (imC g)] w0 fun e w' => e = .returned (.tuple #[.int .i64 (chkI g).1,.int .i64 (chkI g).2])∧Below w0.heap.size w0 w'):=refCheck_any11 hgb.im hnm
 obtain ⟨c0,c1,c2,c3⟩:=hgb.cells
 have HR : Hid (welB g = ((chkI g).2 == 0)):=by show _ = _; unfold welB; rw [Bool.eq_iff_iff]; simp
 unfold imC at HW0 HCk
 clear hw0 hb0 hgb hg hnm
 generalize chkI g = p at *
 obtain ⟨a,b⟩:=p
 unfold imV
 go_enter Tryz.func11,Tryz.ntmps11
 go_wp2_with (rw [← HW0.out])
 refine Calls.mono HCk.out ?_
 rintro e w1 ⟨rfl,hb1⟩
 have HB1 : Hid (Below w0.heap.size w0 w1):=hb1
 clear hb1 c0 c1 c2 c3 HCk
 go_wp2_with fail
 go_ret
 exact ⟨ret_bool HR.out.symm,bstep HB0.out HB1.out⟩
end Go.Proofs.YthpmpdpfnlecmaaGreat
