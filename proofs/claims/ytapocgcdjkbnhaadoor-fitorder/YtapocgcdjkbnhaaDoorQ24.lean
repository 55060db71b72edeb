/- Texts joined: RefWell11, Long10, OpenT3, Three14. -/
import Derived.Test.YtapocgcdjkbnhaaDoorQ15
import Derived.Test.YtapocgcdjkbnhaaDoorQ17
import Derived.Test.YtapocgcdjkbnhaaDoorQ21
import Derived.Test.YtapocgcdjkbnhaaDoorQ23
import Derived.Test.YtapocgcdjkbnhaaDoorQ01
import Derived.Test.YtapocgcdjkbnhaaDoorQ12
import Derived.OpenShut
import Derived.Test.YtapocgcdjkbnhaaDoorQ13
namespace Go.Proofs.YtapocgcdjkbnhaaDoor
set_option linter.unusedVariables false
set_option linter.unusedSimpArgs false
open Go.RowKit
attribute [local go_sem ↓] Go.wp_at_zero Go.wp_at_succ
theorem ret_pr11 {a b c d : Int} (h : (a,b) = (c,d)) : Ending.returned (.tuple #[.int .i64 a,.int .i64 b]) = .returned (.tuple #[.int .i64 c,.int .i64 d]):=by cases h; rfl
theorem wrg_bad {g : Img} {k i : Nat} {e : Int} (h : errT g i = e) (he : e ≠ 0) : wrgL g (k + 1) i = ((i : Int),e):=by unfold wrgL; rw [h,if_neg he]
theorem wrg_ok {g : Img} {k i : Nat} (h : errT g i = 0) : wrgL g (k + 1) i = wrgL g k (i + 1):=by rw [wrgL,if_pos h]

set_option maxHeartbeats 8000000 in
set_option maxRecDepth 100000 in
theorem refCheck_any11 {g : Img} {w : World} (hg : Im w g) (hnm : g.nmOk) :
  Calls Tryd.prog 16 #[imV g] w fun e w' => e = .returned (.tuple #[.int .i64 (chkI g).1,.int .i64 (chkI g).2])∧Below w.heap.size w w':=by
 obtain ⟨w0,hw0⟩ : ∃ W,W = w.alloc (.cells (imC g) 26):=⟨_,rfl⟩
 have HW0 : Hid (w0 = _):=hw0
 obtain ⟨hb0,hgb⟩:=GB.made hg hw0
 have HB0 : Hid (Below w.heap.size w w0):=hb0
 have HG : Hid (GB w0 w.heap.size g):=hgb
 have HFm : Hid (Calls Tryd.prog 22 #[.agg (imC g)] w0 fun e w' => e = .returned (.bool (imB g))∧Below w0.heap.size w0 w'):=refFormed_any hgb.im hnm
 have HC4 : Hid (∀ W,Below w0.heap.size w0 W → W.cell? ⟨w.heap.size,0,none⟩ = some (.slice g.ta g.ts.length g.tc)∧W.cell? ⟨w.heap.size,1,none⟩ = some (.slice g.fa g.fs.length g.fc)∧W.cell? ⟨w.heap.size,2,none⟩ = some (.slice g.ma g.ms.length g.mc)∧W.cell? ⟨w.heap.size,3,none⟩ = some (.int .i64 g.en)):=fun W hW => (hgb.later hW).cells
 obtain ⟨c0,c1,c2,c3⟩:=hgb.cells
 have htl:=hg.ts.len
 unfold maxLen at htl
 unfold imC at HW0 HFm
 clear hw0 hb0 hgb hg hnm
 unfold imV
 go_enter Tryd.func16,Tryd.ntmps16
 go_wp2_with (rw [← HW0.out])
 refine Calls.mono HFm.out ?_
 rintro e w1 ⟨rfl,hb1⟩
 have HB1 : Hid (Below w0.heap.size w0 w1):=hb1
 clear hb1 c0 c1 c2 c3 HFm
 cases hi : imB g with
 | false =>
  have HE : Hid (chkI g = (0,17)):=by show _ = _; unfold chkI; rw [hi]; rfl
  clear hi
  go_wp2_with fail
  go_ret2
  exact ⟨ret_pr11 (by rw [HE.out]),bstep HB0.out HB1.out⟩
 | true =>
  have HE : Hid (chkI g = wrgL g g.ts.length 0):=by show _ = _; unfold chkI; rw [hi]; rfl
  have HFlg : Hid (∀ W,Below w0.heap.size w0 W → ∀ q (hq : q < g.ts.length),Calls Tryd.prog 23 #[.agg (imC g),.int .i64 q] W fun e w' => e = .returned (.bool (flgF g.ts[q].fl g.ts[q].ex))∧Below W.heap.size W w'):=fun W hW q hq => refFlagged_any (HG.out.im.later hW) hi hq
  have HHan : Hid (∀ W,Below w0.heap.size w0 W → ∀ q (hq : q < g.ts.length),flgF g.ts[q].fl g.ts[q].ex = true → Calls Tryd.prog 24 #[.agg (imC g),.int .i64 q] W fun e w' => e = .returned (.bool (extB g (q : Int) && facB g (q : Int)))∧Below W.heap.size W w'):=fun W hW q hq hf => refHangs_any (HG.out.im.later hW) hi hq hf
  have HNam : Hid (∀ W,Below w0.heap.size w0 W → ∀ q (hq : q < g.ts.length),Calls Tryd.prog 25 #[.agg (imC g),.int .i64 q] W fun e w' => e = .returned (.bool (nmdB g (q : Int)))∧Below W.heap.size W w'):=fun W hW q hq => refNamed_any11 (HG.out.im.later hW) hi hq
  have HSiz : Hid (∀ W,Below w0.heap.size w0 W → ∀ q (hq : q < g.ts.length),Calls Tryd.prog 26 #[.agg (imC g),.int .i64 q] W fun e w' => e = .returned (.bool (szdB g (q : Int)))∧Below W.heap.size W w'):=fun W hW q hq => refSized_any (HG.out.im.later hW) hi hq
  unfold imC at HFlg HHan HNam HSiz
  clear hi
  go_wp2_with fail
  go_loopw [4] (fun z wr => ∃ q : Nat,q ≤ g.ts.length∧z = .int .i64 q∧Hid (Below w0.heap.size w0 wr)∧Hid (wrgL g (g.ts.length - q) q = chkI g)) (fun z _ => g.ts.length - (intOf z).toNat)
  case atStart => exact ⟨0,Nat.zero_le _,rfl,HB1.out,HE.out.symm⟩
  case round =>
   obtain ⟨q,hq,rfl,HB,HC⟩:=hrel
   obtain ⟨c0,c1,c2,c3⟩:=HC4.out wr HB.out
   by_cases hql : q < g.ts.length
   ·have hqi : (q : Int) < (g.ts.length : Int):=by omega
    have HFl:=HFlg.out wr HB.out q hql
    have HHa:=fun W hW h => HHan.out W hW q hql h
    have HEr : Hid (errT g (q : Int) = if (flgF g.ts[q].fl g.ts[q].ex && extB g (q : Int) && facB g (q : Int)) = false then 7 else if nmdB g (q : Int) = false then 18 else if szdB g (q : Int) = false then 20 else 0):=by show _ = _; unfold errT; rw [flI_at hql,exI_at hql]
    have HBd : Hid (∀ e : Int,errT g (q : Int) = e → e ≠ 0 → ((q : Int),e) = chkI g):=fun e h1 h2 => by rw [← HC.out,show g.ts.length - q = (g.ts.length - (q + 1)) + 1 by omega,wrg_bad h1 h2]
    have HOk : Hid (errT g (q : Int) = 0 → wrgL g (g.ts.length - (q + 1)) (q + 1) = chkI g):=fun h => by rw [← HC.out,show g.ts.length - q = (g.ts.length - (q + 1)) + 1 by omega,wrg_ok h]
    have HF2 : Hid (Calls Tryd.prog 23 #[.agg #[.slice g.ta g.ts.length g.tc,.slice g.fa g.fs.length g.fc,.slice g.ma g.ms.length g.mc,.int .i64 g.en],.int .i64 q] wr fun e w' => e = .returned (.bool (flgF g.ts[q].fl g.ts[q].ex))∧Below wr.heap.size wr w'):=HFl
    have HH2 : Hid (∀ W,Below w0.heap.size w0 W → flgF g.ts[q].fl g.ts[q].ex = true → Calls Tryd.prog 24 #[.agg #[.slice g.ta g.ts.length g.tc,.slice g.fa g.fs.length g.fc,.slice g.ma g.ms.length g.mc,.int .i64 g.en],.int .i64 q] W fun e w' => e = .returned (.bool (extB g (q : Int) && facB g (q : Int)))∧Below W.heap.size W w'):=HHa
    clear HFl HHa
    generalize flgF g.ts[q].fl g.ts[q].ex = bf at *
    go_wp2_with fail
    refine Calls.mono HF2.out ?_
    rintro e w2 ⟨rfl,hb2⟩
    have HB2 : Hid (Below w0.heap.size w0 w2):=bstep HB.out hb2
    clear hb2 c0 c1 c2 c3 HF2
    cases bf with
    | false =>
     have HR : Hid _:=HBd.out 7 (by rw [HEr.out]; rfl) (by decide)
     clear HEr HBd HOk HH2
     go_wp2_with fail
     go_ret2
     exact ⟨ret_pr11 HR.out,bstep HB0.out HB2.out⟩
    | true =>
     obtain ⟨c0,c1,c2,c3⟩:=HC4.out w2 HB2.out
     have HEr2 : Hid (errT g (q : Int) = if (extB g (q : Int) && facB g (q : Int)) = false then 7 else if nmdB g (q : Int) = false then 18 else if szdB g (q : Int) = false then 20 else 0):=by show _ = _; rw [HEr.out]; rfl
     clear HEr
     generalize (extB g (q : Int) && facB g (q : Int)) = bh at *
     go_wp2_with fail
     refine Calls.mono (HH2.out w2 HB2.out trivial) ?_
     rintro e w3 ⟨rfl,hb3⟩
     have HB3 : Hid (Below w0.heap.size w0 w3):=bstep HB2.out hb3
     clear hb3 c0 c1 c2 c3 HH2
     cases bh with
     | false =>
      have HR : Hid _:=HBd.out 7 (by rw [HEr2.out]; rfl) (by decide)
      clear HEr2 HBd HOk
      go_wp2_with fail
      go_ret2
      exact ⟨ret_pr11 HR.out,bstep HB0.out HB3.out⟩
     | true =>
      obtain ⟨c0,c1,c2,c3⟩:=HC4.out w3 HB3.out
      have HEr3 : Hid (errT g (q : Int) = if nmdB g (q : Int) = false then 18 else if szdB g (q : Int) = false then 20 else 0):=by show _ = _; rw [HEr2.out]; rfl
      have HN:=HNam.out w3 HB3.out q hql
      have HS:=fun W hW => HSiz.out W hW q hql
      have HN2 : Hid (Calls Tryd.prog 25 #[.agg #[.slice g.ta g.ts.length g.tc,.slice g.fa g.fs.length g.fc,.slice g.ma g.ms.length g.mc,.int .i64 g.en],.int .i64 q] w3 fun e w' => e = .returned (.bool (nmdB g (q : Int)))∧Below w3.heap.size w3 w'):=HN
      have HS2 : Hid (∀ W,Below w0.heap.size w0 W → Calls Tryd.prog 26 #[.agg #[.slice g.ta g.ts.length g.tc,.slice g.fa g.fs.length g.fc,.slice g.ma g.ms.length g.mc,.int .i64 g.en],.int .i64 q] W fun e w' => e = .returned (.bool (szdB g (q : Int)))∧Below W.heap.size W w'):=HS
      clear HEr2 HN HS
      generalize nmdB g (q : Int) = bn at *
      generalize szdB g (q : Int) = bs at *
      go_wp2_with fail
      refine Calls.mono HN2.out ?_
      rintro e w4 ⟨rfl,hb4⟩
      have HB4 : Hid (Below w0.heap.size w0 w4):=bstep HB3.out hb4
      clear hb4 c0 c1 c2 c3 HN2
      cases bn with
      | false =>
       have HR : Hid _:=HBd.out 18 (by rw [HEr3.out]; rfl) (by decide)
       clear HEr3 HBd HOk
       go_wp2_with fail
       go_ret2
       exact ⟨ret_pr11 HR.out,bstep HB0.out HB4.out⟩
      | true =>
       obtain ⟨c0,c1,c2,c3⟩:=HC4.out w4 HB4.out
       go_wp2_with fail
       refine Calls.mono (HS2.out w4 HB4.out) ?_
       rintro e w5 ⟨rfl,hb5⟩
       have HB5 : Hid (Below w0.heap.size w0 w5):=bstep HB4.out hb5
       clear hb5 c0 c1 c2 c3 HS2
       cases bs with
       | false =>
        have HR : Hid _:=HBd.out 20 (by rw [HEr3.out]; rfl) (by decide)
        clear HEr3 HBd HOk
        go_wp2_with fail
        go_ret2
        exact ⟨ret_pr11 HR.out,bstep HB0.out HB5.out⟩
       | true =>
        have HO2 : Hid _:=HOk.out (by rw [HEr3.out]; rfl)
        clear HEr3 HBd HOk
        go_wp2_with fail
        go_roundw
        case rel => exact ⟨q + 1,by omega,by go_num,HB5.out,HO2.out⟩
        case measure => simp [intOf]; omega
   ·have hqi : ¬ (q : Int) < (g.ts.length : Int):=by omega
    have HR : Hid (((0 : Int),(0 : Int)) = chkI g):=by show _ = _; rw [← HC.out,show g.ts.length - q = 0 by omega]; rfl
    go_wp2_with fail
    go_ret2
    exact ⟨ret_pr11 HR.out,bstep HB0.out HB.out⟩

set_option maxHeartbeats 1000000 in
theorem refWell_any {g : Img} {w : World} (hg : Im w g) (hnm : g.nmOk) :
  Calls Tryd.prog 8 #[imV g] w fun e w' => e = .returned (.bool (welB g))∧Below w.heap.size w w':=by
 obtain ⟨w0,hw0⟩ : ∃ W,W = w.alloc (.cells (imC g) 26):=⟨_,rfl⟩
 have HW0 : Hid (w0 = _):=hw0
 obtain ⟨hb0,hgb⟩:=GB.made hg hw0
 have HB0 : Hid (Below w.heap.size w w0):=hb0
 have HCk : Hid (Calls Tryd.prog 16 #[.agg (imC g)] w0 fun e w' => e = .returned (.tuple #[.int .i64 (chkI g).1,.int .i64 (chkI g).2])∧Below w0.heap.size w0 w'):=refCheck_any11 hgb.im hnm
 obtain ⟨c0,c1,c2,c3⟩:=hgb.cells
 have HR : Hid (welB g = ((chkI g).2 == 0)):=by show _ = _; unfold welB; rw [Bool.eq_iff_iff]; simp
 unfold imC at HW0 HCk
 clear hw0 hb0 hgb hg hnm
 generalize chkI g = p at *
 obtain ⟨a,b⟩:=p
 unfold imV
 go_enter Tryd.func8,Tryd.ntmps8
 go_wp2_with (rw [← HW0.out])
 refine Calls.mono HCk.out ?_
 rintro e w1 ⟨rfl,hb1⟩
 have HB1 : Hid (Below w0.heap.size w0 w1):=hb1
 clear hb1 c0 c1 c2 c3 HCk
 go_wp2_with fail
 go_ret
 exact ⟨ret_bool HR.out.symm,bstep HB0.out HB1.out⟩
def longT (x : TD) : Bool:=decide (20 < x.fs.length) || decide (100 < x.nm.size)
def longM (x : MD) : Bool:=decide (30 < x.ps.length) || decide (30 < x.ls.length) || decide (200 < x.co.length) || decide (20 < x.cl.length) || decide (100 < x.nm.size)
def longI (g : Img) : Bool:=decide (40 < g.ts.length) || decide (80 < g.fs.length) || decide (80 < g.ms.length) || (g.ts.any longT || g.ms.any longM)
theorem any_step {α : Type} {p : α → Bool} {l : List α} {q : Nat} (hq : q < l.length) (h : (l.take q).any p = false) (hx : p l[q] = false) : (l.take (q + 1)).any p = false:=by
 rw [List.take_succ_eq_append_getElem hq,List.any_append,h]; simpa using hx
theorem any_yes {α : Type} {p : α → Bool} {l : List α} {q : Nat} (hq : q < l.length) (hx : p l[q] = true) : l.any p = true:=by
 rw [List.any_eq_true]; exact ⟨_,List.getElem_mem hq,hx⟩
theorem any_done {α : Type} {p : α → Bool} {l : List α} {q : Nat} (hq : ¬ q < l.length) (h : (l.take q).any p = false) : l.any p = false:=by
 rwa [List.take_of_length_le (by omega)] at h

set_option maxHeartbeats 8000000 in
set_option maxRecDepth 100000 in
theorem longI_any {g : Img} {w : World} (hg : Im w g) :
  Calls Tryd.prog 7 #[imV g] w fun e w' => e = .returned (.bool (longI g))∧Below w.heap.size w w':=by
 obtain ⟨w0,hw0⟩ : ∃ W,W = w.alloc (.cells #[.slice g.ta g.ts.length g.tc,.slice g.fa g.fs.length g.fc,.slice g.ma g.ms.length g.mc,.int .i64 g.en] 26):=⟨_,rfl⟩
 have HW0 : Hid (w0 = _):=hw0
 have hb0 : Below w.heap.size w w0:=by rw [hw0]; exact made_below _ _ _
 have HB0 : Hid (Below w.heap.size w w0):=hb0
 have hA : At w0 w.heap.size #[.slice g.ta g.ts.length g.tc,.slice g.fa g.fs.length g.fc,.slice g.ma g.ms.length g.mc,.int .i64 g.en] 26:=by rw [hw0]; exact At.made _ _ _
 have HAT : Hid (∀ W,Below w0.heap.size w0 W → At W w.heap.size #[.slice g.ta g.ts.length g.tc,.slice g.fa g.fs.length g.fc,.slice g.ma g.ms.length g.mc,.int .i64 g.en] 26):=fun W hW => hA.later hW
 have HXt : Hid (∀ W,Below w0.heap.size w0 W → Es tdE W (.slice g.ta g.ts.length g.tc) g.ts):=fun W hW => hg.ts.later (bstep hb0 hW)
 have HXm : Hid (∀ W,Below w0.heap.size w0 W → Es mdE W (.slice g.ma g.ms.length g.mc) g.ms):=fun W hW => hg.ms.later (bstep hb0 hW)
 have htl:=hg.ts.len
 have hfl:=hg.fs.len
 have hml:=hg.ms.len
 have HTl : Hid (∀ x ∈ g.ts,x.fs.length ≤ maxLen):=fun x hx => (hg.tok x hx).len
 have HMl : Hid (∀ x ∈ g.ms,x.ps.length ≤ maxLen∧x.ls.length ≤ maxLen∧x.co.length ≤ maxLen∧x.cl.length ≤ maxLen):=fun x hx => ⟨(hg.mok x hx).ps.len,(hg.mok x hx).ls.len,(hg.mok x hx).co.len,(hg.mok x hx).cl.len⟩
 unfold maxLen at htl hfl hml
 have c1:=hA.cell
 have HF : Hid (longI g = (decide (40 < g.ts.length) || decide (80 < g.fs.length) || decide (80 < g.ms.length) || (g.ts.any longT || g.ms.any longM))):=rfl
 clear hw0 hb0 hA hg
 unfold imV
 go_enter Tryd.func7,Tryd.ntmps7
 by_cases h1 : 40 < g.ts.length
 ·have i1 : (40 : Int) < (g.ts.length : Int):=by omega
  go_wp2_with (rw [← HW0.out])
  go_ret
  exact ⟨ret_bool (by rw [HF.out,decide_eq_true h1]; rfl),HB0.out⟩
 have i1 : ¬ (40 : Int) < (g.ts.length : Int):=by omega
 by_cases h2 : 80 < g.fs.length
 ·have i2 : (80 : Int) < (g.fs.length : Int):=by omega
  go_wp2_with (rw [← HW0.out])
  go_ret
  exact ⟨ret_bool (by rw [HF.out,decide_eq_true h2]; simp),HB0.out⟩
 have i2 : ¬ (80 : Int) < (g.fs.length : Int):=by omega
 by_cases h3 : 80 < g.ms.length
 ·have i3 : (80 : Int) < (g.ms.length : Int):=by omega
  go_wp2_with (rw [← HW0.out])
  go_ret
  exact ⟨ret_bool (by rw [HF.out,decide_eq_true h3]; simp),HB0.out⟩
 have i3 : ¬ (80 : Int) < (g.ms.length : Int):=by omega
 have HG : Hid (longI g = (g.ts.any longT || g.ms.any longM)):=by show _ = _; rw [HF.out,decide_eq_false h1,decide_eq_false h2,decide_eq_false h3]; rfl
 clear HF h1 h2 h3
 go_wp2_with (rw [← HW0.out])
 go_loopw [3] (fun z wr => ∃ q : Nat,q ≤ g.ts.length∧z = .int .i64 q∧wr = w0∧Hid ((g.ts.take q).any longT = false)) (fun z _ => g.ts.length - (intOf z).toNat)
 case atStart => exact ⟨0,Nat.zero_le _,rfl,rfl,by show _ = _; simp⟩
 case round =>
  obtain ⟨q,hq,rfl,rfl,HA⟩:=hrel
  by_cases hql : q < g.ts.length
  ·obtain ⟨b,off,hfa,hb,h6,h7,hc⟩:=(HXt.out _ (Below.refl _ _)).at hql
   obtain ⟨k0,k1,k2,k3⟩:=(show El tdE _ b (off + q * 4) g.ts[q] from hc q hql).cells_T
   have HY : Hid (longT g.ts[q] = false → (g.ts.take (q + 1)).any longT = false):=fun h => any_step hql HA.out h
   have HN : Hid (longT g.ts[q] = true → longI g = true):=fun h => by rw [HG.out,any_yes hql h]; rfl
   have hyl:=HTl.out _ (List.getElem_mem hql)
   generalize g.ts[q] = y at *
   unfold maxLen at h7 hyl
   rw [hfa] at c1
   clear hfa hc
   by_cases g1 : 20 < y.fs.length
   ·have g1' : (20 : Int) < (y.fs.length : Int):=by omega
    have HBad : Hid (longI g = true):=HN.out (by unfold longT; rw [decide_eq_true g1]; rfl)
    go_wp2_with fail
    go_ret
    exact ⟨ret_bool HBad.out.symm,HB0.out⟩
   have g1' : ¬ (20 : Int) < (y.fs.length : Int):=by omega
   by_cases g2 : 100 < y.nm.size
   ·have g2' : (100 : Int) < (y.nm.size : Int):=by omega
    have HBad : Hid (longI g = true):=HN.out (by unfold longT; rw [decide_eq_true g2]; simp)
    go_wp2_with fail
    go_ret
    exact ⟨ret_bool HBad.out.symm,HB0.out⟩
   have g2' : ¬ (100 : Int) < (y.nm.size : Int):=by omega
   have HY2 : Hid _:=HY.out (by unfold longT; rw [decide_eq_false g1,decide_eq_false g2]; rfl)
   clear HY HN
   go_wp2_with fail
   go_roundw
   case rel => exact ⟨q + 1,by omega,by go_num,by simp,HY2.out⟩
   case measure => simp [intOf]; omega
  have HG1 : Hid (longI g = g.ms.any longM):=by show _ = _; rw [HG.out,any_done hql HA.out]; rfl
  clear HA
  go_wp2_with fail
  clear c1
  obtain ⟨wo,rfl⟩ : ∃ wo,wo = wr:=⟨_,rfl⟩
  go_loopw [4] (fun z wr2 => ∃ q : Nat,q ≤ g.ms.length∧z = .int .i64 q∧Below wo.heap.size wo wr2∧Hid ((g.ms.take q).any longM = false)) (fun z _ => g.ms.length - (intOf z).toNat)
  case atStart => exact ⟨0,Nat.zero_le _,rfl,Below.refl _ _,by show _ = _; simp⟩
  case round =>
   obtain ⟨q,hq,rfl,hB,HA⟩:=hrel
   have HBr : Hid (Below wo.heap.size wo wr):=hB
   have c1:=(HAT.out wr hB).cell
   by_cases hql2 : q < g.ms.length
   ·obtain ⟨b,off,hfa,hb,h6,h7,hc⟩:=(HXm.out wr hB).at hql2
    obtain ⟨k0,k1,k2,k3,k4,k5,k6,k7,k8,k9,k10,k11⟩:=(show El mdE wr b (off + q * 12) g.ms[q] from hc q hql2).cells_M
    have HY : Hid (longM g.ms[q] = false → (g.ms.take (q + 1)).any longM = false):=fun h => any_step hql2 HA.out h
    have HN : Hid (longM g.ms[q] = true → longI g = true):=fun h => by rw [HG1.out,any_yes hql2 h]
    obtain ⟨y1,y2,y3,y4⟩:=HMl.out _ (List.getElem_mem hql2)
    generalize g.ms[q] = y at *
    unfold maxLen at h7 y1 y2 y3 y4
    rw [hfa] at c1
    obtain ⟨wA,hwA⟩ : ∃ W,W = wr.alloc (.cells (mdA y) 47):=⟨_,rfl⟩
    have HWA : Hid (wA = _):=hwA
    have hbA : Below wr.heap.size wr wA:=by rw [hwA]; exact made_below _ _ _
    have HBA : Hid (Below wo.heap.size wo wA):=bstep hB hbA
    have hAA : At wA wr.heap.size (mdA y) 47:=by rw [hwA]; exact At.made _ _ _
    have cA:=hAA.cell
    unfold mdA at cA HWA
    clear hfa hc hwA hbA hAA hB
    by_cases g0 : 30 < y.ps.length
    ·have g0' : (30 : Int) < (y.ps.length : Int):=by omega
     have HBad : Hid (longI g = true):=HN.out (by unfold longM; rw [decide_eq_true g0]; rfl)
     clear HY HN
     go_wp2_with (rw [← HWA.out])
     go_ret
     exact ⟨ret_bool HBad.out.symm,bstep HB0.out HBA.out⟩
    have g0' : ¬ (30 : Int) < (y.ps.length : Int):=by omega
    by_cases g1 : 30 < y.ls.length
    ·have g1' : (30 : Int) < (y.ls.length : Int):=by omega
     have HBad : Hid (longI g = true):=HN.out (by unfold longM; rw [decide_eq_true g1]; simp)
     clear HY HN
     go_wp2_with (rw [← HWA.out])
     go_ret
     exact ⟨ret_bool HBad.out.symm,bstep HB0.out HBA.out⟩
    have g1' : ¬ (30 : Int) < (y.ls.length : Int):=by omega
    by_cases g2 : 200 < y.co.length
    ·have g2' : (200 : Int) < (y.co.length : Int):=by omega
     have HBad : Hid (longI g = true):=HN.out (by unfold longM; rw [decide_eq_true g2]; simp)
     clear HY HN
     go_wp2_with (rw [← HWA.out])
     go_ret
     exact ⟨ret_bool HBad.out.symm,bstep HB0.out HBA.out⟩
    have g2' : ¬ (200 : Int) < (y.co.length : Int):=by omega
    by_cases g3 : 20 < y.cl.length
    ·have g3' : (20 : Int) < (y.cl.length : Int):=by omega
     have HBad : Hid (longI g = true):=HN.out (by unfold longM; rw [decide_eq_true g3]; simp)
     clear HY HN
     go_wp2_with (rw [← HWA.out])
     go_ret
     exact ⟨ret_bool HBad.out.symm,bstep HB0.out HBA.out⟩
    have g3' : ¬ (20 : Int) < (y.cl.length : Int):=by omega
    by_cases g4 : 100 < y.nm.size
    ·have g4' : (100 : Int) < (y.nm.size : Int):=by omega
     have HBad : Hid (longI g = true):=HN.out (by unfold longM; rw [decide_eq_true g4]; simp)
     clear HY HN
     go_wp2_with (rw [← HWA.out])
     go_ret
     exact ⟨ret_bool HBad.out.symm,bstep HB0.out HBA.out⟩
    have g4' : ¬ (100 : Int) < (y.nm.size : Int):=by omega
    have HY2 : Hid _:=HY.out (by unfold longM; rw [decide_eq_false g0,decide_eq_false g1,decide_eq_false g2,decide_eq_false g3,decide_eq_false g4]; rfl)
    clear HY HN
    go_wp2_with (rw [← HWA.out])
    go_roundw
    case rel => exact ⟨q + 1,by omega,by go_num,HBA.out,HY2.out⟩
    case measure => simp [intOf]; omega
   have HNo : Hid (longI g = false):=by show _ = _; rw [HG1.out,any_done hql2 HA.out]
   clear HA hB
   go_wp2_with fail
   go_ret
   exact ⟨ret_bool HNo.out.symm,bstep HB0.out HBr.out⟩
end Go.Proofs.YtapocgcdjkbnhaaDoor

namespace Go.Proofs.YtapocgcdjkbnhaaDoor
set_option linter.unusedVariables false
set_option linter.unusedSimpArgs false
open Go.ChangeShapes Go.WideShapes Go.ChangeAt Go.RowKit
abbrev Ty3:=Ty × Ty × Ty
def tv3 (l : Ty3) : Value := .agg #[.int .i64 l.1.1,.int .i64 l.1.2.1,.int .i64 l.1.2.2.1,.bool l.1.2.2.2,.int .i64 l.2.1.1,.int .i64 l.2.1.2.1,.int .i64 l.2.1.2.2.1,.bool l.2.1.2.2.2,.int .i64 l.2.2.1,.int .i64 l.2.2.2.1,.int .i64 l.2.2.2.2.1,.bool l.2.2.2.2.2]
theorem Tryd.cellsTy3 : Tryd.prog.cellsOf 29 = 12:=by kernel_rfl
theorem list3 {α : Type} {cs : List α} (h : cs.length = 3) : ∃ c0 c1 c2,cs = [c0,c1,c2]:=by
 match cs,h with
 | [c0,c1,c2],_ => exact ⟨c0,c1,c2,rfl⟩
theorem okWide_array3 {P : Program} {w : World} {r : Reach} {base : Nat} {t e : TypeId} {n : Nat} {v : Value} (ht : P.underlying t = some (.array n e)) (h : Value.okWide P w r base t v) : ∃ cs,v = .agg cs∧cs.size = P.cellsOf t:=by
 unfold Value.okWide at h
 rw [ht] at h
 obtain ⟨cs,h1,h2,_⟩:=h
 exact ⟨cs,h1,h2⟩

set_option maxRecDepth 100000 in
theorem open_A3api_Type {H : Type} {enc : TypeId × Value → H} {W : World} {base : Nat} {v : Value} {d : DataW H} {p : List MemPlace}
  (hv : Value.okWide Tryd.prog W .any base 29 v) (h : DataW.Trod enc Tryd.prog W 0 (fun _ => true) true 29 v d p) : ∃ l : Ty3,v = tv3 l:=by
 obtain ⟨cs,rfl,hsz⟩:=okWide_array3 Tryd.underlying29 hv
 obtain ⟨fuel,hf0⟩:=h
 have hl : cs.toList.length = 12:=by have:=hsz.trans Tryd.cellsTy3; simpa [Value.cells] using this
 have hf1 : DataW.trod enc Tryd.prog W 0 (fun _ => true) true fuel 29 cs.toList = some (d,p):=by simpa [Value.cells] using hf0
 obtain ⟨c0,c1,c2,c3,c4,c5,c6,c7,c8,c9,c10,c11,hcs⟩:=list12 hl
 rw [hcs] at hf1
 obtain ⟨xs,m,_,_,_,hlen,hf⟩:=DataW.trod_array Tryd.underlying29 hf1
 obtain ⟨y0,y1,y2,rfl⟩:=list3 (show xs.length = 3 from hlen)
 have h0 : DataW.trod enc Tryd.prog W 0 (fun _ => true) true m 28 [c0,c1,c2,c3] = some y0:=by
  have:=hf 0 (by omega)
  simpa [Tryd.cellsTy] using this
 have h1 : DataW.trod enc Tryd.prog W 0 (fun _ => true) true m 28 [c4,c5,c6,c7] = some y1:=by
  have:=hf 1 (by omega)
  simpa [Tryd.cellsTy] using this
 have h2 : DataW.trod enc Tryd.prog W 0 (fun _ => true) true m 28 [c8,c9,c10,c11] = some y2:=by
  have:=hf 2 (by omega)
  simpa [Tryd.cellsTy] using this
 obtain ⟨t0,e0⟩:=tyCells h0
 obtain ⟨t1,e1⟩:=tyCells h1
 obtain ⟨t2,e2⟩:=tyCells h2
 simp only [List.cons.injEq,and_true] at e0 e1 e2
 obtain ⟨rfl,rfl,rfl,rfl⟩:=e0
 obtain ⟨rfl,rfl,rfl,rfl⟩:=e1
 obtain ⟨rfl,rfl,rfl,rfl⟩:=e2
 refine ⟨(t0,t1,t2), ?_⟩
 unfold tv3
 have : cs = #[.int .i64 t0.1,.int .i64 t0.2.1,.int .i64 t0.2.2.1,.bool t0.2.2.2,.int .i64 t1.1,.int .i64 t1.2.1,.int .i64 t1.2.2.1,.bool t1.2.2.2,.int .i64 t2.1,.int .i64 t2.2.1,.int .i64 t2.2.2.1,.bool t2.2.2.2]:=by
  apply Array.toList_inj.1
  simpa using hcs
 rw [this]
end Go.Proofs.YtapocgcdjkbnhaaDoor

namespace Go.Proofs.YtapocgcdjkbnhaaDoor
set_option linter.unusedVariables false
set_option linter.unusedSimpArgs false
open Go.RowKit
attribute [local go_sem ↓] Go.wp_at_zero Go.wp_at_succ
def tyA3 (l : Ty3) : Array Value:=#[.int .i64 l.1.1,.int .i64 l.1.2.1,.int .i64 l.1.2.2.1,.bool l.1.2.2.2,.int .i64 l.2.1.1,.int .i64 l.2.1.2.1,.int .i64 l.2.1.2.2.1,.bool l.2.1.2.2.2,.int .i64 l.2.2.1,.int .i64 l.2.2.2.1,.int .i64 l.2.2.2.2.1,.bool l.2.2.2.2.2]
def Ty12 (W : World) (p : Nat) (l : Ty3) : Prop :=
 (W.cell? ⟨p,0,none⟩ = some (.int .i64 l.1.1)∧W.cell? ⟨p,1,none⟩ = some (.int .i64 l.1.2.1)∧W.cell? ⟨p,2,none⟩ = some (.int .i64 l.1.2.2.1)∧W.cell? ⟨p,3,none⟩ = some (.bool l.1.2.2.2)) ∧
 (W.cell? ⟨p,4,none⟩ = some (.int .i64 l.2.1.1)∧W.cell? ⟨p,5,none⟩ = some (.int .i64 l.2.1.2.1)∧W.cell? ⟨p,6,none⟩ = some (.int .i64 l.2.1.2.2.1)∧W.cell? ⟨p,7,none⟩ = some (.bool l.2.1.2.2.2)) ∧
 (W.cell? ⟨p,8,none⟩ = some (.int .i64 l.2.2.1)∧W.cell? ⟨p,9,none⟩ = some (.int .i64 l.2.2.2.1)∧W.cell? ⟨p,10,none⟩ = some (.int .i64 l.2.2.2.2.1)∧W.cell? ⟨p,11,none⟩ = some (.bool l.2.2.2.2.2))
theorem fit3_head {w : World} {g : Img} (hg : Im w g) (l : Ty3) : ∃ w0,Hid (w0 = (w.alloc (.cells #[.slice g.ta g.ts.length g.tc,.slice g.fa g.fs.length g.fc,.slice g.ma g.ms.length g.mc,.int .i64 g.en] 26)).alloc (.cells (tyA3 l) 29))∧Hid (Below w.heap.size w w0) ∧
  Hid (∀ W,Below w0.heap.size w0 W → Im4 W w.heap.size g∧Ty12 W (w.heap.size + 1) l)∧Hid (∀ W,Below w0.heap.size w0 W → Im W g):=by
 obtain ⟨w0,hw0⟩ : ∃ W,W = (w.alloc (.cells (imC g) 26)).alloc (.cells (tyA3 l) 29):=⟨_,rfl⟩
 obtain ⟨hb0,hat⟩:=two_boxes hw0
 refine ⟨w0,hw0,hb0,fun W hW => ?_,fun W hW => hg.later (bstep hb0 hW)⟩
 obtain ⟨h1,h2⟩:=hat W hW
 exact ⟨⟨h1.cell 0,h1.cell 1,h1.cell 2,h1.cell 3⟩,⟨h2.cell 0,h2.cell 1,h2.cell 2,h2.cell 3⟩,⟨h2.cell 4,h2.cell 5,h2.cell 6,h2.cell 7⟩,⟨h2.cell 8,h2.cell 9,h2.cell 10,h2.cell 11⟩⟩
theorem three_boxes {w w0 : World} {a b c : Ty} {n : Nat} (h : w0 = (((w.alloc (.cells (tyA a) 28)).alloc (.cells (tyA b) 28)).alloc (.cells (tyA c) 28)).drewN n) :
  Below w.heap.size w w0∧∀ W,Below w0.heap.size w0 W → Ty4 W w.heap.size a∧Ty4 W (w.heap.size + 1) b∧Ty4 W (w.heap.size + 2) c:=by
 obtain ⟨w1,hw1⟩ : ∃ W,W = (w.alloc (.cells (tyA a) 28)).alloc (.cells (tyA b) 28):=⟨_,rfl⟩
 obtain ⟨hb1,hat⟩:=two_boxes hw1
 have hs1 : w1.heap.size = w.heap.size + 2:=by subst hw1; simp
 obtain ⟨w2,hw2⟩ : ∃ W,W = w1.alloc (.cells (tyA c) 28):=⟨_,rfl⟩
 have hb2 : Below w1.heap.size w1 w2:=by rw [hw2]; exact made_below _ _ _
 have ht2 : At w2 w1.heap.size (tyA c) 28:=by rw [hw2]; exact At.made _ _ _
 have hw : w0 = w2.drewN n:=by rw [h,hw2,hw1]
 have hb3 : Below w2.heap.size w2 w0:=by rw [hw]; exact Below.drewN (Below.refl _ _) n
 refine ⟨bstep hb1 (bstep hb2 hb3),fun W hW => ?_⟩
 obtain ⟨h1,h2⟩:=hat W (bstep hb2 (bstep hb3 hW))
 have h3:=ht2.later (bstep hb3 hW)
 rw [hs1] at h3
 exact ⟨Ty4.of h1,Ty4.of h2,Ty4.of h3⟩

def oneT (g : Img) (t : Ty) : Bool:=decide (t.1 = 5) && (decide (t.2.2.1 = 0) && (!t.2.2.2 && decide (kndI g t.2.1 = 0)))
theorem one_cls {g : Img} {t : Ty} (h : oneT g t = true) : clsT g t = true∧t.2.2.2 = false:=by
 unfold oneT at h
 simp only [Bool.and_eq_true,decide_eq_true_iff,Bool.not_eq_true'] at h
 unfold clsT isT
 simp only [Bool.and_eq_true,decide_eq_true_iff]
 exact ⟨⟨⟨h.1,h.2.1⟩,h.2.2.2⟩,h.2.2.1⟩
set_option maxHeartbeats 2000000 in
theorem one14_any {g : Img} (t : Ty) {w : World} {p : Nat} (hp : ∀ W,Below w.heap.size w W → Im4 W p g) (hg : Im w g) (hi : imB g = true) : Ans 13 #[.agg #[.int .i64 t.1,.int .i64 t.2.1,.int .i64 t.2.2.1,.bool t.2.2.2],.pointer (some ⟨p,0,none⟩)] w (.bool (oneT g t)):=by
 obtain ⟨w0,hw0⟩ : ∃ W,W = w.alloc (.cells (tyA t) 28):=⟨_,rfl⟩
 have hb0 : Below w.heap.size w w0:=by rw [hw0]; exact made_below _ _ _
 have ht0 : At w0 w.heap.size (tyA t) 28:=by rw [hw0]; exact At.made _ _ _
 have HW0 : Hid (w0 = _):=hw0
 have HB0 : Hid (Below w.heap.size w w0):=hb0
 have HKn : Hid (Ans 14 #[imA4 g,.int .i64 t.2.1] w0 (.int .i64 (kndI g t.2.1))):=refKind_any t.2.1 (hg.later hb0) (FlOk.of hi)
 have HR : Hid (oneT g t = (decide (t.1 = 5) && (decide (t.2.2.1 = 0) && (!t.2.2.2 && decide (kndI g t.2.1 = 0))))):=rfl
 obtain ⟨c0,c1,c2,c3⟩:=hp w0 hb0
 obtain ⟨d0,d1,d2,d3⟩:=Ty4.of ht0
 unfold imA4 at HKn
 unfold tyA at HW0
 clear hp hg hi hw0 hb0 ht0
 generalize oneT g t = R at *
 generalize kndI g t.2.1 = kn at *
 obtain ⟨tk,ti,td,tr⟩:=t
 simp only at HW0 HKn HR d0 d1 d2 d3 ⊢
 have e1 : (tk == 5) = decide (tk = 5):=by rw [Bool.eq_iff_iff]; simp
 have e2 : (td == 0) = decide (td = 0):=by rw [Bool.eq_iff_iff]; simp
 have e3 : (kn == 0) = decide (kn = 0):=by rw [Bool.eq_iff_iff]; simp
 generalize decide (tk = 5) = b1 at *
 generalize decide (td = 0) = b2 at *
 generalize decide (kn = 0) = b3 at *
 go_enter Tryd.func13,Tryd.ntmps13
 cases b1 with
 | false =>
  go_wp2_with (rw [← HW0.out])
  go_ret
  exact ⟨ret_bool (by rw [HR.out]; rfl),HB0.out⟩
 | true =>
 cases b2 with
 | false =>
  go_wp2_with (rw [← HW0.out])
  go_ret
  exact ⟨ret_bool (by rw [HR.out]; rfl),HB0.out⟩
 | true =>
 cases tr with
 | true =>
  go_wp2_with (rw [← HW0.out])
  go_ret
  exact ⟨ret_bool (by rw [HR.out]; rfl),HB0.out⟩
 | false =>
  go_wp2_with (rw [← HW0.out])
  refine Calls.mono HKn.out ?_
  rintro e w1 ⟨rfl,hb1⟩
  have HB1 : Hid (Below w0.heap.size w0 w1):=hb1
  clear hb1 c0 c1 c2 c3 d0 d1 d2 d3
  go_wp2_with fail
  go_ret
  exact ⟨ret_bool (by rw [HR.out]; rfl),bstep HB0.out HB1.out⟩
end Go.Proofs.YtapocgcdjkbnhaaDoor
