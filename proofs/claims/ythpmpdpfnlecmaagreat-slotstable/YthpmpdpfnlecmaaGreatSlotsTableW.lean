
/- The walk of SlotsTable. -/
import Derived.Test.YthpmpdpfnlecmaaGreatQ48
import Derived.Test.YthpmpdpfnlecmaaGreatQ49
import Derived.Test.YthpmpdpfnlecmaaGreatQ53
import Derived.Test.YthpmpdpfnlecmaaGreatQ54
import Derived.Deep.QuietTactic
import Derived.BigQuiet
namespace Go.Proofs.YthpmpdpfnlecmaaGreat
set_option linter.unusedVariables false
set_option linter.unusedSimpArgs false
open Go.RowKit
attribute [local go_sem ↓] Go.wp_at_zero Go.wp_at_succ

set_option maxHeartbeats 8000000 in
set_option maxRecDepth 20000 in
theorem slotsTable_walk (v : Value) (g : Img) (t m : Int) (w : World) (h : ImV w v g) (ht : (Lit.int .i64 t).wf = true) (hm : (Lit.int .i64 m).wf = true) :
  Calls Tryz.prog 7 #[v,.int .i64 t,.int .i64 m] w fun e w' => e = .returned (.bool true)∧Below w.heap.size w w':=by
 obtain ⟨rfl,hg,hnm⟩:=h
 obtain ⟨w0,HW0,HB0,HG,HC,HI,c0,c1,c2,c3⟩:=img_head hg
 have HLo : Hid (∀ W,Below w0.heap.size w0 W → Ans 10 #[imA4 g] W (.bool (longI g))):=fun W hW => longI_any (HI.out W hW)
 have HTb : Hid (∀ W,Below w0.heap.size w0 W → Calls Tryz.prog 24 #[imA4 g,.int .i64 t] W fun e w' => ∃ v,e = .returned v∧OwnI w' W.heap.size v (tab13 g t)∧Below W.heap.size W w'):=fun W hW => table13_any (HI.out W hW)
 have HSl : Hid (∀ W,Below w0.heap.size w0 W → Ans 25 #[imA4 g,.int .i64 m] W (.int .i64 (slo13 g m))):=fun W hW => slot13_any (HI.out W hW)
 have HFi : Hid (∀ W,Below w0.heap.size w0 W → Ans 26 #[imA4 g] W (.bool (finB g))):=fun W hW => refFine12_any (HI.out W hW) hnm
 have HKn : Hid (∀ W,Below w0.heap.size w0 W → finB g = true → Ans 27 #[imA4 g,.int .i64 t] W (.int .i64 (kndI g t))):=fun W hW hf => refKind_any t (HI.out W hW) (FlOk.of (Wel.of (Fin_.of hf).wel).im)
 have HRt : Hid (∀ W,Below w0.heap.size w0 W → finB g = true → Calls Tryz.prog 28 #[imA4 g,.int .i64 t] W fun e w' => ∃ v,e = .returned v∧OwnI w' W.heap.size v (tabL g t)∧Below W.heap.size W w'):=fun W hW hf => refTable_any (Fin_.of hf).wel (HI.out W hW)
 have HRs : Hid (∀ W,Below w0.heap.size w0 W → finB g = true → numB m g.ms.length = true → Ans 29 #[imA4 g,.int .i64 m] W (.int .i64 (slo13 g m))):=fun W hW hf hmn => by
  have:=refSlot_any (HI.out W hW) (Fin_.of hf).wel hmn
  rw [show rslI g m = slo13 g m by unfold slo13 rslI; rw [if_pos hf,if_pos hmn]] at this
  exact this
 have HE1 : Hid (tab13 g t = if finB g = true then (if kndI g t = 0 then tabL g t else []) else []):=rfl
 have HE3 : Hid (¬ (finB g = true∧numB m g.ms.length = true) → slo13 g m = -1):=fun hn => by
  unfold slo13
  by_cases h1 : finB g = true
  ·rw [if_pos h1]
   by_cases h2 : numB m g.ms.length = true
   ·exact absurd ⟨h1,h2⟩ hn
   ·rw [if_neg h2]
  ·rw [if_neg h1]
 have HNm : Hid (numB m g.ms.length = true ↔ 0 ≤ m∧m < (g.ms.length : Int)):=numB_iff
 have HC4 : Hid (∀ W,Below w0.heap.size w0 W → W.cell? ⟨w.heap.size,0,none⟩ = some (.slice g.ta g.ts.length g.tc)∧W.cell? ⟨w.heap.size,1,none⟩ = some (.slice g.fa g.fs.length g.fc)∧W.cell? ⟨w.heap.size,2,none⟩ = some (.slice g.ma g.ms.length g.mc)∧W.cell? ⟨w.heap.size,3,none⟩ = some (.int .i64 g.en)):=HC.out
 unfold imA4 at HLo HTb HSl HFi HKn HRt HRs
 unfold imV
 clear hg hnm HC HI HG ht hm
 generalize numB m g.ms.length = nb at *
 generalize tab13 g t = LO at *
 generalize slo13 g m = P at *
 generalize tabL g t = CO at *
 generalize kndI g t = kn at *
 generalize finB g = bf at *
 generalize longI g = bl at *
 go_enter Tryz.func7,Tryz.ntmps7
 go_wp2_with (rw [← HW0.out])
 refine Calls.mono (wakes13_any w0) ?_
 rintro e w1 ⟨rfl,hb1⟩
 have HB1 : Hid (Below w0.heap.size w0 w1):=hb1
 clear hb1 c0 c1 c2 c3
 obtain ⟨c0,c1,c2,c3⟩:=HC4.out w1 HB1.out
 go_wp2_with fail
 refine Calls.mono (HLo.out w1 HB1.out) ?_
 rintro e w2 ⟨rfl,hb2⟩
 have HB2 : Hid (Below w0.heap.size w0 w2):=bstep HB1.out hb2
 clear hb2 c0 c1 c2 c3
 have HK : Hid (∀ W,Below w2.heap.size w2 W → W.cell? ⟨w.heap.size,0,none⟩ = some (.slice g.ta g.ts.length g.tc)∧W.cell? ⟨w.heap.size,1,none⟩ = some (.slice g.fa g.fs.length g.fc)∧W.cell? ⟨w.heap.size,2,none⟩ = some (.slice g.ma g.ms.length g.mc)∧W.cell? ⟨w.heap.size,3,none⟩ = some (.int .i64 g.en)):=fun W hW => HC4.out W (bstep HB2.out hW)
 obtain ⟨c0,c1,c2,c3⟩:=HK.out w2 (Below.refl _ _)
 cases bl with
 | true =>
  go_wp2_with fail
  go_ret
  exact ⟨rfl,bstep HB0.out HB2.out⟩
 | false =>
  have HTq : Hid (∀ W,Below w2.heap.size w2 W → Calls Tryz.prog 24 #[.agg #[.slice g.ta g.ts.length g.tc,.slice g.fa g.fs.length g.fc,.slice g.ma g.ms.length g.mc,.int .i64 g.en],.int .i64 t] W fun e w' => ∃ v,e = .returned v∧OwnI w' W.heap.size v LO∧Below W.heap.size W w'):=fun W hW => HTb.out W (bstep HB2.out hW)
  have HSq : Hid (∀ W,Below w2.heap.size w2 W → Ans 25 #[.agg #[.slice g.ta g.ts.length g.tc,.slice g.fa g.fs.length g.fc,.slice g.ma g.ms.length g.mc,.int .i64 g.en],.int .i64 m] W (.int .i64 P)):=fun W hW => HSl.out W (bstep HB2.out hW)
  go_wp2_with fail
  go_region_held3 (fun W : World => W.cell? ⟨w.heap.size,0,none⟩ = some (.slice g.ta g.ts.length g.tc)∧W.cell? ⟨w.heap.size,1,none⟩ = some (.slice g.fa g.fs.length g.fc)∧W.cell? ⟨w.heap.size,2,none⟩ = some (.slice g.ma g.ms.length g.mc)∧W.cell? ⟨w.heap.size,3,none⟩ = some (.int .i64 g.en))
   (first | (exact HK.out _ hBd) | (exact HK.out _ hBc) | (exact HK.out _ (bdrew _)))
   (first | (go_at_call 24; refine (HTq.out _ (bdrew _)).mono ?_; rintro e w3 ⟨ov,rfl,ho3,hb3⟩; have hBc : Below w2.heap.size w2 w3:=bstep (bdrew _) hb3) | (go_at_call 25; refine (HSq.out _ hBc).mono ?_; rintro e w4 ⟨rfl,hb4⟩; have hBd : Below w2.heap.size w2 w4:=bstep hBc hb4))
  rename_i hheld
  clear hheld
  have HB5 : Hid (Below w0.heap.size w0 w4):=bstep HB2.out hBd
  have HVo : Hid (∀ W,Below w4.heap.size w4 W → Is W ov LO):=fun W hW => (ho3.is.later hb4).later hW
  obtain ⟨oa,oc,hov,_,hoc⟩:=ho3.is.shape
  subst hov
  have hol:=ho3.is.len
  rw [i64s_length] at hol
  unfold maxLen at hoc hol
  clear ho3 hb3 hb4 hBc hBd c0 c1 c2 c3 HK HTq HSq
  obtain ⟨c0,c1,c2,c3⟩:=HC4.out w4 HB5.out
  go_wp2_with fail
  refine Calls.mono (HFi.out w4 HB5.out) ?_
  rintro e w6 ⟨rfl,hb6⟩
  have HB6 : Hid (Below w0.heap.size w0 w6):=bstep HB5.out hb6
  have HW6 : Hid (Below w4.heap.size w4 w6):=hb6
  clear hb6 c0 c1 c2 c3
  obtain ⟨c0,c1,c2,c3⟩:=HC4.out w6 HB6.out
  cases bf with
  | false =>
   have h1 : LO = []:=HE1.out
   have h3 : P = -1:=HE3.out (fun h => by simp at h)
   subst h1 h3
   clear HE3
   go_wp2_with fail
   go_ret
   exact ⟨rfl,bstep HB0.out HB6.out⟩
  | true =>
   go_wp2_with fail
   refine Calls.mono (HKn.out w6 HB6.out (by trivial)) ?_
   rintro e w7 ⟨rfl,hb7⟩
   have HB7 : Hid (Below w0.heap.size w0 w7):=bstep HB6.out hb7
   have HW7 : Hid (Below w4.heap.size w4 w7):=bstep HW6.out hb7
   clear hb7 c0 c1 c2 c3
   obtain ⟨c0,c1,c2,c3⟩:=HC4.out w7 HB7.out
   have HEnd : Hid (∀ W,Below w0.heap.size w0 W → W.cell? ⟨w.heap.size,0,none⟩ = some (.slice g.ta g.ts.length g.tc)∧W.cell? ⟨w.heap.size,1,none⟩ = some (.slice g.fa g.fs.length g.fc)∧W.cell? ⟨w.heap.size,2,none⟩ = some (.slice g.ma g.ms.length g.mc)∧W.cell? ⟨w.heap.size,3,none⟩ = some (.int .i64 g.en)):=HC4.out
   by_cases hk : kn = 0
   ·have h1 : LO = CO:=by have:=HE1.out; rw [if_pos (by trivial),if_pos hk] at this; exact this
    subst h1 hk
    go_wp2_with fail
    refine Calls.mono (HKn.out w7 HB7.out (by trivial)) ?_
    rintro e w8 ⟨rfl,hb8⟩
    have HB8 : Hid (Below w0.heap.size w0 w8):=bstep HB7.out hb8
    have HW8 : Hid (Below w4.heap.size w4 w8):=bstep HW7.out hb8
    clear hb8 c0 c1 c2 c3
    obtain ⟨c0,c1,c2,c3⟩:=HC4.out w8 HB8.out
    go_wp2_with fail
    refine Calls.mono (HRt.out w8 HB8.out (by trivial)) ?_
    rintro e w9 ⟨rv,rfl,hr,hb9⟩
    have HB9 : Hid (Below w0.heap.size w0 w9):=bstep HB8.out hb9
    have HW9 : Hid (Below w4.heap.size w4 w9):=bstep HW8.out hb9
    obtain ⟨ra,rc,hrv,_,_⟩:=hr.is.shape
    subst hrv
    have HSa : Hid (Ans 17 #[.slice oa LO.length oc,.slice ra LO.length rc] w9 (.bool true)):=by
     have:=same13_any (HVo.out w9 HW9.out) hr.is
     rw [decide_eq_true rfl] at this
     exact this
    clear hr hb9 c0 c1 c2 c3
    go_wp2_with fail
    refine Calls.mono HSa.out ?_
    rintro e wd ⟨rfl,hbd⟩
    have HBd : Hid (Below w0.heap.size w0 wd):=bstep HB9.out hbd
    clear HSa hbd
    obtain ⟨c0,c1,c2,c3⟩:=HC4.out wd HBd.out
    by_cases f0 : m < 0
    ·have hP : P = -1:=HE3.out (fun h => by have:=HNm.out.1 h.2; omega)
     subst hP
     clear HE3 HNm
     go_wp2_with fail
     go_ret
     exact ⟨rfl,bstep HB0.out HBd.out⟩
    ·by_cases f1 : m < (g.ms.length : Int)
     ·have HNb : Hid (nb = true):=HNm.out.2 ⟨by omega,f1⟩
      have hRs:=HRs.out wd HBd.out (by trivial) HNb.out
      have HRq : Hid _:=hRs
      clear hRs HE3 HNm HNb
      go_wp2_with fail
      refine Calls.mono HRq.out ?_
      rintro e we ⟨rfl,hbe⟩
      have HBe : Hid (Below w0.heap.size w0 we):=bstep HBd.out hbe
      clear hbe c0 c1 c2 c3
      go_wp2_with fail
      go_ret
      exact ⟨rfl,bstep HB0.out HBe.out⟩
     ·have hP : P = -1:=HE3.out (fun h => by have:=HNm.out.1 h.2; omega)
      have f2 : (g.ms.length : Int) ≤ m:=by omega
      subst hP
      clear HE3 HNm
      go_wp2_with fail
      go_ret
      exact ⟨rfl,bstep HB0.out HBd.out⟩
   ·have h1 : LO = []:=by have:=HE1.out; rw [if_pos (by trivial),if_neg hk] at this; exact this
    have hkb : (kn == 0) = false:=by simpa using hk
    have hkn : (kn != 0) = true:=by simpa using hk
    subst h1
    clear hk
    go_wp2_with fail
    refine Calls.mono (HKn.out w7 HB7.out (by trivial)) ?_
    rintro e wd ⟨rfl,hbd⟩
    have HBd : Hid (Below w0.heap.size w0 wd):=bstep HB7.out hbd
    clear hbd c0 c1 c2 c3
    obtain ⟨c0,c1,c2,c3⟩:=HC4.out wd HBd.out
    by_cases f0 : m < 0
    ·have hP : P = -1:=HE3.out (fun h => by have:=HNm.out.1 h.2; omega)
     subst hP
     clear HE3 HNm
     go_wp2_with fail
     go_ret
     exact ⟨rfl,bstep HB0.out HBd.out⟩
    ·by_cases f1 : m < (g.ms.length : Int)
     ·have HNb : Hid (nb = true):=HNm.out.2 ⟨by omega,f1⟩
      have hRs:=HRs.out wd HBd.out (by trivial) HNb.out
      have HRq : Hid _:=hRs
      clear hRs HE3 HNm HNb
      go_wp2_with fail
      refine Calls.mono HRq.out ?_
      rintro e we ⟨rfl,hbe⟩
      have HBe : Hid (Below w0.heap.size w0 we):=bstep HBd.out hbe
      clear hbe c0 c1 c2 c3
      go_wp2_with fail
      go_ret
      exact ⟨rfl,bstep HB0.out HBe.out⟩
     ·have hP : P = -1:=HE3.out (fun h => by have:=HNm.out.1 h.2; omega)
      have f2 : (g.ms.length : Int) ≤ m:=by omega
      subst hP
      clear HE3 HNm
      go_wp2_with fail
      go_ret
      exact ⟨rfl,bstep HB0.out HBd.out⟩

end Go.Proofs.YthpmpdpfnlecmaaGreat
