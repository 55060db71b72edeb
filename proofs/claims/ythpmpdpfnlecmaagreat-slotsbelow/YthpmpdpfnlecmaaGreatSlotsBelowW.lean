
/- The walk of SlotsBelow. -/
import Derived.Test.YthpmpdpfnlecmaaGreatQ48
import Derived.Test.YthpmpdpfnlecmaaGreatQ46
import Derived.Test.YthpmpdpfnlecmaaGreatQ53
import Derived.Test.YthpmpdpfnlecmaaGreatQ54
import Derived.Deep.QuietTactic
import Derived.BigQuiet
namespace Go.Proofs.YthpmpdpfnlecmaaGreat
set_option linter.unusedVariables false
set_option linter.unusedSimpArgs false
open Go.RowKit
attribute [local go_sem ↓] Go.wp_at_zero Go.wp_at_succ

theorem drawn_num13 {a : Int} {n : Nat} (ha : 0 ≤ a) (hn : 0 < n) : ∃ r : Nat,r < n∧a.tmod (n : Int) = (r : Int)∧numB (r : Int) n = true:=by
 have h1:=Int.emod_nonneg a (by omega : (n : Int) ≠ 0)
 have h2:=Int.emod_lt_of_pos a (by omega : 0 < (n : Int))
 refine ⟨(a % (n : Int)).toNat,by omega, ?_, ?_⟩
 ·rw [Int.tmod_eq_emod_of_nonneg ha]; omega
 ·rw [numB_iff]; omega
theorem tab13_num {g : Img} {t x : Int} (h : x ∈ tab13 g t) : ∃ (q : Nat) (hq : q < g.ms.length),x = (q : Int):=by
 unfold tab13 at h
 split at h
 ·split at h
  ·exact mNum_at (tab_num h)
  ·simp at h
 ·simp at h
theorem tab13_keep {g : Img} (hf : finB g = true) {A U : Nat} (hA : A < g.ts.length) (hk : kndI g (A : Int) = 0) (hU : g.ts[A].ex = (U : Int)) : Keep13 g (tab13 g (U : Int)) (tab13 g (A : Int)):=by
 have F:=Fin_.of hf
 have hn : numB (A : Int) g.ts.length = true:=by rw [numB_iff]; omega
 have hkU : kndI g (U : Int) = 0:=by
  have:=ext_class F hA
  rw [exI_at hA,hU] at this
  rcases this with h2 | h2
  ·exact h2
  ·rcases (im_type (Wel.of F.wel).im hA).1 with h | h
   ·omega
   ·rw [hU,h2] at h; cases h
 have:=tab_keep (Wel.of F.wel) hn
 rw [exI_at hA,hU] at this
 unfold tab13
 rw [if_pos hf,if_pos hk,if_pos hf,if_pos hkU]
 exact this

abbrev opSb0 : Oper := { dst:=some 61,op:=Op.fieldAddr 26 (Operand.tmp 2) 2,type := 0,pos := "law.go:103",after:=#[],guard:=none }
abbrev opSb1 : Oper := { dst:=some 62,op:=Op.load 24 (Operand.tmp 61),type := 24,pos := "law.go:103",after:=#[{ on := 0,ground:=Ground.data }],guard:=none }
abbrev opSb2 : Oper := { dst:=some 63,op:=Op.move (Operand.tmp 7),type := 31,pos := "law.go:103",after:=#[],guard:=none }
abbrev opSb3 : Oper := { dst:=some 64,op:=Op.move (Operand.tmp 9),type := 3,pos := "law.go:103",after:=#[],guard:=none }
abbrev opSb4 : Oper := { dst:=some 65,op:=Op.indexAddr 31 (Operand.tmp 63) (Operand.tmp 64),type := 0,pos := "law.go:103",after:=#[{ on := 2,ground:=Ground.data }, { on := 3,ground:=Ground.data }],guard:=none }
abbrev opSb5 : Oper := { dst:=some 66,op:=Op.load 3 (Operand.tmp 65),type := 3,pos := "law.go:103",after:=#[{ on := 4,ground:=Ground.data }],guard:=none }
abbrev opSb6 : Oper := { dst:=some 67,op:=Op.indexAddr 24 (Operand.tmp 62) (Operand.tmp 66),type := 0,pos := "law.go:103",after:=#[{ on := 1,ground:=Ground.data }, { on := 5,ground:=Ground.data }],guard:=none }
abbrev opSb7 : Oper := { dst:=some 68,op:=Op.load 55 (Operand.tmp 67),type := 55,pos := "law.go:103",after:=#[{ on := 6,ground:=Ground.data }],guard:=none }
abbrev opSb8 : Oper := { dst:=some 69,op:=Op.fieldAddr 26 (Operand.tmp 2) 2,type := 0,pos := "law.go:103",after:=#[],guard:=none }
abbrev opSb9 : Oper := { dst:=some 70,op:=Op.load 24 (Operand.tmp 69),type := 24,pos := "law.go:103",after:=#[{ on := 8,ground:=Ground.data }],guard:=none }
abbrev opSb10 : Oper := { dst:=some 71,op:=Op.move (Operand.tmp 8),type := 31,pos := "law.go:103",after:=#[],guard:=none }
abbrev opSb11 : Oper := { dst:=some 72,op:=Op.move (Operand.tmp 9),type := 3,pos := "law.go:103",after:=#[],guard:=none }
abbrev opSb12 : Oper := { dst:=some 73,op:=Op.indexAddr 31 (Operand.tmp 71) (Operand.tmp 72),type := 0,pos := "law.go:103",after:=#[{ on := 10,ground:=Ground.data }, { on := 11,ground:=Ground.data }],guard:=none }
abbrev opSb13 : Oper := { dst:=some 74,op:=Op.load 3 (Operand.tmp 73),type := 3,pos := "law.go:103",after:=#[{ on := 12,ground:=Ground.data }],guard:=none }
abbrev opSb14 : Oper := { dst:=some 75,op:=Op.indexAddr 24 (Operand.tmp 70) (Operand.tmp 74),type := 0,pos := "law.go:103",after:=#[{ on := 9,ground:=Ground.data }, { on := 13,ground:=Ground.data }],guard:=none }
abbrev opSb15 : Oper := { dst:=some 76,op:=Op.load 55 (Operand.tmp 75),type := 55,pos := "law.go:103",after:=#[{ on := 14,ground:=Ground.data }],guard:=none }
abbrev opSb16 : Oper := { dst:=some 77,op:=Op.call { callee:=Callee.value (Operand.func 30),args:=#[Operand.tmp 68,Operand.tmp 76],argTypes:=#[55,55] },type := 4,pos := "law.go:103",after:=#[{ on := 7,ground:=Ground.data }, { on := 15,ground:=Ground.data }],guard:=none }
abbrev opSb17 : Oper := { dst:=some 78,op:=Op.unOp UnOp.not 4 (Operand.tmp 77),type := 4,pos := "law.go:103",after:=#[{ on := 16,ground:=Ground.data }],guard:=none }
set_option maxHeartbeats 16000000 in
set_option maxRecDepth 20000 in
theorem slotsBelow_walk (v : Value) (g : Img) (a : Int) (w : World) (h : ImV w v g) (ha : (Lit.int .u8 a).wf = true) :
  Calls Tryz.prog 8 #[v,.int .u8 a] w fun e w' => e = .returned (.bool true)∧Below w.heap.size w w':=by
 obtain ⟨rfl,hg,hnm⟩:=h
 have hau:=Go.bounds_u8 ha
 obtain ⟨w0,HW0,HB0,HG,HC,HI,c0,c1,c2,c3⟩:=img_head hg
 have htl:=hg.ts.len
 unfold maxLen at htl
 have HLo : Hid (∀ W,Below w0.heap.size w0 W → Ans 10 #[imA4 g] W (.bool (longI g))):=fun W hW => longI_any (HI.out W hW)
 have HFi : Hid (∀ W,Below w0.heap.size w0 W → Ans 26 #[imA4 g] W (.bool (finB g))):=fun W hW => refFine12_any (HI.out W hW) hnm
 have HTb : Hid (∀ W t,Below w0.heap.size w0 W → Calls Tryz.prog 24 #[imA4 g,.int .i64 t] W fun e w' => ∃ v,e = .returned v∧OwnI w' W.heap.size v (tab13 g t)∧Below W.heap.size W w'):=fun W t hW => table13_any (HI.out W hW)
 have HKn : Hid (∀ W t,Below w0.heap.size w0 W → finB g = true → Ans 27 #[imA4 g,.int .i64 t] W (.int .i64 (kndI g t))):=fun W t hW hf => refKind_any t (HI.out W hW) (FlOk.of (Wel.of (Fin_.of hf).wel).im)
 have HAl : Hid (∀ W (q r : Nat) (hq : q < g.ms.length) (hr : r < g.ms.length),Below w0.heap.size w0 W → finB g = true → smI g (q : Int) (r : Int) = true → Ans 30 #[mdV g.ms[q],mdV g.ms[r]] W (.bool true)):=fun W q r hq hr hW hf hs => by
  have hi:=(Wel.of (Fin_.of hf).wel).im
  have:=refAlike13_any ((HI.out W hW).mok _ (List.getElem_mem hq)) ((HI.out W hW).mok _ (List.getElem_mem hr)) (mfl_bound hi hq).1 (mfl_bound hi hr).1
  rw [← smI_at hq hr,hs] at this
  exact this
 have HTs : Hid (∀ W,Below w0.heap.size w0 W → Es tdE W (.slice g.ta g.ts.length g.tc) g.ts):=fun W hW => (HI.out W hW).ts
 have HMq : Hid (∀ (q : Nat) (hq : q < g.ms.length),∃ mb moff,g.ma = some ⟨mb,moff,none⟩∧g.ms.length ≤ g.mc∧g.mc ≤ maxLen∧∀ W,Below w0.heap.size w0 W → ∀ k (hk : k < g.ms.length),MtA W mb (moff + k * 12) g.ms[k]):=fun q hq => (HI.out w0 (Below.refl _ _)).mth hq
 have HC4 : Hid (∀ W,Below w0.heap.size w0 W → Im4 W w.heap.size g):=HC.out
 unfold imA4 at HLo HFi HTb HKn
 unfold Im4 at HC4
 unfold mdV at HAl
 unfold imV
 generalize g.ta = ta at *
 generalize g.ma = ma at *
 clear hg hnm ha HC HI HG
 go_enter Tryz.func8,Tryz.ntmps8
 go_wp2_with (rw [← HW0.out])
 refine Calls.mono (wakes13_any w0) ?_
 rintro e w1 ⟨rfl,hb1⟩
 have HB1 : Hid (Below w0.heap.size w0 w1):=hb1
 clear hb1 c0 c1 c2 c3
 obtain ⟨c0,c1,c2,c3⟩:=HC4.out w1 HB1.out
 go_wp2_with fail
 refine Calls.mono (HLo.out w1 HB1.out) ?_
 rintro e w2 ⟨rfl,hb2⟩
 have HB2 : Hid (Below w0.heap.size w0 w2):=bstep HB1.out hb2
 clear hb2 c0 c1 c2 c3
 obtain ⟨c0,c1,c2,c3⟩:=HC4.out w2 HB2.out
 cases longI g with
 | true =>
  go_wp2_with fail
  go_ret
  exact ⟨rfl,bstep HB0.out HB2.out⟩
 | false =>
  go_wp2_with fail
  refine Calls.mono (HFi.out w2 HB2.out) ?_
  rintro e w3 ⟨rfl,hb3⟩
  have HB3 : Hid (Below w0.heap.size w0 w3):=bstep HB2.out hb3
  clear hb3 c0 c1 c2 c3
  obtain ⟨c0,c1,c2,c3⟩:=HC4.out w3 HB3.out
  cases hfi : finB g with
  | false =>
   clear hfi
   go_wp2_with fail
   go_ret
   exact ⟨rfl,bstep HB0.out HB3.out⟩
  | true =>
   have HF : Hid (finB g = true):=hfi
   clear hfi
   rcases Nat.eq_zero_or_pos g.ts.length with hz | hz
   ·have hzi : (g.ts.length : Int) = 0:=by omega
    clear hz
    go_wp2_with fail
    go_ret
    exact ⟨rfl,bstep HB0.out HB3.out⟩
   ·have hzi : ¬ (g.ts.length : Int) = 0:=by omega
    have hzn : ¬ g.ts.length = 0:=by omega
    have hzl : ¬ g.ts = []:=by intro e; rw [e] at hz; simp at hz
    have hzd : decide ((g.ts.length : Int) = 0) = false:=decide_eq_false hzi
    have hnz : ((g.ts.length : Int) == 0) = false:=by rw [beq_eq_false_iff_ne]; omega
    obtain ⟨A,hA,htmA,hAn⟩:=drawn_num13 hau.1 hz
    have HKp : Hid (kndI g (A : Int) = 0 → ∀ U : Nat,g.ts[A].ex = (U : Int) → Keep13 g (tab13 g (U : Int)) (tab13 g (A : Int))):=fun hk U hU => tab13_keep HF.out hA hk hU
    obtain ⟨tb,off,hla,_,hel⟩:=(HTs.out w0 (Below.refl _ _)).elAll hzl
    subst hla
    have HEl : Hid (∀ W,Below w0.heap.size w0 W → El tdE W tb (off + A * 4) g.ts[A]):=fun W hW => hel W hW A hA
    have hAi : (A : Int) < (g.ts.length : Int):=by omega
    clear hAn hel HTs HLo HFi
    obtain ⟨k0,k1,k2,k3⟩:=(HEl.out w3 HB3.out).cells_T
    have HKA : Hid (∀ W,Below w0.heap.size w0 W → Ans 27 #[.agg #[.slice (some ⟨tb,off,none⟩) g.ts.length g.tc,.slice g.fa g.fs.length g.fc,.slice ma g.ms.length g.mc,.int .i64 g.en],.int .i64 (A : Int)] W (.int .i64 (kndI g (A : Int)))):=fun W hW => HKn.out W (A : Int) hW HF.out
    have HTA : Hid (∀ W,Below w0.heap.size w0 W → Calls Tryz.prog 24 #[.agg #[.slice (some ⟨tb,off,none⟩) g.ts.length g.tc,.slice g.fa g.fs.length g.fc,.slice ma g.ms.length g.mc,.int .i64 g.en],.int .i64 (A : Int)] W fun e w' => ∃ v,e = .returned v∧OwnI w' W.heap.size v (tab13 g (A : Int))∧Below W.heap.size W w'):=fun W hW => HTb.out W (A : Int) hW
    have HNA : Hid (∀ x ∈ tab13 g (A : Int),∃ (q : Nat) (hq : q < g.ms.length),x = (q : Int)):=fun x hx => tab13_num hx
    clear HKn
    generalize kndI g (A : Int) = kn at *
    generalize tab13 g (A : Int) = TA at *
    generalize g.ts[A] = td at *
    by_cases hx0 : td.ex < 0
    ·go_wp2_with fail
     go_ret
     exact ⟨rfl,bstep HB0.out HB3.out⟩
    ·obtain ⟨U,hU⟩ : ∃ U : Nat,td.ex = (U : Int):=⟨td.ex.toNat,by omega⟩
     have HKU : Hid (kn = 0 → Keep13 g (tab13 g (U : Int)) TA):=fun h => HKp.out h U hU
     have HTU : Hid (∀ W,Below w0.heap.size w0 W → Calls Tryz.prog 24 #[.agg #[.slice (some ⟨tb,off,none⟩) g.ts.length g.tc,.slice g.fa g.fs.length g.fc,.slice ma g.ms.length g.mc,.int .i64 g.en],.int .i64 (U : Int)] W fun e w' => ∃ v,e = .returned v∧OwnI w' W.heap.size v (tab13 g (U : Int))∧Below W.heap.size W w'):=fun W hW => HTb.out W (U : Int) hW
     have HNU : Hid (∀ x ∈ tab13 g (U : Int),∃ (q : Nat) (hq : q < g.ms.length),x = (q : Int)):=fun x hx => tab13_num hx
     rw [hU] at k2 hx0
     have hU0 : ¬ (U : Int) < 0:=by omega
     clear HKp hU HTb hx0
     generalize tab13 g (U : Int) = TU at *
     go_wp2_with fail
     refine Calls.mono (HKA.out w3 HB3.out) ?_
     rintro e w4 ⟨rfl,hb4⟩
     have HB4 : Hid (Below w0.heap.size w0 w4):=bstep HB3.out hb4
     clear hb4 c0 c1 c2 c3 k0 k1 k2 k3
     by_cases hk : kn = 0
     ·have HKk : Hid (Keep13 g TU TA):=HKU.out hk
      subst hk
      have HK : Hid (∀ W,Below w4.heap.size w4 W → W.cell? ⟨w.heap.size,0,none⟩ = some (.slice (some ⟨tb,off,none⟩) g.ts.length g.tc)∧W.cell? ⟨w.heap.size,1,none⟩ = some (.slice g.fa g.fs.length g.fc)∧W.cell? ⟨w.heap.size,2,none⟩ = some (.slice ma g.ms.length g.mc)∧W.cell? ⟨w.heap.size,3,none⟩ = some (.int .i64 g.en)):=fun W hW => HC4.out W (bstep HB4.out hW)
      have HT1 : Hid (∀ W,Below w4.heap.size w4 W → Calls Tryz.prog 24 #[.agg #[.slice (some ⟨tb,off,none⟩) g.ts.length g.tc,.slice g.fa g.fs.length g.fc,.slice ma g.ms.length g.mc,.int .i64 g.en],.int .i64 (A : Int)] W fun e w' => ∃ v,e = .returned v∧OwnI w' W.heap.size v TA∧Below W.heap.size W w'):=fun W hW => HTA.out W (bstep HB4.out hW)
      have HT2 : Hid (∀ W,Below w4.heap.size w4 W → Calls Tryz.prog 24 #[.agg #[.slice (some ⟨tb,off,none⟩) g.ts.length g.tc,.slice g.fa g.fs.length g.fc,.slice ma g.ms.length g.mc,.int .i64 g.en],.int .i64 (U : Int)] W fun e w' => ∃ v,e = .returned v∧OwnI w' W.heap.size v TU∧Below W.heap.size W w'):=fun W hW => HTU.out W (bstep HB4.out hW)
      obtain ⟨c0,c1,c2,c3⟩:=HK.out w4 (Below.refl _ _)
      clear HKU HTA HTU HKA
      go_wp2_with fail
      go_region_held3 (fun W : World => W.cell? ⟨w.heap.size,0,none⟩ = some (.slice (some ⟨tb,off,none⟩) g.ts.length g.tc)∧W.cell? ⟨w.heap.size,1,none⟩ = some (.slice g.fa g.fs.length g.fc)∧W.cell? ⟨w.heap.size,2,none⟩ = some (.slice ma g.ms.length g.mc)∧W.cell? ⟨w.heap.size,3,none⟩ = some (.int .i64 g.en))
       (first | (exact HK.out _ hBd) | (exact HK.out _ hBc) | (exact HK.out _ (bdrew _)))
       (first | (go_at_call 24; refine (HT2.out _ hBc).mono ?_; rintro e w6 ⟨v6,rfl,h6,hb6⟩; have hBd : Below w4.heap.size w4 w6:=bstep hBc hb6) | (go_at_call 24; refine (HT1.out _ (bdrew _)).mono ?_; rintro e w5 ⟨v5,rfl,h5,hb5⟩; have hBc : Below w4.heap.size w4 w5:=bstep (bdrew _) hb5))
      rename_i hheld
      clear hheld
      have HB6 : Hid (Below w0.heap.size w0 w6):=bstep HB4.out hBd
      have HVA : Hid (∀ W,Below w6.heap.size w6 W → Is W v5 TA):=fun W hW => (h5.is.later hb6).later hW
      have HVU : Hid (∀ W,Below w6.heap.size w6 W → Is W v6 TU):=fun W hW => h6.is.later hW
      obtain ⟨a5,p5,hv5,hq5,hp5⟩:=h5.is.shape
      obtain ⟨a6,p6,hv6,hq6,hp6⟩:=h6.is.shape
      have hl5:=h5.is.len
      have hl6:=h6.is.len
      rw [i64s_length] at hl5 hl6
      subst hv5 hv6
      unfold maxLen at hl5 hl6 hp5 hp6
      have hkl:=HKk.out.1
      have hkb : ¬ (TA.length : Int) < (TU.length : Int):=by omega
      clear h5 h6 hb5 hb6 hBc hBd HK HT1 HT2 c0 c1 c2 c3
      go_wp2_with fail
      go_loopw [9,58] (fun _ z wr => ∃ i : Nat,i ≤ TU.length∧z = .int .i64 i∧Hid (Below w6.heap.size w6 wr)) (fun _ z _ => TU.length - (intOf z).toNat)
      case atStart => exact ⟨0,Nat.zero_le _,rfl,Below.refl _ _⟩
      case round =>
       obtain ⟨i,hil0,rfl,HB⟩:=hrel
       by_cases hil : i < TU.length
       ·have hii : (i : Int) < (TU.length : Int):=by omega
        have hil2 : i < TA.length:=by omega
        have hij : (i : Int) < (TA.length : Int):=by omega
        obtain ⟨q,hq,hTq⟩:=HNA.out TA[i] (List.getElem_mem hil2)
        obtain ⟨r,hr,hTr⟩:=HNU.out TU[i] (List.getElem_mem hil)
        have hsm:=HKk.out.2 i hil hil2
        rw [hTq,hTr] at hsm
        have hqi : (q : Int) < (g.ms.length : Int):=by omega
        have hri : (r : Int) < (g.ms.length : Int):=by omega
        obtain ⟨hb,hoff,hma,hm1,hm2,hcm⟩:=HMq.out q hq
        have HB0r : Hid (Below w0.heap.size w0 wr):=bstep HB6.out HB.out
        have HAr : Hid (∀ W,Below wr.heap.size wr W → Ans 30 _ W (.bool true)):=fun W hW => HAl.out W q r hq hr (bstep HB0r.out hW) HF.out hsm
        obtain ⟨la,lo,hla,hlb,_,h6',h7',hcv⟩:=(HVA.out wr HB.out).at hil2
        obtain ⟨ua,uo,hua,hub,_,h8',h9',hcw⟩:=(HVU.out wr HB.out).at hil
        have HKr : Hid (∀ W,Below wr.heap.size wr W → W.cell? ⟨w.heap.size,0,none⟩ = some (.slice (some ⟨tb,off,none⟩) g.ts.length g.tc)∧W.cell? ⟨w.heap.size,1,none⟩ = some (.slice g.fa g.fs.length g.fc)∧W.cell? ⟨w.heap.size,2,none⟩ = some (.slice ma g.ms.length g.mc)∧W.cell? ⟨w.heap.size,3,none⟩ = some (.int .i64 g.en)):=fun W hW => HC4.out W (bstep HB0r.out hW)
        have HKq : Hid (∀ W,Below wr.heap.size wr W → (W.cell? ⟨la,lo + i,none⟩ = some (.int .i64 (q : Int))∧W.cell? ⟨ua,uo + i,none⟩ = some (.int .i64 (r : Int)))∧MtA W hb (hoff + q * 12) g.ms[q]∧MtA W hb (hoff + r * 12) g.ms[r]):=fun W hW => by
         refine ⟨⟨?_, ?_⟩,hcm W (bstep HB0r.out hW) q hq,hcm W (bstep HB0r.out hW) r hr⟩
         ·obtain ⟨lb2,loff2,hla2,_,_,_,_,hcv2⟩:=(HVA.out W (bstep HB.out hW)).at hil2
          rw [hla] at hla2
          cases hla2
          have:=hcv2 i hil2
          rw [hTq] at this
          exact this
         ·obtain ⟨lb2,loff2,hla2,_,_,_,_,hcv2⟩:=(HVU.out W (bstep HB.out hW)).at hil
          rw [hua] at hla2
          cases hla2
          have:=hcv2 i hil
          rw [hTr] at this
          exact this
        subst hla hua hma
        have HKs : Hid (∀ W,Below wr.heap.size wr W → (W.cell? ⟨w.heap.size,0,none⟩ = some (.slice (some ⟨tb,off,none⟩) g.ts.length g.tc)∧W.cell? ⟨w.heap.size,1,none⟩ = some (.slice g.fa g.fs.length g.fc)∧W.cell? ⟨w.heap.size,2,none⟩ = some (.slice (some ⟨hb,hoff,none⟩) g.ms.length g.mc)∧W.cell? ⟨w.heap.size,3,none⟩ = some (.int .i64 g.en))∧(W.cell? ⟨la,lo + i,none⟩ = some (.int .i64 (q : Int))∧W.cell? ⟨ua,uo + i,none⟩ = some (.int .i64 (r : Int)))∧MtA W hb (hoff + q * 12) g.ms[q]∧MtA W hb (hoff + r * 12) g.ms[r]):=fun W hW => ⟨HKr.out W hW,HKq.out W hW⟩
        obtain ⟨⟨c0,c1,c2,c3⟩,_⟩:=HKs.out wr (Below.refl _ _)
        unfold maxLen at hm2
        clear hcv hcw hTq hTr hsm HKr HKq hcm
        generalize g.ms[q] = x at *
        generalize g.ms[r] = y at *
        go_wp2_with fail
        refine wp_region_held_drew (S:=(fun W : World => (W.cell? ⟨w.heap.size,0,none⟩ = some (.slice (some ⟨tb,off,none⟩) g.ts.length g.tc)∧W.cell? ⟨w.heap.size,1,none⟩ = some (.slice g.fa g.fs.length g.fc)∧W.cell? ⟨w.heap.size,2,none⟩ = some (.slice (some ⟨hb,hoff,none⟩) g.ms.length g.mc)∧W.cell? ⟨w.heap.size,3,none⟩ = some (.int .i64 g.en))∧(W.cell? ⟨la,lo + i,none⟩ = some (.int .i64 (q : Int))∧W.cell? ⟨ua,uo + i,none⟩ = some (.int .i64 (r : Int)))∧MtA W hb (hoff + q * 12) x∧MtA W hb (hoff + r * 12) y)) (by kernel_rfl) (HKs.out _ (bdrew _)) (fun hHeld => ?_)
        refine tY 0 opSb0 (.pointer (some ⟨w.heap.size,2,none⟩)) hHeld ?_
        refine tY 1 opSb1 (.slice (some ⟨hb,hoff,none⟩) g.ms.length g.mc) hHeld ?_
        refine tY 2 opSb2 (.slice (some ⟨la,lo,none⟩) TA.length p5) hHeld ?_
        refine tY 3 opSb3 (.int .i64 (i : Int)) hHeld ?_
        refine tY 4 opSb4 (.pointer (some ⟨la,lo + i,none⟩)) hHeld ?_
        refine tY 5 opSb5 (.int .i64 (q : Int)) hHeld ?_
        refine tY 6 opSb6 (.pointer (some ⟨hb,hoff + q * 12,none⟩)) hHeld ?_
        refine tY 7 opSb7 (.agg #[.string x.nm,.int .i64 x.ow,.int .i64 x.fl,.slice x.pa x.ps.length x.pc,.int .i64 x.rt.1,.int .i64 x.rt.2.1,.int .i64 x.rt.2.2.1,.bool x.rt.2.2.2,.slice x.la x.ls.length x.lc,.int .i64 x.mx,.slice x.ca x.co.length x.cc,.slice x.ka x.cl.length x.kc]) hHeld ?_
        refine tY 8 opSb8 (.pointer (some ⟨w.heap.size,2,none⟩)) hHeld ?_
        refine tY 9 opSb9 (.slice (some ⟨hb,hoff,none⟩) g.ms.length g.mc) hHeld ?_
        refine tY 10 opSb10 (.slice (some ⟨ua,uo,none⟩) TU.length p6) hHeld ?_
        refine tY 11 opSb11 (.int .i64 (i : Int)) hHeld ?_
        refine tY 12 opSb12 (.pointer (some ⟨ua,uo + i,none⟩)) hHeld ?_
        refine tY 13 opSb13 (.int .i64 (r : Int)) hHeld ?_
        refine tY 14 opSb14 (.pointer (some ⟨hb,hoff + r * 12,none⟩)) hHeld ?_
        refine tY 15 opSb15 (.agg #[.string y.nm,.int .i64 y.ow,.int .i64 y.fl,.slice y.pa y.ps.length y.pc,.int .i64 y.rt.1,.int .i64 y.rt.2.1,.int .i64 y.rt.2.2.1,.bool y.rt.2.2.2,.slice y.la y.ls.length y.lc,.int .i64 y.mx,.slice y.ca y.co.length y.cc,.slice y.ka y.cl.length y.kc]) hHeld ?_
        refine wpAnyH_ready (rs := [16]) (by kernel_rfl) (by simp) ?_
        refine AllReadyH.cons (o:=opSb16) rfl (fun K hK => ?_) AllReadyH.nil
        go_simp
        refine (HAr.out _ (bdrew _)).mono ?_
        rintro e w7 ⟨rfl,hz7⟩
        have hB7 : Below wr.heap.size wr w7:=bstep (bdrew _) hz7
        try go_wp2_with fail
        refine hK.out _ _ (HKs.out _ hB7) (fun hHeld => ?_)
        clear hK K
        try simp only [Act.put,sA,s0,sS]
        refine tY 17 opSb17 (.bool false) hHeld ?_
        refine wpAnyH_done (by kernel_rfl) ?_ _
        have HB7 : Hid (Below wr.heap.size wr w7):=hB7
        clear hz7 hB7 c0 c1 c2 c3
        go_wp2_with fail
        go_roundw
        case rel => exact ⟨i + 1,by omega,by go_num,bstep HB.out HB7.out⟩
        case measure => simp [intOf] <;> omega
       ·have hii : ¬ (i : Int) < (TU.length : Int):=by omega
        go_wp2_with fail
        go_ret
        exact ⟨rfl,bstep HB0.out (bstep HB6.out HB.out)⟩
     ·have hkb : (kn != 0) = true:=by simpa using hk
      have hke : (kn == 0) = false:=by simpa using hk
      clear hk
      go_wp2_with fail
      go_ret
      exact ⟨rfl,bstep HB0.out HB4.out⟩

end Go.Proofs.YthpmpdpfnlecmaaGreat
