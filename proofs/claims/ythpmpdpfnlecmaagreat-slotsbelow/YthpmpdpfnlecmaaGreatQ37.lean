/- Texts joined: Sorted10, Formed10. -/
import Derived.Test.YthpmpdpfnlecmaaGreatQ32
namespace Go.Proofs.YthpmpdpfnlecmaaGreat
set_option linter.unusedVariables false
set_option linter.unusedSimpArgs false
open Go.RowKit
attribute [local go_sem ↓] Go.wp_at_zero Go.wp_at_succ
theorem ris_no {l : List Int} {k : Nat} (hk : k + 1 < l.length) (h : l[k + 1] < l[k]) : risB l = false:=by
 cases hr : risB l with
 | false => rfl
 | true => have:=(ris_iff l).1 hr k hk; omega
theorem ris_step {l : List Int} {k : Nat} (hk : k + 1 < l.length) (h : ¬ l[k + 1] < l[k]) (hz : ∀ j (hj : j + 1 < l.length),k + 1 ≤ j → l[j] ≤ l[j + 1]) : ∀ j (hj : j + 1 < l.length),k ≤ j → l[j] ≤ l[j + 1]:=fun j hj hk' => by
 rcases Nat.lt_or_ge k j with g | g
 ·exact hz j hj g
 ·obtain rfl : j = k:=by omega
  omega

set_option maxHeartbeats 4000000 in
theorem sortedF_some {b off cap : Nat} {l : List FD} {w : World} (hb : b < w.heap.size) (hc : ∀ i (hi : i < l.length),El fdE w b (off + i * 7) l[i]) (hl : l.length ≤ maxLen) :
  Calls Tryz.prog 101 #[.slice (some ⟨b,off,none⟩) l.length cap,.func (.func 102) #[] #[]] w fun e w' => e = .returned (.bool (risB (l.map (·.ow))))∧Below w.heap.size w w':=by
 unfold maxLen at hl
 have HC : Hid (∀ i (hi : i < l.length),El fdE w b (off + i * 7) l[i]):=hc
 clear hc
 go_enter Tryz.func101,Tryz.ntmps101
 go_wp2_with fail
 go_loopw [5] (fun z wr => ∃ q : Nat,q ≤ l.length∧z = .int .i64 ((q : Int) - 1)∧Below w.heap.size w wr∧Hid (∀ j (hj : j + 1 < (l.map (·.ow)).length),q ≤ j + 1 → (l.map (·.ow))[j]'(by omega) ≤ (l.map (·.ow))[j + 1])) (fun z _ => (intOf z + 1).toNat)
 case atStart => exact ⟨l.length,Nat.le_refl _,rfl,Below.refl _ _,fun j hj h => absurd hj (by simp; omega)⟩
 case round =>
  obtain ⟨q,hq,rfl,hB,HZ⟩:=hrel
  have HBL : Hid (Below w.heap.size w wr):=hB
  by_cases hq2 : 2 ≤ q
  ·obtain ⟨k,m,hk,hm⟩ : ∃ k m,q = m + 1∧m = k + 1:=⟨q - 2,q - 1,by omega,by omega⟩
   have e1 : ((q : Int) - 1) = (m : Int):=by omega
   have e2 : IntKind.i64.wrap ((m : Int) - 1) = (k : Int):=by rw [IntKind.wrap_i64]; omega
   have h1 : m < l.length:=by omega
   have h2 : k < l.length:=by omega
   have h0 : (0 : Int) < (m : Int):=by omega
   have HL : Hid (k + 1 < (l.map (·.ow)).length):=by show _ < _; simp; omega
   have HZ2 : Hid (l[m].ow < l[k].ow → risB (l.map (·.ow)) = false):=fun h => ris_no (k:=k) HL.out (by subst hm; simpa using h)
   have HM : Hid (m = k + 1):=hm
   have HZ3 : Hid (l[k].ow ≤ l[m].ow → ∀ j (hj : j + 1 < (l.map (·.ow)).length),m ≤ j + 1 → (l.map (·.ow))[j]'(by omega) ≤ (l.map (·.ow))[j + 1]):=fun h j hj hjm => ris_step HL.out (by subst hm; simp; omega) (fun j' hj' h' => HZ.out j' hj' (by omega)) j hj (by omega)
   obtain ⟨x,hx⟩ : ∃ x,x = l[m]:=⟨_,rfl⟩
   obtain ⟨y,hy⟩ : ∃ y,y = l[k]:=⟨_,rfl⟩
   have HK : Hid (∀ W,Below wr.heap.size wr W → (W.cell? ⟨b,off + m * 7,none⟩ = some (.string x.nm)∧W.cell? ⟨b,off + m * 7 + 1,none⟩ = some (.int .i64 x.ow)∧W.cell? ⟨b,off + m * 7 + 2,none⟩ = some (.int .i64 x.t.1)∧W.cell? ⟨b,off + m * 7 + 3,none⟩ = some (.int .i64 x.t.2.1)∧W.cell? ⟨b,off + m * 7 + 4,none⟩ = some (.int .i64 x.t.2.2.1)∧W.cell? ⟨b,off + m * 7 + 5,none⟩ = some (.bool x.t.2.2.2)∧W.cell? ⟨b,off + m * 7 + 6,none⟩ = some (.bool x.st))∧(W.cell? ⟨b,off + k * 7,none⟩ = some (.string y.nm)∧W.cell? ⟨b,off + k * 7 + 1,none⟩ = some (.int .i64 y.ow)∧W.cell? ⟨b,off + k * 7 + 2,none⟩ = some (.int .i64 y.t.1)∧W.cell? ⟨b,off + k * 7 + 3,none⟩ = some (.int .i64 y.t.2.1)∧W.cell? ⟨b,off + k * 7 + 4,none⟩ = some (.int .i64 y.t.2.2.1)∧W.cell? ⟨b,off + k * 7 + 5,none⟩ = some (.bool y.t.2.2.2)∧W.cell? ⟨b,off + k * 7 + 6,none⟩ = some (.bool y.st))):=fun W hW => by
    subst hx hy
    exact ⟨((HC.out m h1).below (bstep hB hW) hb).cells_F,((HC.out k h2).below (bstep hB hW) hb).cells_F⟩
   rw [← hx,← hy] at HZ2 HZ3
   have HCm : Hid (∀ W,Calls Tryz.prog 102 #[.agg #[.string x.nm,.int .i64 x.ow,.int .i64 x.t.1,.int .i64 x.t.2.1,.int .i64 x.t.2.2.1,.bool x.t.2.2.2,.bool x.st],.agg #[.string y.nm,.int .i64 y.ow,.int .i64 y.t.1,.int .i64 y.t.2.1,.int .i64 y.t.2.2.1,.bool y.t.2.2.2,.bool y.st]] W fun e w' => e = .returned (.int .i64 (cmpI x.ow y.ow))∧Below W.heap.size W w'):=fun W => byFieldOwner_any x y W
   rw [e1]
   clear e1 hk hm hx hy hq2 hq HZ HL HC hB
   go_wp2_with fail
   go_region_held3 (fun W => (W.cell? ⟨b,off + m * 7,none⟩ = some (.string x.nm)∧W.cell? ⟨b,off + m * 7 + 1,none⟩ = some (.int .i64 x.ow)∧W.cell? ⟨b,off + m * 7 + 2,none⟩ = some (.int .i64 x.t.1)∧W.cell? ⟨b,off + m * 7 + 3,none⟩ = some (.int .i64 x.t.2.1)∧W.cell? ⟨b,off + m * 7 + 4,none⟩ = some (.int .i64 x.t.2.2.1)∧W.cell? ⟨b,off + m * 7 + 5,none⟩ = some (.bool x.t.2.2.2)∧W.cell? ⟨b,off + m * 7 + 6,none⟩ = some (.bool x.st))∧(W.cell? ⟨b,off + k * 7,none⟩ = some (.string y.nm)∧W.cell? ⟨b,off + k * 7 + 1,none⟩ = some (.int .i64 y.ow)∧W.cell? ⟨b,off + k * 7 + 2,none⟩ = some (.int .i64 y.t.1)∧W.cell? ⟨b,off + k * 7 + 3,none⟩ = some (.int .i64 y.t.2.1)∧W.cell? ⟨b,off + k * 7 + 4,none⟩ = some (.int .i64 y.t.2.2.1)∧W.cell? ⟨b,off + k * 7 + 5,none⟩ = some (.bool y.t.2.2.2)∧W.cell? ⟨b,off + k * 7 + 6,none⟩ = some (.bool y.st)))
    (first | (exact HK.out _ (bdrew _)) | (exact HK.out _ (bstep (bdrew _) hb1)))
    (first | (go_at_call 102; refine (HCm.out _).mono ?_; rintro e w1 ⟨rfl,hb1⟩))
   rename_i hheld
   clear hheld
   have HB1 : Hid (Below w.heap.size w w1):=bstep HBL.out (bstep (bdrew _) hb1)
   clear hb1
   by_cases hlt : x.ow < y.ow
   ·have hcm : cmpI x.ow y.ow = -1:=by unfold cmpI; rw [if_pos hlt]
    rw [hcm]
    go_wp2_with fail
    go_ret
    exact ⟨ret_bool (HZ2.out hlt).symm,HB1.out⟩
   ·have hcm : ¬ cmpI x.ow y.ow < 0:=by unfold cmpI; rw [if_neg hlt]; split <;> omega
    go_wp2_with fail
    go_roundw
    case rel => exact ⟨m,by omega,by have:=HM.out; congr 1; omega,HB1.out,HZ3.out (by omega)⟩
    case measure => have:=HM.out; simp [intOf]; omega
  ·have h0 : ¬ (0 : Int) < (q : Int) - 1:=by omega
   have HR : Hid (risB (l.map (·.ow)) = true):=(ris_iff _).2 fun j hj => HZ.out j hj (by omega)
   clear HZ HC
   go_wp2_with fail
   go_ret
   exact ⟨ret_bool HR.out.symm,hB⟩

theorem sortedF_any {v : Value} {l : List FD} {w : World} (h : Es fdE w v l) :
  Calls Tryz.prog 101 #[v,.func (.func 102) #[] #[]] w fun e w' => e = .returned (.bool (risB (l.map (·.ow))))∧Below w.heap.size w w':=by
 by_cases hne : l = []
 ·subst hne
  obtain ⟨a,c,rfl,_,_⟩:=h.shape
  go_enter Tryz.func101,Tryz.ntmps101
  go_wp2
  refine wp_loop_rounds 1 ?_; rw [rounds_succ]
  go_wp2
  go_ret
  exact ⟨rfl,Below.refl _ _⟩
 ·have hl:=h.len
  obtain ⟨b,off,cap,rfl,h1,h2,hb,hc⟩:=h.parts hne
  exact sortedF_some hb hc hl

set_option maxHeartbeats 4000000 in
theorem sortedM_some {b off cap : Nat} {l : List MD} {w : World} (hb : b < w.heap.size) (hc : ∀ i (hi : i < l.length),El mdE w b (off + i * 12) l[i]) (hl : l.length ≤ maxLen) :
  Calls Tryz.prog 105 #[.slice (some ⟨b,off,none⟩) l.length cap,.func (.func 106) #[] #[]] w fun e w' => e = .returned (.bool (risB (l.map (·.ow))))∧Below w.heap.size w w':=by
 unfold maxLen at hl
 have HC : Hid (∀ i (hi : i < l.length),El mdE w b (off + i * 12) l[i]):=hc
 clear hc
 go_enter Tryz.func105,Tryz.ntmps105
 go_wp2_with fail
 go_loopw [5] (fun z wr => ∃ q : Nat,q ≤ l.length∧z = .int .i64 ((q : Int) - 1)∧Below w.heap.size w wr∧Hid (∀ j (hj : j + 1 < (l.map (·.ow)).length),q ≤ j + 1 → (l.map (·.ow))[j]'(by omega) ≤ (l.map (·.ow))[j + 1])) (fun z _ => (intOf z + 1).toNat)
 case atStart => exact ⟨l.length,Nat.le_refl _,rfl,Below.refl _ _,fun j hj h => absurd hj (by simp; omega)⟩
 case round =>
  obtain ⟨q,hq,rfl,hB,HZ⟩:=hrel
  have HBL : Hid (Below w.heap.size w wr):=hB
  by_cases hq2 : 2 ≤ q
  ·obtain ⟨k,m,hk,hm⟩ : ∃ k m,q = m + 1∧m = k + 1:=⟨q - 2,q - 1,by omega,by omega⟩
   have e1 : ((q : Int) - 1) = (m : Int):=by omega
   have e2 : IntKind.i64.wrap ((m : Int) - 1) = (k : Int):=by rw [IntKind.wrap_i64]; omega
   have h1 : m < l.length:=by omega
   have h2 : k < l.length:=by omega
   have h0 : (0 : Int) < (m : Int):=by omega
   have HL : Hid (k + 1 < (l.map (·.ow)).length):=by show _ < _; simp; omega
   have HZ2 : Hid (l[m].ow < l[k].ow → risB (l.map (·.ow)) = false):=fun h => ris_no (k:=k) HL.out (by subst hm; simpa using h)
   have HM : Hid (m = k + 1):=hm
   have HZ3 : Hid (l[k].ow ≤ l[m].ow → ∀ j (hj : j + 1 < (l.map (·.ow)).length),m ≤ j + 1 → (l.map (·.ow))[j]'(by omega) ≤ (l.map (·.ow))[j + 1]):=fun h j hj hjm => ris_step HL.out (by subst hm; simp; omega) (fun j' hj' h' => HZ.out j' hj' (by omega)) j hj (by omega)
   obtain ⟨x,hx⟩ : ∃ x,x = l[m]:=⟨_,rfl⟩
   obtain ⟨y,hy⟩ : ∃ y,y = l[k]:=⟨_,rfl⟩
   have HK : Hid (∀ W,Below wr.heap.size wr W → (W.cell? ⟨b,off + m * 12,none⟩ = some (.string x.nm)∧W.cell? ⟨b,off + m * 12 + 1,none⟩ = some (.int .i64 x.ow)∧W.cell? ⟨b,off + m * 12 + 2,none⟩ = some (.int .i64 x.fl)∧W.cell? ⟨b,off + m * 12 + 3,none⟩ = some (.slice x.pa x.ps.length x.pc)∧W.cell? ⟨b,off + m * 12 + 4,none⟩ = some (.int .i64 x.rt.1)∧W.cell? ⟨b,off + m * 12 + 5,none⟩ = some (.int .i64 x.rt.2.1)∧W.cell? ⟨b,off + m * 12 + 6,none⟩ = some (.int .i64 x.rt.2.2.1)∧W.cell? ⟨b,off + m * 12 + 7,none⟩ = some (.bool x.rt.2.2.2)∧W.cell? ⟨b,off + m * 12 + 8,none⟩ = some (.slice x.la x.ls.length x.lc)∧W.cell? ⟨b,off + m * 12 + 9,none⟩ = some (.int .i64 x.mx)∧W.cell? ⟨b,off + m * 12 + 10,none⟩ = some (.slice x.ca x.co.length x.cc)∧W.cell? ⟨b,off + m * 12 + 11,none⟩ = some (.slice x.ka x.cl.length x.kc))∧(W.cell? ⟨b,off + k * 12,none⟩ = some (.string y.nm)∧W.cell? ⟨b,off + k * 12 + 1,none⟩ = some (.int .i64 y.ow)∧W.cell? ⟨b,off + k * 12 + 2,none⟩ = some (.int .i64 y.fl)∧W.cell? ⟨b,off + k * 12 + 3,none⟩ = some (.slice y.pa y.ps.length y.pc)∧W.cell? ⟨b,off + k * 12 + 4,none⟩ = some (.int .i64 y.rt.1)∧W.cell? ⟨b,off + k * 12 + 5,none⟩ = some (.int .i64 y.rt.2.1)∧W.cell? ⟨b,off + k * 12 + 6,none⟩ = some (.int .i64 y.rt.2.2.1)∧W.cell? ⟨b,off + k * 12 + 7,none⟩ = some (.bool y.rt.2.2.2)∧W.cell? ⟨b,off + k * 12 + 8,none⟩ = some (.slice y.la y.ls.length y.lc)∧W.cell? ⟨b,off + k * 12 + 9,none⟩ = some (.int .i64 y.mx)∧W.cell? ⟨b,off + k * 12 + 10,none⟩ = some (.slice y.ca y.co.length y.cc)∧W.cell? ⟨b,off + k * 12 + 11,none⟩ = some (.slice y.ka y.cl.length y.kc))):=fun W hW => by
    subst hx hy
    exact ⟨((HC.out m h1).below (bstep hB hW) hb).cells_M,((HC.out k h2).below (bstep hB hW) hb).cells_M⟩
   rw [← hx,← hy] at HZ2 HZ3
   have HCm : Hid (∀ W,Calls Tryz.prog 106 #[.agg #[.string x.nm,.int .i64 x.ow,.int .i64 x.fl,.slice x.pa x.ps.length x.pc,.int .i64 x.rt.1,.int .i64 x.rt.2.1,.int .i64 x.rt.2.2.1,.bool x.rt.2.2.2,.slice x.la x.ls.length x.lc,.int .i64 x.mx,.slice x.ca x.co.length x.cc,.slice x.ka x.cl.length x.kc],.agg #[.string y.nm,.int .i64 y.ow,.int .i64 y.fl,.slice y.pa y.ps.length y.pc,.int .i64 y.rt.1,.int .i64 y.rt.2.1,.int .i64 y.rt.2.2.1,.bool y.rt.2.2.2,.slice y.la y.ls.length y.lc,.int .i64 y.mx,.slice y.ca y.co.length y.cc,.slice y.ka y.cl.length y.kc]] W fun e w' => e = .returned (.int .i64 (cmpI x.ow y.ow))∧Below W.heap.size W w'):=fun W => byMethodOwner_any x y W
   rw [e1]
   clear e1 hk hm hx hy hq2 hq HZ HL HC hB
   go_wp2_with fail
   go_region_held3 (fun W => (W.cell? ⟨b,off + m * 12,none⟩ = some (.string x.nm)∧W.cell? ⟨b,off + m * 12 + 1,none⟩ = some (.int .i64 x.ow)∧W.cell? ⟨b,off + m * 12 + 2,none⟩ = some (.int .i64 x.fl)∧W.cell? ⟨b,off + m * 12 + 3,none⟩ = some (.slice x.pa x.ps.length x.pc)∧W.cell? ⟨b,off + m * 12 + 4,none⟩ = some (.int .i64 x.rt.1)∧W.cell? ⟨b,off + m * 12 + 5,none⟩ = some (.int .i64 x.rt.2.1)∧W.cell? ⟨b,off + m * 12 + 6,none⟩ = some (.int .i64 x.rt.2.2.1)∧W.cell? ⟨b,off + m * 12 + 7,none⟩ = some (.bool x.rt.2.2.2)∧W.cell? ⟨b,off + m * 12 + 8,none⟩ = some (.slice x.la x.ls.length x.lc)∧W.cell? ⟨b,off + m * 12 + 9,none⟩ = some (.int .i64 x.mx)∧W.cell? ⟨b,off + m * 12 + 10,none⟩ = some (.slice x.ca x.co.length x.cc)∧W.cell? ⟨b,off + m * 12 + 11,none⟩ = some (.slice x.ka x.cl.length x.kc))∧(W.cell? ⟨b,off + k * 12,none⟩ = some (.string y.nm)∧W.cell? ⟨b,off + k * 12 + 1,none⟩ = some (.int .i64 y.ow)∧W.cell? ⟨b,off + k * 12 + 2,none⟩ = some (.int .i64 y.fl)∧W.cell? ⟨b,off + k * 12 + 3,none⟩ = some (.slice y.pa y.ps.length y.pc)∧W.cell? ⟨b,off + k * 12 + 4,none⟩ = some (.int .i64 y.rt.1)∧W.cell? ⟨b,off + k * 12 + 5,none⟩ = some (.int .i64 y.rt.2.1)∧W.cell? ⟨b,off + k * 12 + 6,none⟩ = some (.int .i64 y.rt.2.2.1)∧W.cell? ⟨b,off + k * 12 + 7,none⟩ = some (.bool y.rt.2.2.2)∧W.cell? ⟨b,off + k * 12 + 8,none⟩ = some (.slice y.la y.ls.length y.lc)∧W.cell? ⟨b,off + k * 12 + 9,none⟩ = some (.int .i64 y.mx)∧W.cell? ⟨b,off + k * 12 + 10,none⟩ = some (.slice y.ca y.co.length y.cc)∧W.cell? ⟨b,off + k * 12 + 11,none⟩ = some (.slice y.ka y.cl.length y.kc)))
    (first | (exact HK.out _ (bdrew _)) | (exact HK.out _ (bstep (bdrew _) hb1)))
    (first | (go_at_call 106; refine (HCm.out _).mono ?_; rintro e w1 ⟨rfl,hb1⟩))
   rename_i hheld
   clear hheld
   have HB1 : Hid (Below w.heap.size w w1):=bstep HBL.out (bstep (bdrew _) hb1)
   clear hb1
   by_cases hlt : x.ow < y.ow
   ·have hcm : cmpI x.ow y.ow = -1:=by unfold cmpI; rw [if_pos hlt]
    rw [hcm]
    go_wp2_with fail
    go_ret
    exact ⟨ret_bool (HZ2.out hlt).symm,HB1.out⟩
   ·have hcm : ¬ cmpI x.ow y.ow < 0:=by unfold cmpI; rw [if_neg hlt]; split <;> omega
    go_wp2_with fail
    go_roundw
    case rel => exact ⟨m,by omega,by have:=HM.out; congr 1; omega,HB1.out,HZ3.out (by omega)⟩
    case measure => have:=HM.out; simp [intOf]; omega
  ·have h0 : ¬ (0 : Int) < (q : Int) - 1:=by omega
   have HR : Hid (risB (l.map (·.ow)) = true):=(ris_iff _).2 fun j hj => HZ.out j hj (by omega)
   clear HZ HC
   go_wp2_with fail
   go_ret
   exact ⟨ret_bool HR.out.symm,hB⟩

theorem sortedM_any {v : Value} {l : List MD} {w : World} (h : Es mdE w v l) :
  Calls Tryz.prog 105 #[v,.func (.func 106) #[] #[]] w fun e w' => e = .returned (.bool (risB (l.map (·.ow))))∧Below w.heap.size w w':=by
 by_cases hne : l = []
 ·subst hne
  obtain ⟨a,c,rfl,_,_⟩:=h.shape
  go_enter Tryz.func105,Tryz.ntmps105
  go_wp2
  refine wp_loop_rounds 1 ?_; rw [rounds_succ]
  go_wp2
  go_ret
  exact ⟨rfl,Below.refl _ _⟩
 ·have hl:=h.len
  obtain ⟨b,off,cap,rfl,h1,h2,hb,hc⟩:=h.parts hne
  exact sortedM_some hb hc hl
def imAF (g : Img) : Array Value:=#[.slice g.ta g.ts.length g.tc,.slice g.fa g.fs.length g.fc,.slice g.ma g.ms.length g.mc,.int .i64 g.en]

set_option maxHeartbeats 8000000 in
theorem formed_any {g : Img} {w : World} (hg : Im w g) :
  Calls Tryz.prog 62 #[imV g] w fun e w' => e = .returned (.bool (imB g))∧Below w.heap.size w w':=by
 obtain ⟨w0,hw0⟩ : ∃ W,W = (w.alloc (.cells (imAF g) 26)).alloc (.cells (szC g.ts.length g.fs.length g.ms.length) 109):=⟨_,rfl⟩
 have HW0 : Hid (w0 = _):=hw0
 obtain ⟨hb0,hat⟩:=two_boxes hw0
 have HB0 : Hid (Below w.heap.size w w0):=hb0
 have HAT : Hid (∀ W,Below w0.heap.size w0 W → At W w.heap.size (imAF g) 26∧At W (w.heap.size + 1) (szC g.ts.length g.fs.length g.ms.length) 109):=hat
 have htl:=hg.ts.len
 have hfl:=hg.fs.len
 have hml:=hg.ms.len
 unfold maxLen at htl hfl hml
 obtain ⟨hA1,hA2⟩:=hat w0 (Below.refl _ _)
 have c1:=hA1.cell
 have c2:=hA2.cell
 obtain ⟨rT,hT⟩ : ∃ r,r = g.ts.all (tdB g.ts.length):=⟨_,rfl⟩
 obtain ⟨rF,hF⟩ : ∃ r,r = g.fs.all (fdB g.ts.length):=⟨_,rfl⟩
 obtain ⟨rf,hf⟩ : ∃ r,r = risB (g.fs.map (·.ow)):=⟨_,rfl⟩
 obtain ⟨rM,hM⟩ : ∃ r,r = g.ms.all (mdB g.ts.length g.fs.length g.ms.length):=⟨_,rfl⟩
 obtain ⟨rm,hm⟩ : ∃ r,r = risB (g.ms.map (·.ow)):=⟨_,rfl⟩
 have HF : Hid (imB g = (decide (g.ts.length ≤ 32) && decide (g.fs.length ≤ 64) && decide (g.ms.length ≤ 64) && rT && (rF && rf) && (rM && rm) && (decide (g.en = -1) || (decide (0 ≤ g.en) && decide (g.en < g.ms.length))))):=by show _ = _; rw [hT,hF,hf,hM,hm]; rfl
 have HTs : Hid (∀ W,Below w0.heap.size w0 W → Calls Tryz.prog 97 #[.slice g.ta g.ts.length g.tc,.func (.func 98) #[szV g.ts.length g.fs.length g.ms.length] #[]] W fun e w' => e = .returned (.bool rT)∧Below W.heap.size W w'):=fun W hW => by
  rw [hT]
  refine allT10_any (hg.ts.later (bstep hb0 hW)) ⟨run_enter9 Tryz.func98 (by kernel_rfl) rfl,fun W2 hW2 x hx => ?_⟩
  simpa using isType_any g.ts.length g.fs.length g.ms.length x ((hg.tok x hx).later (bstep (bstep hb0 hW) hW2))
 have HFs : Hid (∀ W,Below w0.heap.size w0 W → Calls Tryz.prog 99 #[.slice g.fa g.fs.length g.fc,.func (.func 100) #[szV g.ts.length g.fs.length g.ms.length] #[]] W fun e w' => e = .returned (.bool rF)∧Below W.heap.size W w'):=fun W hW => by
  rw [hF]
  refine allF10_any (hg.fs.later (bstep hb0 hW)) ⟨run_enter9 Tryz.func100 (by kernel_rfl) rfl,fun W2 hW2 x hx => ?_⟩
  simpa using isField10_any g.ts.length g.fs.length g.ms.length x W2
 have HSf : Hid (∀ W,Below w0.heap.size w0 W → Calls Tryz.prog 101 #[.slice g.fa g.fs.length g.fc,.func (.func 102) #[] #[]] W fun e w' => e = .returned (.bool rf)∧Below W.heap.size W w'):=fun W hW => by
  rw [hf]; exact sortedF_any (hg.fs.later (bstep hb0 hW))
 have HMs : Hid (∀ W,Below w0.heap.size w0 W → Calls Tryz.prog 103 #[.slice g.ma g.ms.length g.mc,.func (.func 104) #[szV g.ts.length g.fs.length g.ms.length] #[]] W fun e w' => e = .returned (.bool rM)∧Below W.heap.size W w'):=fun W hW => by
  rw [hM]
  refine allM10_any (hg.ms.later (bstep hb0 hW)) ⟨run_enter9 Tryz.func104 (by kernel_rfl) rfl,fun W2 hW2 x hx => ?_⟩
  simpa using isMethod_any g.ts.length g.fs.length g.ms.length x ((hg.mok x hx).later (bstep (bstep hb0 hW) hW2))
 have HSm : Hid (∀ W,Below w0.heap.size w0 W → Calls Tryz.prog 105 #[.slice g.ma g.ms.length g.mc,.func (.func 106) #[] #[]] W fun e w' => e = .returned (.bool rm)∧Below W.heap.size W w'):=fun W hW => by
  rw [hm]; exact sortedM_any (hg.ms.later (bstep hb0 hW))
 unfold imAF at c1 HW0
 unfold szC at c2 HW0
 unfold szV at HTs HFs HMs
 clear hw0 hb0 hat hA1 hA2 hg hT hF hf hM hm
 unfold imV
 go_enter Tryz.func62,Tryz.ntmps62
 by_cases h32 : 32 < g.ts.length
 ·have i1 : (32 : Int) < (g.ts.length : Int):=by omega
  go_wp2_with (rw [← HW0.out])
  go_ret
  exact ⟨ret_bool (by rw [HF.out,decide_eq_false (show ¬ g.ts.length ≤ 32 by omega)]; rfl),HB0.out⟩
 have i1 : ¬ (32 : Int) < (g.ts.length : Int):=by omega
 have d1 : decide (g.ts.length ≤ 32) = true:=decide_eq_true (by omega)
 by_cases h64 : 64 < g.fs.length
 ·have i2 : (64 : Int) < (g.fs.length : Int):=by omega
  go_wp2_with (rw [← HW0.out])
  go_ret
  exact ⟨ret_bool (by rw [HF.out,decide_eq_false (show ¬ g.fs.length ≤ 64 by omega)]; simp),HB0.out⟩
 have i2 : ¬ (64 : Int) < (g.fs.length : Int):=by omega
 have d2 : decide (g.fs.length ≤ 64) = true:=decide_eq_true (by omega)
 by_cases h6m : 64 < g.ms.length
 ·have i3 : (64 : Int) < (g.ms.length : Int):=by omega
  go_wp2_with (rw [← HW0.out])
  go_ret
  exact ⟨ret_bool (by rw [HF.out,decide_eq_false (show ¬ g.ms.length ≤ 64 by omega)]; simp),HB0.out⟩
 have i3 : ¬ (64 : Int) < (g.ms.length : Int):=by omega
 have d3 : decide (g.ms.length ≤ 64) = true:=decide_eq_true (by omega)
 have HG : Hid (imB g = (rT && (rF && rf) && (rM && rm) && (decide (g.en = -1) || (decide (0 ≤ g.en) && decide (g.en < g.ms.length))))):=by show _ = _; rw [HF.out,d1,d2,d3]; simp
 clear HF d1 d2 d3 h32 h64 h6m c1 c2
 obtain ⟨hA1,hA2⟩:=HAT.out w0 (Below.refl _ _)
 have c1:=hA1.cell
 have c2:=hA2.cell
 unfold imAF at c1
 unfold szC at c2
 clear hA1 hA2
 have H0:=HTs.out w0 (Below.refl _ _)
 go_wp2_with (rw [← HW0.out])
 refine Calls.mono H0 ?_
 rintro e w1 ⟨rfl,hb⟩
 have HB1 : Hid (Below w0.heap.size w0 w1):=hb
 clear H0 c1 c2 hb
 obtain ⟨hA1,hA2⟩:=HAT.out w1 HB1.out
 have c1:=hA1.cell
 have c2:=hA2.cell
 unfold imAF at c1
 unfold szC at c2
 clear hA1 hA2
 cases rT with
 | false =>
  go_wp2_with fail
  go_ret
  exact ⟨ret_bool (by rw [HG.out]; simp),bstep HB0.out HB1.out⟩
 | true =>
  have H1:=HFs.out w1 HB1.out
  go_wp2_with fail
  refine Calls.mono H1 ?_
  rintro e w2 ⟨rfl,hb⟩
  have HB2 : Hid (Below w0.heap.size w0 w2):=bstep HB1.out hb
  clear H1 c1 c2 hb
  obtain ⟨hA1,hA2⟩:=HAT.out w2 HB2.out
  have c1:=hA1.cell
  have c2:=hA2.cell
  unfold imAF at c1
  unfold szC at c2
  clear hA1 hA2
  cases rF with
  | false =>
   go_wp2_with fail
   go_ret
   exact ⟨ret_bool (by rw [HG.out]; simp),bstep HB0.out HB2.out⟩
  | true =>
   have H2:=HSf.out w2 HB2.out
   go_wp2_with fail
   refine Calls.mono H2 ?_
   rintro e w3 ⟨rfl,hb⟩
   have HB3 : Hid (Below w0.heap.size w0 w3):=bstep HB2.out hb
   clear H2 c1 c2 hb
   obtain ⟨hA1,hA2⟩:=HAT.out w3 HB3.out
   have c1:=hA1.cell
   have c2:=hA2.cell
   unfold imAF at c1
   unfold szC at c2
   clear hA1 hA2
   cases rf with
   | false =>
    go_wp2_with fail
    go_ret
    exact ⟨ret_bool (by rw [HG.out]; simp),bstep HB0.out HB3.out⟩
   | true =>
    have H3:=HMs.out w3 HB3.out
    go_wp2_with fail
    refine Calls.mono H3 ?_
    rintro e w4 ⟨rfl,hb⟩
    have HB4 : Hid (Below w0.heap.size w0 w4):=bstep HB3.out hb
    clear H3 c1 c2 hb
    obtain ⟨hA1,hA2⟩:=HAT.out w4 HB4.out
    have c1:=hA1.cell
    have c2:=hA2.cell
    unfold imAF at c1
    unfold szC at c2
    clear hA1 hA2
    cases rM with
    | false =>
     go_wp2_with fail
     go_ret
     exact ⟨ret_bool (by rw [HG.out]; simp),bstep HB0.out HB4.out⟩
    | true =>
     have H4:=HSm.out w4 HB4.out
     go_wp2_with fail
     refine Calls.mono H4 ?_
     rintro e w5 ⟨rfl,hb⟩
     have HB5 : Hid (Below w0.heap.size w0 w5):=bstep HB4.out hb
     clear H4 c1 c2 hb
     obtain ⟨hA1,hA2⟩:=HAT.out w5 HB5.out
     have c1:=hA1.cell
     have c2:=hA2.cell
     unfold imAF at c1
     unfold szC at c2
     clear hA1 hA2
     cases rm with
     | false =>
      go_wp2_with fail
      go_ret
      exact ⟨ret_bool (by rw [HG.out]; simp),bstep HB0.out HB5.out⟩
     | true =>
      have HG2 : Hid (imB g = (decide (g.en = -1) || (decide (0 ≤ g.en) && decide (g.en < g.ms.length)))):=by show _ = _; rw [HG.out]; simp
      clear HG HTs HFs HSf HMs HSm
      by_cases he : g.en = -1
      ·go_wp2_with fail
       go_ret
       exact ⟨ret_bool (by rw [HG2.out]; simp [he]),bstep HB0.out HB5.out⟩
      ·have e1 : (g.en == -1) = false:=by simpa using he
       have hd : decide (g.en = -1) = false:=by simpa using he
       go_wp2_with fail
       refine (isNumber_any _ _ _).mono ?_
       rintro e wz ⟨rfl,hz⟩
       subst wz
       go_wp2
       go_ret
       exact ⟨ret_bool (by rw [HG2.out,hd]; simp),bstep HB0.out HB5.out⟩
end Go.Proofs.YthpmpdpfnlecmaaGreat
