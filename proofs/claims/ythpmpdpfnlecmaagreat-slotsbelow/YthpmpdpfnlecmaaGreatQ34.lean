/- Texts joined: RefCheck9, RefForm10. -/
import Derived.Test.YthpmpdpfnlecmaaGreatQ33
import Derived.Test.YthpmpdpfnlecmaaGreatQ32
namespace Go.Proofs.YthpmpdpfnlecmaaGreat
set_option linter.unusedVariables false
set_option linter.unusedSimpArgs false
open Go.RowKit
attribute [local go_sem ↓] Go.wp_at_zero Go.wp_at_succ
theorem rcheck_none (n : Int) (a : Option Addr) (cap : Nat) (w : World) :
  Calls Tryz.prog 236 #[.int .i64 n,.slice a 0 cap] w fun e w' => e = .returned (.tuple #[.int .i64 0,.int .i64 0])∧w' = w:=by
 go_enter Tryz.func236,Tryz.ntmps236
 go_wp2
 refine wp_loop_rounds 1 ?_; rw [rounds_succ]
 go_wp2
 go_ret2
 exact ⟨rfl,rfl⟩

theorem rcheck_full (n : Int) (a : Option Addr) (m cap : Nat) (hm : 6 < m) (w : World) :
  Calls Tryz.prog 236 #[.int .i64 n,.slice a m cap] w fun e w' => e = .returned (.tuple #[.int .i64 0,.int .i64 4])∧w' = w:=by
 have h : (6 : Int) < (m : Int):=by omega
 go_enter Tryz.func236,Tryz.ntmps236
 go_wp2
 go_ret2
 exact ⟨rfl,rfl⟩

set_option maxHeartbeats 4000000 in
theorem rcheck_some {b off cap : Nat} {n : Int} {l : List Cl} {w : World} (hb : b < w.heap.size) (hc : ∀ i (hi : i < l.length),El clE9 w b (off + i * 10) l[i]) (hl : l.length ≤ 6) (hcap : l.length ≤ cap) (hm : cap ≤ maxLen) :
  Calls Tryz.prog 236 #[.int .i64 n,.slice (some ⟨b,off,none⟩) l.length cap] w fun e w' => ∃ i x,e = .returned (.tuple #[.int .i64 i,.int .i64 x])∧FirstR (rclAt n l) l.length i x∧Below w.heap.size w w':=by
 unfold maxLen at hm
 have HC : Hid (∀ i (hi : i < l.length),∀ W,Below w.heap.size w W → Ten W b (off + i * 10) l[i]):=fun i hi W hW => ((hc i hi).below hW hb).ten
 clear hc
 go_enter Tryz.func236,Tryz.ntmps236
 go_wp2_with fail
 go_loopw [6] (fun z wr => ∃ q : Nat,q ≤ l.length∧z = .int .i64 q∧Below w.heap.size w wr∧Hid (∀ k,k < q → rclAt n l k = 0)) (fun z _ => l.length - (intOf z).toNat)
 case atStart => exact ⟨0,Nat.zero_le _,rfl,Below.refl _ _,fun k hk => absurd hk (Nat.not_lt_zero _)⟩
 case round =>
  obtain ⟨q,hq,rfl,hB,HZ⟩:=hrel
  have HBL : Hid (Below w.heap.size w wr):=hB
  by_cases hql : q < l.length
  ·obtain ⟨c0,c1,c2,c3,c4,c5,c6,c7,c8,c9⟩:=HC.out q hql wr hB
   have HQ : Hid (rclAt n l q = rclE n (l.take q) l[q]):=rclAt_eq n l q hql
   have HCq : Hid (∀ W,Below w.heap.size w W → Ten W b (off + q * 10) l[q]):=HC.out q hql
   generalize l[q] = c at *
   have HAl : Hid (Calls Tryz.prog 256 #[.int .i64 n,.agg #[.int .i64 c.k,.int .i64 c.tf,.int .i64 c.tt,.int .i64 c.hf,.int .i64 c.ht,.int .i64 c.fi,.int .i64 c.t0,.int .i64 c.t1,.int .i64 c.t2,.bool c.t3]] wr fun e w' => e = .returned (.int .i64 (raloneI n c))∧Below wr.heap.size wr w'):=alone_any n c wr
   clear hB
   go_wp2_with fail
   refine Calls.mono HAl.out ?_
   rintro e w1 ⟨rfl,hb1⟩
   have HB1 : Hid (Below w.heap.size w w1):=bstep HBL.out hb1
   clear hb1 HAl c0 c1 c2 c3 c4 c5 c6 c7 c8 c9
   by_cases hal : raloneI n c = 0
   ·have HQ2 : Hid (rclAt n l q = if ((l.take q).any fun x => !rfitB x c) = true then 12 else 0):=by show _ = _; rw [HQ.out]; unfold rclE; rw [if_pos hal]
    rw [hal]
    go_wp2_with fail
    obtain ⟨wo,rfl⟩ : ∃ wo,wo = wr:=⟨_,rfl⟩
    go_loopw [8] (fun z wr => ∃ k : Nat,k ≤ q∧z = .int .i64 k∧Below w.heap.size w wr∧Hid (((l.take q).take k).any (fun x => !rfitB x c) = false)) (fun z _ => q - (intOf z).toNat)
    case atStart => exact ⟨0,Nat.zero_le _,rfl,HB1.out,by show _ = _; simp⟩
    case round =>
     obtain ⟨k,hk,rfl,hB,HZk⟩:=hrel
     have HBk : Hid (Below w.heap.size w wr):=hB
     by_cases hkq : k < q
     ·have hkl : k < l.length:=by omega
      have hlt : k < (l.take q).length:=by rw [List.length_take]; omega
      have hgt : (l.take q)[k] = l[k]:=List.getElem_take
      have HN : Hid ((!rfitB l[k] c) = false → ((l.take q).take (k + 1)).any (fun x => !rfitB x c) = false):=fun h => any_take9 hlt HZk.out (by rw [hgt]; exact h)
      have HY : Hid ((!rfitB l[k] c) = true → (l.take q).any (fun x => !rfitB x c) = true):=fun h => List.any_eq_true.2 ⟨_,List.getElem_mem hlt,by rw [hgt]; exact h⟩
      have HCk : Hid (∀ W,Below w.heap.size w W → Ten W b (off + k * 10) l[k]):=HC.out k hkl
      have hkl' : (k : Int) < (l.length : Int):=by omega
      clear hlt hgt
      generalize l[k] = a at *
      have HS : Hid (∀ W,Below w.heap.size w W → (W.cell? ⟨b,off + k * 10,none⟩ = some (.int .i64 a.k)∧W.cell? ⟨b,off + k * 10 + 1,none⟩ = some (.int .i64 a.tf)∧W.cell? ⟨b,off + k * 10 + 2,none⟩ = some (.int .i64 a.tt)∧W.cell? ⟨b,off + k * 10 + 3,none⟩ = some (.int .i64 a.hf)∧W.cell? ⟨b,off + k * 10 + 4,none⟩ = some (.int .i64 a.ht)∧W.cell? ⟨b,off + k * 10 + 5,none⟩ = some (.int .i64 a.fi)∧W.cell? ⟨b,off + k * 10 + 6,none⟩ = some (.int .i64 a.t0)∧W.cell? ⟨b,off + k * 10 + 7,none⟩ = some (.int .i64 a.t1)∧W.cell? ⟨b,off + k * 10 + 8,none⟩ = some (.int .i64 a.t2)∧W.cell? ⟨b,off + k * 10 + 9,none⟩ = some (.bool a.t3))∧(W.cell? ⟨b,off + q * 10,none⟩ = some (.int .i64 c.k)∧W.cell? ⟨b,off + q * 10 + 1,none⟩ = some (.int .i64 c.tf)∧W.cell? ⟨b,off + q * 10 + 2,none⟩ = some (.int .i64 c.tt)∧W.cell? ⟨b,off + q * 10 + 3,none⟩ = some (.int .i64 c.hf)∧W.cell? ⟨b,off + q * 10 + 4,none⟩ = some (.int .i64 c.ht)∧W.cell? ⟨b,off + q * 10 + 5,none⟩ = some (.int .i64 c.fi)∧W.cell? ⟨b,off + q * 10 + 6,none⟩ = some (.int .i64 c.t0)∧W.cell? ⟨b,off + q * 10 + 7,none⟩ = some (.int .i64 c.t1)∧W.cell? ⟨b,off + q * 10 + 8,none⟩ = some (.int .i64 c.t2)∧W.cell? ⟨b,off + q * 10 + 9,none⟩ = some (.bool c.t3))):=fun W hW => ⟨HCk.out W hW,HCq.out W hW⟩
      obtain ⟨⟨a0,a1,a2,a3,a4,a5,a6,a7,a8,a9⟩,c0,c1,c2,c3,c4,c5,c6,c7,c8,c9⟩:=HS.out wr hB
      have HFi : Hid (∀ W,Calls Tryz.prog 257 #[.agg #[.int .i64 a.k,.int .i64 a.tf,.int .i64 a.tt,.int .i64 a.hf,.int .i64 a.ht,.int .i64 a.fi,.int .i64 a.t0,.int .i64 a.t1,.int .i64 a.t2,.bool a.t3],.agg #[.int .i64 c.k,.int .i64 c.tf,.int .i64 c.tt,.int .i64 c.hf,.int .i64 c.ht,.int .i64 c.fi,.int .i64 c.t0,.int .i64 c.t1,.int .i64 c.t2,.bool c.t3]] W fun e w' => e = .returned (.bool (rfitB a c))∧Below W.heap.size W w'):=fun W => rfits_any a c W
      clear hB
      go_wp2_with fail
      go_region_held3 (fun w' => (w'.cell? ⟨b,off + k * 10,none⟩ = some (.int .i64 a.k)∧w'.cell? ⟨b,off + k * 10 + 1,none⟩ = some (.int .i64 a.tf)∧w'.cell? ⟨b,off + k * 10 + 2,none⟩ = some (.int .i64 a.tt)∧w'.cell? ⟨b,off + k * 10 + 3,none⟩ = some (.int .i64 a.hf)∧w'.cell? ⟨b,off + k * 10 + 4,none⟩ = some (.int .i64 a.ht)∧w'.cell? ⟨b,off + k * 10 + 5,none⟩ = some (.int .i64 a.fi)∧w'.cell? ⟨b,off + k * 10 + 6,none⟩ = some (.int .i64 a.t0)∧w'.cell? ⟨b,off + k * 10 + 7,none⟩ = some (.int .i64 a.t1)∧w'.cell? ⟨b,off + k * 10 + 8,none⟩ = some (.int .i64 a.t2)∧w'.cell? ⟨b,off + k * 10 + 9,none⟩ = some (.bool a.t3))∧(w'.cell? ⟨b,off + q * 10,none⟩ = some (.int .i64 c.k)∧w'.cell? ⟨b,off + q * 10 + 1,none⟩ = some (.int .i64 c.tf)∧w'.cell? ⟨b,off + q * 10 + 2,none⟩ = some (.int .i64 c.tt)∧w'.cell? ⟨b,off + q * 10 + 3,none⟩ = some (.int .i64 c.hf)∧w'.cell? ⟨b,off + q * 10 + 4,none⟩ = some (.int .i64 c.ht)∧w'.cell? ⟨b,off + q * 10 + 5,none⟩ = some (.int .i64 c.fi)∧w'.cell? ⟨b,off + q * 10 + 6,none⟩ = some (.int .i64 c.t0)∧w'.cell? ⟨b,off + q * 10 + 7,none⟩ = some (.int .i64 c.t1)∧w'.cell? ⟨b,off + q * 10 + 8,none⟩ = some (.int .i64 c.t2)∧w'.cell? ⟨b,off + q * 10 + 9,none⟩ = some (.bool c.t3)))
       (first | (exact HS.out _ (bstep HBk.out (bdrew _))) | (exact HS.out _ (bstep HBk.out (bstep (bdrew _) hb2))))
       (first | (go_at_call 257; refine (HFi.out _).mono ?_; rintro e w2 ⟨rfl,hb2⟩))
      rename_i hheld
      clear hheld
      have HB2 : Hid (Below w.heap.size w w2):=bstep HBk.out (bstep (bdrew _) hb2)
      clear hb2 a0 a1 a2 a3 a4 a5 a6 a7 a8 a9 c0 c1 c2 c3 c4 c5 c6 c7 c8 c9
      cases hf : rfitB a c with
      | true =>
       have HF : Hid (((l.take q).take (k + 1)).any (fun x => !rfitB x c) = false):=HN.out (by rw [hf]; rfl)
       go_wp2_with fail
       go_roundw
       case rel => exact ⟨k + 1,by omega,by go_num,HB2.out,HF.out⟩
       case measure => simp [intOf]; omega
      | false =>
       have HX : Hid (rclAt n l q = 12):=by show _ = _; rw [HQ2.out,if_pos (HY.out (by rw [hf]; rfl))]
       go_wp2_with fail
       go_ret2
       exact ⟨_,_,rfl,FirstR.hit hql HZ.out 12 HX.out (by decide),HB2.out⟩
     ·have HX : Hid (rclAt n l q = 0):=by
       show _ = _
       rw [HQ2.out,if_neg]
       have:=HZk.out
       rw [List.take_of_length_le (by rw [List.length_take]; omega)] at this
       rw [this]; decide
      go_wp2_with fail
      go_roundw
      case rel => exact ⟨q + 1,by omega,by go_num,HBk.out,zero_step HZ.out HX.out⟩
      case measure => simp [intOf]; omega
   ·have hal' : (raloneI n c == 0) = false:=by rw [beq_eq_false_iff_ne]; exact hal
    have HX : Hid (rclAt n l q = raloneI n c):=by show _ = _; rw [HQ.out]; unfold rclE; rw [if_neg hal]
    have HNe : Hid (raloneI n c ≠ 0):=hal
    generalize raloneI n c = x at *
    go_wp2_with fail
    go_ret2
    exact ⟨_,_,rfl,FirstR.hit hql HZ.out _ HX.out HNe.out,HB1.out⟩
  ·have HF' : Hid (∀ k,k < l.length → rclAt n l k = 0):=fun k hk => HZ.out k (by omega)
   go_wp2
   go_ret2
   exact ⟨_,_,rfl,FirstR.done HF'.out,HBL.out⟩

theorem rcheck_any {v : Value} {l : List Cl} {w : World} (n : Int) (h : Es clE9 w v l) :
  Calls Tryz.prog 236 #[.int .i64 n,v] w fun e w' => ∃ i x,e = .returned (.tuple #[.int .i64 i,.int .i64 x])∧RCheckR n l i x∧Below w.heap.size w w':=by
 by_cases hne : l = []
 ·subst hne
  obtain ⟨a,c,rfl,_,_⟩:=h.shape
  refine (rcheck_none n a c w).mono ?_
  rintro e w' ⟨rfl,rfl⟩
  exact ⟨_,_,rfl,by unfold RCheckR; rw [if_neg (by simp)]; exact FirstR.done (fun k hk => absurd hk (Nat.not_lt_zero _)),Below.refl _ _⟩
 ·by_cases h6 : 6 < l.length
  ·obtain ⟨a,c,rfl,_,_⟩:=h.shape
   refine (rcheck_full n a l.length c h6 w).mono ?_
   rintro e w' ⟨rfl,rfl⟩
   exact ⟨_,_,rfl,by unfold RCheckR; rw [if_pos h6]; exact ⟨rfl,rfl⟩,Below.refl _ _⟩
  ·obtain ⟨b,off,cap,rfl,h1,h2,hb,hc⟩:=h.parts hne
   refine (rcheck_some (n:=n) hb hc (by omega) h1 h2).mono ?_
   rintro e w' ⟨i,x,rfl,hf,hB⟩
   exact ⟨i,x,rfl,by unfold RCheckR; rw [if_neg h6]; exact hf,hB⟩

theorem right_any {v : Value} {l : List Cl} {w : World} (n : Int) (h : Es clE9 w v l) :
  Calls Tryz.prog 206 #[.int .i64 n,v] w fun e w' => ∃ r : Bool,e = .returned (.bool r)∧(r = true ↔ RightL n l)∧Below w.heap.size w w':=by
 have HC : Hid (Calls Tryz.prog 236 #[.int .i64 n,v] w fun e w' => ∃ i x,e = .returned (.tuple #[.int .i64 i,.int .i64 x])∧RCheckR n l i x∧Below w.heap.size w w'):=rcheck_any n h
 clear h
 go_enter Tryz.func206,Tryz.ntmps206
 go_wp2_with fail
 refine Calls.mono HC.out ?_
 rintro e w1 ⟨i,x,rfl,hr,hb1⟩
 have HR : Hid (x = 0 ↔ RightL n l):=rcheck_right hr
 clear hr HC
 go_wp2_with fail
 go_ret
 refine ⟨_,rfl, ?_,hb1⟩
 rw [← HR.out]; simp
theorem all_step {α : Type} {p : α → Bool} {l : List α} {q : Nat} (hq : q < l.length) (h : (l.take q).all p = true) (hx : p l[q] = true) : (l.take (q + 1)).all p = true:=by
 rw [List.take_succ_eq_append_getElem hq,List.all_append,h]; simpa using hx
theorem all_no {α : Type} {p : α → Bool} {l : List α} {q : Nat} (hq : q < l.length) (hx : p l[q] = false) : l.all p = false:=by
 rw [List.all_eq_false]; exact ⟨_,List.getElem_mem hq,by rw [hx]; decide⟩
theorem all_done {α : Type} {p : α → Bool} {l : List α} {q : Nat} (hq : ¬ q < l.length) (h : (l.take q).all p = true) : l.all p = true:=by
 rwa [List.take_of_length_le (by omega)] at h
theorem Es.at {α : Type} {E : Enc α} {w : World} {a : Option Addr} {c : Nat} {l : List α} (h : Es E w (.slice a l.length c) l) {q : Nat} (hq : q < l.length) :
  ∃ b off,a = some ⟨b,off,none⟩∧b < w.heap.size∧l.length ≤ c∧c ≤ maxLen∧∀ i (hi : i < l.length),El E w b (off + i * E.size) l[i]:=by
 obtain ⟨b,off,cap,hv,h1,h2,hb,hc⟩:=h.parts (by intro e; rw [e] at hq; simp at hq)
 simp only [Value.slice.injEq] at hv
 obtain ⟨rfl,_,rfl⟩:=hv
 exact ⟨b,off,rfl,hb,h1,h2,hc⟩

set_option maxHeartbeats 4000000 in
theorem refFormedType_any (n : Nat) (x : TD) {w : World} (hx : x.ok w) (hnm : x.nm.size ≤ maxLen) :
  Calls Tryz.prog 113 #[tdV x,.int .i64 n] w fun e w' => e = .returned (.bool (tdB n x))∧Below w.heap.size w w':=by
 obtain ⟨w0,hw0⟩ : ∃ W,W = w.alloc (.cells (tdA x) 34):=⟨_,rfl⟩
 have HW0 : Hid (w0 = _):=hw0
 have hb0 : Below w.heap.size w w0:=by rw [hw0]; exact made_below _ _ _
 have HB0 : Hid (Below w.heap.size w w0):=hb0
 have hA : At w0 w.heap.size (tdA x) 34:=by rw [hw0]; exact At.made w _ _
 have HX : Hid (Es intE w0 (.slice x.fa x.fs.length x.fc) x.fs):=hx.later hb0
 have hlm:=hx.len
 unfold maxLen at hlm
 have c1:=hA.cell
 have HF : Hid (tdB n x = (fineB x.nm.data.toList && witB x.fl 31 && (decide (x.ex = -1) || numB x.ex n) && decide (x.fs.length ≤ 4) && x.fs.all (fun i => numB i n))):=rfl
 have HR : Hid (Calls Tryz.prog 114 #[.string x.nm] w0 fun e w' => e = .returned (.bool (fineB x.nm.data.toList))∧w' = w0):=refFine_any x.nm hnm w0
 unfold tdA at c1 HW0
 clear hw0 hb0 hA hx hnm
 unfold tdV
 go_enter Tryz.func113,Tryz.ntmps113
 go_wp2_with (rw [← HW0.out])
 refine Calls.mono HR.out ?_
 rintro e wz ⟨rfl,hz⟩
 subst wz
 cases hfi : fineB x.nm.data.toList with
 | false =>
  go_wp2_with fail
  go_ret
  exact ⟨ret_bool (by rw [HF.out,hfi]; simp),HB0.out⟩
 | true =>
 by_cases h1 : x.fl < 0
 ·have hq : witB x.fl 31 = false:=by unfold witB; simp; omega
  go_wp2_with fail
  go_ret
  exact ⟨ret_bool (by rw [HF.out,hq]; simp),HB0.out⟩
 by_cases h2 : 31 < x.fl
 ·have hq : witB x.fl 31 = false:=by unfold witB; simp; omega
  go_wp2_with fail
  go_ret
  exact ⟨ret_bool (by rw [HF.out,hq]; simp),HB0.out⟩
 have hw : witB x.fl 31 = true:=by unfold witB; simp; omega
 by_cases h3 : x.ex < -1
 ·have hq : (decide (x.ex = -1) || numB x.ex n) = false:=by unfold numB; simp; omega
  go_wp2_with fail
  go_ret
  exact ⟨ret_bool (by rw [HF.out,hq]; simp),HB0.out⟩
 by_cases h4 : (n : Int) ≤ x.ex
 ·have hq : (decide (x.ex = -1) || numB x.ex n) = false:=by unfold numB; simp; omega
  go_wp2_with fail
  go_ret
  exact ⟨ret_bool (by rw [HF.out,hq]; simp),HB0.out⟩
 have he : (decide (x.ex = -1) || numB x.ex n) = true:=by unfold numB; simp; omega
 by_cases h5 : 4 < x.fs.length
 ·have h5' : (4 : Int) < (x.fs.length : Int):=by omega
  have hq : decide (x.fs.length ≤ 4) = false:=by simp; omega
  go_wp2_with fail
  go_ret
  exact ⟨ret_bool (by rw [HF.out,hq]; simp),HB0.out⟩
 have h5' : ¬ (4 : Int) < (x.fs.length : Int):=by omega
 have HG : Hid (tdB n x = x.fs.all (fun i => numB i n)):=by
  show _ = _
  rw [HF.out,hfi,hw,he,decide_eq_true (show x.fs.length ≤ 4 by omega)]; simp
 clear hfi hw he HF
 go_wp2_with fail
 go_loopw [5] (fun z wr => ∃ q : Nat,q ≤ x.fs.length∧z = .int .i64 q∧wr = w0∧Hid ((x.fs.take q).all (fun i => numB i n) = true)) (fun z _ => x.fs.length - (intOf z).toNat)
 case atStart => exact ⟨0,Nat.zero_le _,rfl,rfl,by show _ = _; simp⟩
 case round =>
  obtain ⟨q,hq,rfl,rfl,HA⟩:=hrel
  by_cases hql : q < x.fs.length
  ·obtain ⟨b,off,hfa,hb,h6,h7,hc⟩:=HX.out.at hql
   have cq:=(hc q hql).cells_N
   have HY : Hid (numB x.fs[q] n = true → (x.fs.take (q + 1)).all (fun i => numB i n) = true):=fun h => all_step hql HA.out h
   have HN : Hid (numB x.fs[q] n = false → x.fs.all (fun i => numB i n) = false):=fun h => all_no (p:=fun i => numB i n) hql h
   generalize x.fs[q] = y at *
   unfold maxLen at h7
   rw [hfa] at c1
   clear hc
   by_cases g1 : y < 0
   ·have hN:=HN.out (by unfold numB; simp; omega)
    go_wp2_with fail
    go_ret
    exact ⟨ret_bool (by rw [HG.out,hN]),HB0.out⟩
   by_cases g2 : (n : Int) ≤ y
   ·have hN:=HN.out (by unfold numB; simp; omega)
    go_wp2_with fail
    go_ret
    exact ⟨ret_bool (by rw [HG.out,hN]),HB0.out⟩
   have HY2 : Hid ((x.fs.take (q + 1)).all (fun i => numB i n) = true):=HY.out (by unfold numB; simp; omega)
   clear HY HN
   go_wp2_with fail
   go_roundw
   case rel => exact ⟨q + 1,by omega,by go_num,by simp,HY2.out⟩
   case measure => simp [intOf]; omega
  ·have HD : Hid (x.fs.all (fun i => numB i n) = true):=all_done (p:=fun i => numB i n) hql HA.out
   go_wp2_with fail
   go_ret
   exact ⟨ret_bool (by rw [HG.out,HD.out]),HB0.out⟩
end Go.Proofs.YthpmpdpfnlecmaaGreat
