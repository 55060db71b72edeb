/- Texts joined: Check9, CheckF9. -/
import Derived.Test.YthpmpdpfnlecmaaGreatQ17
namespace Go.Proofs.YthpmpdpfnlecmaaGreat
set_option linter.unusedVariables false
set_option linter.unusedSimpArgs false
open Go.RowKit
attribute [local go_sem ↓] Go.wp_at_zero Go.wp_at_succ
theorem spans_ne (c : Cl) : spansL c ≠ []:=by unfold spansL; split <;> simp

set_option maxHeartbeats 2000000 in
theorem check1_any {c : Cl} {g : Nat} {vl : Value} {ll : List Sp} {w : World} (hg : w.cell? ⟨g,0,none⟩ = some vl) (hlt : g < w.heap.size) (hl : Es spE w vl ll) (nl : ll ≠ []) :
  Calls Tryz.prog 229 #[clV c,.pointer (some ⟨g,0,none⟩)] w fun e w' => e = .returned (.bool (!fitB9 (spansL c) ll))∧Below w.heap.size w w':=by
 obtain ⟨w0,hw0⟩ : ∃ W,W = w.alloc (.cells #[.int .i64 c.k,.int .i64 c.tf,.int .i64 c.tt,.int .i64 c.hf,.int .i64 c.ht,.int .i64 c.fi,.int .i64 c.t0,.int .i64 c.t1,.int .i64 c.t2,.bool c.t3] 101):=⟨_,rfl⟩
 have HW0 : Hid (w0 = _):=hw0
 have hb0 : Below w.heap.size w w0:=by rw [hw0]; exact made_below _ _ _
 have HB0 : Hid (Below w.heap.size w w0):=hb0
 have hA : At w0 w.heap.size (clC c).toArray 101:=by rw [hw0]; exact At.made w (clC c).toArray _
 obtain ⟨al,cl,hvl,_,_⟩:=hl.shape
 subst hvl
 have HK : Hid (∀ w',Below w0.heap.size w0 w' → w'.cell? ⟨g,0,none⟩ = some (.slice al ll.length cl)∧Ten w' w.heap.size 0 c):=fun w' h => ⟨by rw [← hg]; exact (bstep hb0 h).cell (p:=⟨g,0,none⟩) hlt,(hA.later h).ten⟩
 have HSp : Hid (∀ W,Calls Tryz.prog 228 #[.agg #[.int .i64 c.k,.int .i64 c.tf,.int .i64 c.tt,.int .i64 c.hf,.int .i64 c.ht,.int .i64 c.fi,.int .i64 c.t0,.int .i64 c.t1,.int .i64 c.t2,.bool c.t3]] W fun e w' => ∃ v,e = .returned v∧OwnE spE w' W.heap.size 202 v (spansL c)∧Below W.heap.size W w'):=fun W => spansOf_any c W
 have HFi : Hid (∀ W v,Below w0.heap.size w0 W → Es spE W v (spansL c) → Calls Tryz.prog 230 #[v,.slice al ll.length cl] W fun e w' => e = .returned (.bool (fitB9 (spansL c) ll))∧Below W.heap.size W w'):=fun W v hW hv => fits9_any hv ((hl.later hb0).later hW) (spans_ne c) nl
 obtain ⟨kg,c0,c1,c2,c3,c4,c5,c6,c7,c8,c9⟩:=HK.out w0 (Below.refl _ _)
 clear hg hl hw0 hb0 hA
 unfold clV
 go_enter Tryz.func229,Tryz.ntmps229
 go_wp2_with (rw [← HW0.out])
 go_region_held3 (fun w' => w'.cell? ⟨g,0,none⟩ = some (.slice al ll.length cl)∧w'.cell? ⟨w.heap.size,0,none⟩ = some (.int .i64 c.k)∧w'.cell? ⟨w.heap.size,1,none⟩ = some (.int .i64 c.tf)∧w'.cell? ⟨w.heap.size,2,none⟩ = some (.int .i64 c.tt)∧w'.cell? ⟨w.heap.size,3,none⟩ = some (.int .i64 c.hf)∧w'.cell? ⟨w.heap.size,4,none⟩ = some (.int .i64 c.ht)∧w'.cell? ⟨w.heap.size,5,none⟩ = some (.int .i64 c.fi)∧w'.cell? ⟨w.heap.size,6,none⟩ = some (.int .i64 c.t0)∧w'.cell? ⟨w.heap.size,7,none⟩ = some (.int .i64 c.t1)∧w'.cell? ⟨w.heap.size,8,none⟩ = some (.int .i64 c.t2)∧w'.cell? ⟨w.heap.size,9,none⟩ = some (.bool c.t3))
  (first | (exact HK.out _ (bdrew _)) | (exact HK.out _ (bstep (bdrew _) hb1)) | (exact HK.out _ (bstep (bstep (bdrew _) hb1) hb2)))
  (first | (go_at_call 228; refine (HSp.out _).mono ?_; rintro e w1 ⟨v1,rfl,ho1,hb1⟩) | (go_at_call 230; refine (HFi.out _ _ (bstep (bdrew _) hb1) ho1.es).mono ?_; rintro e w2 ⟨rfl,hb2⟩))
 rename_i hheld
 clear hheld
 have HB2 : Hid (Below w.heap.size w w2):=bstep (bstep HB0.out (bstep (bdrew _) hb1)) hb2
 clear hb1 hb2 ho1 c0 c1 c2 c3 c4 c5 c6 c7 c8 c9 kg
 go_wp2_with fail
 go_ret
 exact ⟨rfl,HB2.out⟩

set_option maxHeartbeats 4000000 in
theorem isInRange_any (n : Int) (c : Cl) (w : World) :
  Calls Tryz.prog 231 #[.int .i64 n,clV c] w fun e w' => e = .returned (.bool (rngB n c))∧Below w.heap.size w w':=by
 obtain ⟨w0,hw0⟩ : ∃ W,W = (w.alloc (.cells #[.int .i64 c.k,.int .i64 c.tf,.int .i64 c.tt,.int .i64 c.hf,.int .i64 c.ht,.int .i64 c.fi,.int .i64 c.t0,.int .i64 c.t1,.int .i64 c.t2,.bool c.t3] 101)).alloc (.cells #[.int .i64 0,.int .i64 n] 202):=⟨_,rfl⟩
 have HW0 : Hid (w0 = _):=hw0
 have hb0 : Below w.heap.size w w0:=by rw [hw0]; exact bbox (made_below _ _ _) _
 have HB0 : Hid (Below w.heap.size w w0):=hb0
 have hA : At w0 w.heap.size (clC c).toArray 101:=by rw [hw0]; exact (At.made w (clC c).toArray _).next _
 have hS : At w0 (w.heap.size + 1) #[.int .i64 0,.int .i64 n] 202:=by
  rw [hw0]
  have:=At.made (w.alloc (.cells #[.int .i64 c.k,.int .i64 c.tf,.int .i64 c.tt,.int .i64 c.hf,.int .i64 c.ht,.int .i64 c.fi,.int .i64 c.t0,.int .i64 c.t1,.int .i64 c.t2,.bool c.t3] 101)) #[.int .i64 0,.int .i64 n] 202
  simpa using this
 have HK : Hid (∀ w',Below w0.heap.size w0 w' → (w'.cell? ⟨w.heap.size + 1,0,none⟩ = some (.int .i64 0)∧w'.cell? ⟨w.heap.size + 1,1,none⟩ = some (.int .i64 n))∧Ten w' w.heap.size 0 c):=fun w' h => ⟨(hS.later h).box2,(hA.later h).ten⟩
 have HTR : Hid (∀ W,Calls Tryz.prog 245 #[.agg #[.int .i64 c.k,.int .i64 c.tf,.int .i64 c.tt,.int .i64 c.hf,.int .i64 c.ht,.int .i64 c.fi,.int .i64 c.t0,.int .i64 c.t1,.int .i64 c.t2,.bool c.t3]] W fun e w' => e = .returned (.agg #[.int .i64 c.tf,.int .i64 c.tt])∧Below W.heap.size W w'):=fun W => triedBy_any c W
 have HHA : Hid (∀ W,Calls Tryz.prog 246 #[.agg #[.int .i64 c.k,.int .i64 c.tf,.int .i64 c.tt,.int .i64 c.hf,.int .i64 c.ht,.int .i64 c.fi,.int .i64 c.t0,.int .i64 c.t1,.int .i64 c.t2,.bool c.t3]] W fun e w' => e = .returned (.agg #[.int .i64 c.hf,.int .i64 c.ht])∧Below W.heap.size W w'):=fun W => handledBy_any c W
 have HFI : Hid (∀ W,Calls Tryz.prog 247 #[.agg #[.int .i64 c.k,.int .i64 c.tf,.int .i64 c.tt,.int .i64 c.hf,.int .i64 c.ht,.int .i64 c.fi,.int .i64 c.t0,.int .i64 c.t1,.int .i64 c.t2,.bool c.t3]] W fun e w' => e = .returned (.agg #[.int .i64 c.fi,.int .i64 c.hf])∧Below W.heap.size W w'):=fun W => filterOf_any c W
 have HP1 : Hid (∀ W,Calls Tryz.prog 253 #[.agg #[.int .i64 c.tf,.int .i64 c.tt],.agg #[.int .i64 0,.int .i64 n]] W fun e w' => e = .returned (.bool (partB (triS c) (0,n)))∧Below W.heap.size W w'):=fun W => isPartOf_any (triS c) (0,n) W
 have HP2 : Hid (∀ W,Calls Tryz.prog 253 #[.agg #[.int .i64 c.hf,.int .i64 c.ht],.agg #[.int .i64 0,.int .i64 n]] W fun e w' => e = .returned (.bool (partB (hanS c) (0,n)))∧Below W.heap.size W w'):=fun W => isPartOf_any (hanS c) (0,n) W
 have HP3 : Hid (∀ W,Calls Tryz.prog 253 #[.agg #[.int .i64 c.fi,.int .i64 c.hf],.agg #[.int .i64 0,.int .i64 n]] W fun e w' => e = .returned (.bool (partB (filS c) (0,n)))∧Below W.heap.size W w'):=fun W => isPartOf_any (filS c) (0,n) W
 have HR : Hid (rngB n c = (decide (1 ≤ c.k) && decide (c.k ≤ 4) && partB (triS c) (0,n) && partB (hanS c) (0,n) && (if c.k = 2 then partB (filS c) (0,n) else decide (c.fi = -1)))):=rfl
 obtain ⟨⟨s0,s1⟩,c0,c1,c2,c3,c4,c5,c6,c7,c8,c9⟩:=HK.out w0 (Below.refl _ _)
 clear hw0 hb0 hA hS
 unfold clV
 go_enter Tryz.func231,Tryz.ntmps231
 go_wp2_with (rw [← HW0.out])
 by_cases h1 : c.k < 1
 ·have HR2 : Hid (rngB n c = false):=by show _ = _; rw [HR.out,decide_eq_false (by omega)]; rfl
  go_quiet (fail)
  go_wp2_with fail
  go_ret
  exact ⟨ret_bool HR2.out.symm,bstep HB0.out (Below.drewN (Below.refl _ _) _)⟩
 ·by_cases h4 : 4 < c.k
  ·have HR2 : Hid (rngB n c = false):=by show _ = _; rw [HR.out,decide_eq_true (by omega : 1 ≤ c.k),decide_eq_false (by omega : ¬ c.k ≤ 4)]; rfl
   go_quiet (fail)
   go_wp2_with fail
   go_ret
   exact ⟨ret_bool HR2.out.symm,bstep HB0.out (Below.drewN (Below.refl _ _) _)⟩
  ·cases hp1 : partB (triS c) (0,n) with
   | false =>
    have HR2 : Hid (rngB n c = false):=by show _ = _; rw [HR.out,hp1]; simp
    rw [hp1] at HP1
    go_region_with (first
     | (go_at_call 245; refine (HTR.out _).mono ?_; rintro e w1 ⟨rfl,hb1⟩; obtain ⟨⟨s0',s1'⟩,c0',c1',c2',c3',c4',c5',c6',c7',c8',c9'⟩:=HK.out w1 (bstep (bdrew _) hb1))
     | (go_at_call 253; refine (HP1.out _).mono ?_; rintro e w2 ⟨rfl,hb2⟩))
    all_goals
     have HB2 : Hid (Below w.heap.size w w2):=bstep HB0.out (bstep (bstep (bdrew _) hb1) hb2)
     clear hb1 hb2
     go_wp2_with fail
     go_ret
     exact ⟨ret_bool HR2.out.symm,HB2.out⟩
   | true =>
    rw [hp1] at HP1
    go_region_held3 (fun w' => (w'.cell? ⟨w.heap.size + 1,0,none⟩ = some (.int .i64 0)∧w'.cell? ⟨w.heap.size + 1,1,none⟩ = some (.int .i64 n))∧w'.cell? ⟨w.heap.size,0,none⟩ = some (.int .i64 c.k)∧w'.cell? ⟨w.heap.size,1,none⟩ = some (.int .i64 c.tf)∧w'.cell? ⟨w.heap.size,2,none⟩ = some (.int .i64 c.tt)∧w'.cell? ⟨w.heap.size,3,none⟩ = some (.int .i64 c.hf)∧w'.cell? ⟨w.heap.size,4,none⟩ = some (.int .i64 c.ht)∧w'.cell? ⟨w.heap.size,5,none⟩ = some (.int .i64 c.fi)∧w'.cell? ⟨w.heap.size,6,none⟩ = some (.int .i64 c.t0)∧w'.cell? ⟨w.heap.size,7,none⟩ = some (.int .i64 c.t1)∧w'.cell? ⟨w.heap.size,8,none⟩ = some (.int .i64 c.t2)∧w'.cell? ⟨w.heap.size,9,none⟩ = some (.bool c.t3))
     (first | (exact HK.out _ (bdrew _)) | (exact HK.out _ (bstep (bdrew _) hb1)) | (exact HK.out _ (bstep (bstep (bdrew _) hb1) hb2)) | (exact HK.out _ (bstep (bstep (bstep (bdrew _) hb1) hb2) hb3)) | (exact HK.out _ (bstep (bstep (bstep (bstep (bdrew _) hb1) hb2) hb3) hb4)))
     (first
      | (go_at_call 245; refine (HTR.out _).mono ?_; rintro e w1 ⟨rfl,hb1⟩)
      | (go_at_call 246; refine (HHA.out _).mono ?_; rintro e w3 ⟨rfl,hb3⟩)
      | (go_at_call_of 253 (Value.agg #[Value.int IntKind.i64 c.tf,Value.int IntKind.i64 c.tt]); refine (HP1.out _).mono ?_; rintro e w2 ⟨rfl,hb2⟩)
      | (go_at_call 253; refine (HP2.out _).mono ?_; rintro e w4 ⟨rfl,hb4⟩))
    rename_i hheld
    clear hheld
    have HB4 : Hid (Below w0.heap.size w0 w4):=bstep (bstep (bstep (bstep (bdrew _) hb1) hb2) hb3) hb4
    have HK4 : Hid (∀ w',Below w4.heap.size w4 w' → (w'.cell? ⟨w.heap.size + 1,0,none⟩ = some (.int .i64 0)∧w'.cell? ⟨w.heap.size + 1,1,none⟩ = some (.int .i64 n))∧Ten w' w.heap.size 0 c):=fun w' h => HK.out w' (bstep HB4.out h)
    clear hb1 hb2 hb3 hb4 s0 s1 c0 c1 c2 c3 c4 c5 c6 c7 c8 c9
    obtain ⟨⟨s0,s1⟩,c0,c1,c2,c3,c4,c5,c6,c7,c8,c9⟩:=HK.out w4 HB4.out
    cases hp2 : partB (hanS c) (0,n) with
    | false =>
     have HR2 : Hid (rngB n c = false):=by show _ = _; rw [HR.out,hp2]; simp
     go_wp2_with fail
     go_ret
     exact ⟨ret_bool HR2.out.symm,bstep HB0.out HB4.out⟩
    | true =>
     by_cases hk : c.k = 2
     ·have hk' : (c.k == 2) = true:=by rw [hk]; rfl
      have HR2 : Hid (rngB n c = partB (filS c) (0,n)):=by show _ = _; rw [HR.out,hp1,hp2,decide_eq_true (by omega : 1 ≤ c.k),decide_eq_true (by omega : c.k ≤ 4),if_pos hk]; simp
      clear hk
      go_wp2_with fail
      go_region_held3 (fun w' => (w'.cell? ⟨w.heap.size + 1,0,none⟩ = some (.int .i64 0)∧w'.cell? ⟨w.heap.size + 1,1,none⟩ = some (.int .i64 n))∧w'.cell? ⟨w.heap.size,0,none⟩ = some (.int .i64 c.k)∧w'.cell? ⟨w.heap.size,1,none⟩ = some (.int .i64 c.tf)∧w'.cell? ⟨w.heap.size,2,none⟩ = some (.int .i64 c.tt)∧w'.cell? ⟨w.heap.size,3,none⟩ = some (.int .i64 c.hf)∧w'.cell? ⟨w.heap.size,4,none⟩ = some (.int .i64 c.ht)∧w'.cell? ⟨w.heap.size,5,none⟩ = some (.int .i64 c.fi)∧w'.cell? ⟨w.heap.size,6,none⟩ = some (.int .i64 c.t0)∧w'.cell? ⟨w.heap.size,7,none⟩ = some (.int .i64 c.t1)∧w'.cell? ⟨w.heap.size,8,none⟩ = some (.int .i64 c.t2)∧w'.cell? ⟨w.heap.size,9,none⟩ = some (.bool c.t3))
       (first | (exact HK4.out _ (bdrew _)) | (exact HK4.out _ (bstep (bdrew _) hb5)) | (exact HK4.out _ (bstep (bstep (bdrew _) hb5) hb6)))
       (first
        | (go_at_call 247; refine (HFI.out _).mono ?_; rintro e w5 ⟨rfl,hb5⟩)
        | (go_at_call 253; refine (HP3.out _).mono ?_; rintro e w6 ⟨rfl,hb6⟩))
      rename_i hheld
      clear hheld
      have HB6 : Hid (Below w.heap.size w w6):=bstep (bstep HB0.out HB4.out) (bstep (bstep (bdrew _) hb5) hb6)
      clear hb5 hb6
      go_wp2_with fail
      go_ret
      exact ⟨ret_bool HR2.out.symm,HB6.out⟩
     ·have hk' : (c.k == 2) = false:=by rw [beq_eq_false_iff_ne]; exact hk
      have HR2 : Hid (rngB n c = decide (c.fi = -1)):=by show _ = _; rw [HR.out,hp1,hp2,decide_eq_true (by omega : 1 ≤ c.k),decide_eq_true (by omega : c.k ≤ 4),if_neg hk]; simp
      clear hk
      go_wp2_with fail
      go_ret
      refine ⟨ret_bool ?_,bstep HB0.out HB4.out⟩
      rw [HR2.out,Bool.eq_iff_iff]; simp
theorem Tryz.sizeClause : (Tryz.prog.info? 101).map (·.size) = some 10:=by kernel_rfl
theorem FirstR.hit {f : Nat → Int} {m q : Nat} (hq : q < m) (h : ∀ k,k < q → f k = 0) (e : Int) (he : f q = e) (hne : e ≠ 0) : FirstR f m (q : Int) e := .inr ⟨q,hq,rfl,he.symm,by rw [he]; exact hne,h⟩
theorem FirstR.done {f : Nat → Int} {m : Nat} (h : ∀ k,k < m → f k = 0) : FirstR f m 0 0 := .inl ⟨rfl,rfl,h⟩
theorem zero_step {f : Nat → Int} {q : Nat} (h : ∀ k,k < q → f k = 0) (hq : f q = 0) : ∀ k,k < q + 1 → f k = 0:=fun k hk => by
 rcases Nat.lt_or_ge k q with g | g
 ·exact h k g
 ·obtain rfl : k = q:=by omega
  exact hq

theorem check_none (n : Int) (a : Option Addr) (cap : Nat) (w : World) :
  Calls Tryz.prog 199 #[.int .i64 n,.slice a 0 cap] w fun e w' => e = .returned (.tuple #[.int .i64 0,.int .i64 0])∧w' = w:=by
 go_enter Tryz.func199,Tryz.ntmps199
 go_wp2
 refine wp_loop_rounds 1 ?_; rw [rounds_succ]
 go_wp2
 go_ret2
 exact ⟨rfl,rfl⟩

theorem check_full (n : Int) (a : Option Addr) (m cap : Nat) (hm : 6 < m) (w : World) :
  Calls Tryz.prog 199 #[.int .i64 n,.slice a m cap] w fun e w' => e = .returned (.tuple #[.int .i64 0,.int .i64 4])∧w' = w:=by
 have h : (6 : Int) < (m : Int):=by omega
 go_enter Tryz.func199,Tryz.ntmps199
 go_wp2
 go_ret2
 exact ⟨rfl,rfl⟩

set_option maxHeartbeats 4000000 in
theorem check_some {b off cap : Nat} {n : Int} {l : List Cl} {w : World} (hE : Es clE9 w (.slice (some ⟨b,off,none⟩) l.length cap) l) (hb : b < w.heap.size) (hc : ∀ i (hi : i < l.length),El clE9 w b (off + i * 10) l[i]) (hl : l.length ≤ 6) (hcap : l.length ≤ cap) (hm : cap ≤ maxLen) :
  Calls Tryz.prog 199 #[.int .i64 n,.slice (some ⟨b,off,none⟩) l.length cap] w fun e w' => ∃ i x,e = .returned (.tuple #[.int .i64 i,.int .i64 x])∧FirstR (clAt n l) l.length i x∧Below w.heap.size w w':=by
 unfold maxLen at hm
 have HC : Hid (∀ i (hi : i < l.length),El clE9 w b (off + i * 10) l[i]):=hc
 have HE : Hid (Es clE9 w (.slice (some ⟨b,off,none⟩) l.length cap) l):=hE
 clear hc hE
 go_enter Tryz.func199,Tryz.ntmps199
 go_wp2_with fail
 go_loopw [15] (fun z wr => ∃ q : Nat,q ≤ l.length∧z = .int .i64 q∧Below w.heap.size w wr∧Hid (∀ k,k < q → clAt n l k = 0)) (fun z _ => l.length - (intOf z).toNat)
 case atStart => exact ⟨0,Nat.zero_le _,rfl,Below.refl _ _,fun k hk => absurd hk (Nat.not_lt_zero _)⟩
 case round =>
  obtain ⟨q,hq,rfl,hB,HZ⟩:=hrel
  have HBL : Hid (Below w.heap.size w wr):=hB
  by_cases hql : q < l.length
  ·obtain ⟨c0,c1,c2,c3,c4,c5,c6,c7,c8,c9⟩:=((HC.out q hql).below hB hb).ten
   have HQ : Hid (clAt n l q = clE n (l.take q) l[q]):=clAt_eq n l q hql
   obtain ⟨hsl,hEs⟩:=slice_toE (P:=Tryz.prog) (HE.out.later hB) q (by omega) 53 101 Tryz.underlying53 Tryz.sizeClause
   have HEs : Hid (Es clE9 wr (.slice (some ⟨b,off,none⟩) q cap) (l.take q)):=hEs
   generalize l[q] = c at *
   obtain ⟨wA,hwA⟩ : ∃ W,W = wr.alloc (.cells #[.int .i64 c.k,.int .i64 c.tf,.int .i64 c.tt,.int .i64 c.hf,.int .i64 c.ht,.int .i64 c.fi,.int .i64 c.t0,.int .i64 c.t1,.int .i64 c.t2,.bool c.t3] 101):=⟨_,rfl⟩
   have HWA : Hid (wA = _):=hwA
   have hbA : Below wr.heap.size wr wA:=by rw [hwA]; exact made_below _ _ _
   have HBA : Hid (Below wr.heap.size wr wA):=hbA
   have hAA : At wA wr.heap.size (clC c).toArray 101:=by rw [hwA]; exact At.made wr (clC c).toArray _
   have HAA : Hid (At wA wr.heap.size (clC c).toArray 101):=hAA
   obtain ⟨a0,a1,a2,a3,a4,a5,a6,a7,a8,a9⟩:=hAA.ten
   have HSp : Hid (Calls Tryz.prog 228 #[.agg #[.int .i64 c.k,.int .i64 c.tf,.int .i64 c.tt,.int .i64 c.hf,.int .i64 c.ht,.int .i64 c.fi,.int .i64 c.t0,.int .i64 c.t1,.int .i64 c.t2,.bool c.t3]] wA fun e w' => ∃ v,e = .returned v∧OwnE spE w' wA.heap.size 202 v (spansL c)∧Below wA.heap.size wA w'):=spansOf_any c wA
   clear hB hEs hwA hbA hAA
   go_wp2_with (rw [← HWA.out])
   refine Calls.mono HSp.out ?_
   rintro e w1 ⟨v1,rfl,ho1,hb1⟩
   obtain ⟨a',cv,hv1,_,_⟩:=ho1.shape
   subst hv1
   obtain ⟨w2,hw2⟩ : ∃ W,W = w1.alloc (.cells #[.slice a' (spansL c).length cv] 187):=⟨_,rfl⟩
   have HW2 : Hid (w2 = _):=hw2
   have hb2 : Below w1.heap.size w1 w2:=by rw [hw2]; exact made_below _ _ _
   have hA2 : At w2 w1.heap.size #[.slice a' (spansL c).length cv] 187:=by rw [hw2]; exact At.made w1 _ _
   have HB2 : Hid (Below wr.heap.size wr w2):=bstep (bstep HBA.out hb1) hb2
   have HT2 : Hid (∀ W,Below w2.heap.size w2 W → Ten W wr.heap.size 0 c∧W.cell? ⟨w1.heap.size,0,none⟩ = some (.slice a' (spansL c).length cv)):=fun W hW => ⟨(HAA.out.later (bstep (bstep hb1 hb2) hW)).ten,(hA2.later hW).cell0⟩
   have HV2 : Hid (Es spE w2 (.slice a' (spansL c).length cv) (spansL c)):=(ho1.es).later hb2
   have HA2 : Hid (At w2 w1.heap.size #[.slice a' (spansL c).length cv] 187):=hA2
   have HRg : Hid (Calls Tryz.prog 231 #[.int .i64 n,.agg #[.int .i64 c.k,.int .i64 c.tf,.int .i64 c.tt,.int .i64 c.hf,.int .i64 c.ht,.int .i64 c.fi,.int .i64 c.t0,.int .i64 c.t1,.int .i64 c.t2,.bool c.t3]] w2 fun e w' => e = .returned (.bool (rngB n c))∧Below w2.heap.size w2 w'):=isInRange_any n c w2
   obtain ⟨⟨t0,t1,t2,t3,t4,t5,t6,t7,t8,t9⟩,t10⟩:=HT2.out w2 (Below.refl _ _)
   clear hw2 hb2 hA2 ho1 hb1 a0 a1 a2 a3 a4 a5 a6 a7 a8 a9 HSp
   go_wp2_with (rw [← HW2.out])
   refine Calls.mono HRg.out ?_
   rintro e w3 ⟨rfl,hb3⟩
   have HB3 : Hid (Below w2.heap.size w2 w3):=hb3
   obtain ⟨_,u10⟩:=HT2.out w3 hb3
   clear hb3 t0 t1 t2 t3 t4 t5 t6 t7 t8 t9 t10 HRg
   cases hr : rngB n c with
   | false =>
    have HX : Hid (clAt n l q = 3):=by show _ = _; rw [HQ.out]; unfold clE; rw [if_neg (by rw [hr]; decide)]
    go_wp2_with fail
    go_ret2
    exact ⟨_,_,rfl,FirstR.hit hql HZ.out 3 HX.out (by decide),bstep (bstep HBL.out HB2.out) HB3.out⟩
   | true =>
    have HOv : Hid (Calls Tryz.prog 232 #[.slice a' (spansL c).length cv] w3 fun e w' => e = .returned (.bool (ovlB (spansL c)))∧Below w3.heap.size w3 w'):=overlaps_any (HV2.out.later HB3.out)
    go_wp2_with fail
    refine Calls.mono HOv.out ?_
    rintro e w4 ⟨rfl,hb4⟩
    have HB4 : Hid (Below w2.heap.size w2 w4):=bstep HB3.out hb4
    clear hb4 u10 HOv
    cases ho : ovlB (spansL c) with
    | true =>
     have HX : Hid (clAt n l q = 12):=by show _ = _; rw [HQ.out]; unfold clE; rw [if_pos hr,if_pos ho]
     go_wp2_with fail
     go_ret2
     exact ⟨_,_,rfl,FirstR.hit hql HZ.out 12 HX.out (by decide),bstep (bstep HBL.out HB2.out) HB4.out⟩
    | false =>
     have HCo : Hid (Calls Tryz.prog 233 #[.slice (some ⟨b,off,none⟩) q cap,.func (.func 229) #[] #[.pointer (some ⟨w1.heap.size,0,none⟩)]] w4 fun e w' => e = .returned (.bool ((l.take q).any fun x => !fitB9 (spansL x) (spansL c)))∧Below w4.heap.size w4 w'):=by
      refine containsC_any (HEs.out.later (bstep HB2.out HB4.out)) ⟨run_enter9 Tryz.func229 (by kernel_rfl) rfl,fun W hW x hx => ?_⟩
      have hA1:=HA2.out.later (bstep HB4.out hW)
      have:=check1_any (c:=x) (w:=W) hA1.cell0 hA1.lt (HV2.out.later (bstep HB4.out hW)) (spans_ne c)
      simpa using this
     go_wp2_with fail
     refine Calls.mono HCo.out ?_
     rintro e w5 ⟨rfl,hb5⟩
     have HB5 : Hid (Below w.heap.size w w5):=bstep (bstep (bstep HBL.out HB2.out) HB4.out) hb5
     clear hb5 HCo
     cases hy : ((l.take q).any fun x => !fitB9 (spansL x) (spansL c)) with
     | true =>
      have HX : Hid (clAt n l q = 12):=by show _ = _; rw [HQ.out]; unfold clE; rw [if_pos hr,if_neg (by rw [ho]; decide),if_pos hy]
      go_wp2_with fail
      go_ret2
      exact ⟨_,_,rfl,FirstR.hit hql HZ.out 12 HX.out (by decide),HB5.out⟩
     | false =>
      have HX : Hid (clAt n l q = 0):=by show _ = _; rw [HQ.out]; unfold clE; rw [if_pos hr,if_neg (by rw [ho]; decide),if_neg (by rw [hy]; decide)]
      go_wp2_with fail
      go_roundw
      case rel => exact ⟨q + 1,by omega,by go_num,HB5.out,zero_step HZ.out HX.out⟩
      case measure => simp [intOf]; omega
  ·have HF' : Hid (∀ k,k < l.length → clAt n l k = 0):=fun k hk => HZ.out k (by omega)
   go_wp2
   go_ret2
   exact ⟨_,_,rfl,FirstR.done HF'.out,HBL.out⟩

theorem check_any {v : Value} {l : List Cl} {w : World} (n : Int) (h : Es clE9 w v l) :
  Calls Tryz.prog 199 #[.int .i64 n,v] w fun e w' => ∃ i x,e = .returned (.tuple #[.int .i64 i,.int .i64 x])∧CheckR n l i x∧Below w.heap.size w w':=by
 by_cases hne : l = []
 ·subst hne
  obtain ⟨a,c,rfl,_,_⟩:=h.shape
  refine (check_none n a c w).mono ?_
  rintro e w' ⟨rfl,rfl⟩
  exact ⟨_,_,rfl,by unfold CheckR; rw [if_neg (by simp)]; exact FirstR.done (fun k hk => absurd hk (Nat.not_lt_zero _)),Below.refl _ _⟩
 ·by_cases h6 : 6 < l.length
  ·obtain ⟨a,c,rfl,_,_⟩:=h.shape
   refine (check_full n a l.length c h6 w).mono ?_
   rintro e w' ⟨rfl,rfl⟩
   exact ⟨_,_,rfl,by unfold CheckR; rw [if_pos h6]; exact ⟨rfl,rfl⟩,Below.refl _ _⟩
  ·obtain ⟨b,off,cap,rfl,h1,h2,hb,hc⟩:=h.parts hne
   refine (check_some (n:=n) h hb hc (by omega) h1 h2).mono ?_
   rintro e w' ⟨i,x,rfl,hf,hB⟩
   exact ⟨i,x,rfl,by unfold CheckR; rw [if_neg h6]; exact hf,hB⟩
end Go.Proofs.YthpmpdpfnlecmaaGreat
