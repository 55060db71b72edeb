/- Texts joined: RefOf6, RefFits6, RefOwn10, RefBase9. -/
import Derived.Test.YtclmafoelibihaaGreatJ40
import Derived.Deep.RegionHeld3
import Derived.Deep.RegionLaw
import Derived.Test.YtclmafoelibihaaGreatJ07
import Derived.Test.YtclmafoelibihaaGreatJ28
import Derived.Test.YtclmafoelibihaaGreatJ27
/- Of of the references. -/
namespace Go.Proofs.YtclmafoelibihaaGreat
set_option linter.unusedVariables false
set_option linter.unusedSimpArgs false
open Go.RowKit

/-- The digits of operands and ways. -/
def digP : ByteArray := ⟨List.toArray (48 :: 52 :: 52 :: 52 :: 51 :: 51 :: 51 :: 49 :: 50 :: 48 :: 48 :: 48 :: 48 :: 48 :: 48 :: 48 :: 48 :: 48 :: 48 :: 48 :: 48 :: 48 :: 48 :: 48 :: 48 :: 48 :: 48 :: 48 :: 48 :: 48 :: 48 :: 48 :: 48 :: 53 :: 53 :: 53 :: 53 :: 53 :: 53 :: 53 :: 53 :: 53 :: 54 :: 54 :: 54 :: 48 :: 48 :: 55 :: 55 :: 55 :: 55 :: 55 :: 55 :: 56 :: 56 :: 56 :: 56 :: 48 :: 56 :: 56 :: 56 :: 56 :: 56 :: 56 :: 56 :: 56 :: 54 :: 56 :: 48 :: 48 :: 53 :: 48 :: 48 :: 48 :: 48 :: [])⟩
def digW : ByteArray := ⟨List.toArray (48 :: 48 :: 48 :: 48 :: 48 :: 48 :: 48 :: 48 :: 48 :: 48 :: 48 :: 48 :: 48 :: 48 :: 48 :: 48 :: 48 :: 48 :: 48 :: 48 :: 48 :: 48 :: 48 :: 48 :: 48 :: 48 :: 48 :: 48 :: 48 :: 48 :: 48 :: 48 :: 48 :: 49 :: 50 :: 50 :: 50 :: 50 :: 50 :: 50 :: 50 :: 50 :: 48 :: 48 :: 48 :: 51 :: 48 :: 48 :: 48 :: 48 :: 48 :: 48 :: 48 :: 48 :: 48 :: 48 :: 48 :: 48 :: 48 :: 48 :: 48 :: 48 :: 48 :: 48 :: 48 :: 48 :: 48 :: 48 :: 51 :: 51 :: 52 :: 53 :: 53 :: 48 :: 48 :: [])⟩
theorem digP_all : ∀ k : Nat, k < 75 → ((digP.get! k).toNat : Int) = opP ((k : Int) + 1) + 48 ∧ 0 ≤ opP ((k : Int) + 1) ∧ opP ((k : Int) + 1) ≤ 8 := by decide +kernel
theorem digW_all : ∀ k : Nat, k < 75 → ((digW.get! k).toNat : Int) = opW ((k : Int) + 1) + 48 ∧ 0 ≤ opW ((k : Int) + 1) ∧ opW ((k : Int) + 1) ≤ 5 := by decide +kernel

theorem wrap_small {x : Int} (h0 : 0 ≤ x) (h1 : x < 256) : IntKind.u8.wrap x = x := by
  unfold IntKind.wrap
  simp [IntKind.bits, IntKind.signed]
  omega
theorem get_bang (d : ByteArray) (k : Nat) (h : k < d.size) : d.get! k = d[k]'h := by
  show d.data[k]! = d.data[k]'h
  exact getElem!_pos d.data k h
theorem digP_at (k : Nat) (hk : k < 75) (h : k < digP.size) : ((digP[k]'h).toNat : Int) = opP ((k : Int) + 1) + 48 := by rw [← get_bang]; exact (digP_all k hk).1
theorem digW_at (k : Nat) (hk : k < 75) (h : k < digW.size) : ((digW[k]'h).toNat : Int) = opW ((k : Int) + 1) + 48 := by rw [← get_bang]; exact (digW_all k hk).1

set_option maxHeartbeats 1000000 in
set_option maxRecDepth 100000 in
theorem refOf_in (k : Nat) (hk : k < 75) (w : World) :
    Calls Tryz.prog 143 #[.int .i64 ((k : Int) + 1)] w fun e w' => e = .returned (.tuple #[.agg #[.string (opS ((k : Int) + 1)), .int .i64 (opP ((k : Int) + 1)), .int .i64 (opW ((k : Int) + 1))], .int .i64 0]) ∧ Below w.heap.size w w' := by
  have hA0 := At.made w #[.string ⟨#[]⟩, .int .i64 0, .int .i64 0] 140
  have hb0 : Below w.heap.size w (w.alloc (.cells #[.string ⟨#[]⟩, .int .i64 0, .int .i64 0] 140)) := (Below.refl _ _).alloc (Nat.le_refl _) _
  have h1 : (0 : Int) ≤ (k : Int) := by omega
  have h2 : (k : Int) < 75 := by omega
  have hkw : IntKind.i64.wrap (k : Int) = (k : Int) := by rw [IntKind.wrap_i64]; omega
  have hp := digP_at k hk hk
  have hq := digW_at k hk hk
  unfold digP at hp
  unfold digW at hq
  obtain ⟨-, hp0, hp8⟩ := digP_all k hk
  obtain ⟨-, hw0, hw5⟩ := digW_all k hk
  generalize opP ((k : Int) + 1) = p at *
  generalize opW ((k : Int) + 1) = q at *
  have hpw : IntKind.u8.wrap p = p := wrap_small (by omega) (by omega)
  have hqw : IntKind.u8.wrap q = q := wrap_small (by omega) (by omega)
  have hpi : IntKind.i64.wrap p = p := by rw [IntKind.wrap_i64]; omega
  have hqi : IntKind.i64.wrap q = q := by rw [IntKind.wrap_i64]; omega
  go_enter Tryz.func143, Tryz.ntmps143
  go_wp2_with fail
  go_region_held3 (fun w' => True) (exact trivial)
    (first | (go_at_call 167; refine (refOpName_any _ _).mono ?_; rintro e wz ⟨rfl, hz⟩; subst wz))
  all_goals
    clear hp hq
    go_wp2
    refine bodyPost_ret (v := _) (by simp [results, Tryz.results143, go_sem]) rfl ⟨rfl, ?_⟩
    exact Below.drewN ((Below.refl _ _).alloc (Nat.le_refl _) _) 1

theorem refOf_out (n : Int) (h : ¬ (1 ≤ n ∧ n ≤ 75)) (w : World) :
    Calls Tryz.prog 143 #[.int .i64 n] w fun e w' => e = .returned (.tuple #[.agg #[.string ⟨#[]⟩, .int .i64 0, .int .i64 0], .int .i64 3]) ∧ Below w.heap.size w w' := by
  have hor : (decide (n < 1) || decide (75 < n)) = true := by simp; omega
  by_cases h1 : n < 1
  · clear h hor
    go_enter Tryz.func143, Tryz.ntmps143
    go_wp2
    refine bodyPost_ret (v := _) (by simp [results, Tryz.results143, go_sem]) rfl ⟨rfl, ?_⟩
    exact (Below.refl _ _).alloc (Nat.le_refl _) _
  · have h2 : 75 < n := by omega
    clear h hor
    go_enter Tryz.func143, Tryz.ntmps143
    go_wp2
    refine bodyPost_ret (v := _) (by simp [results, Tryz.results143, go_sem]) rfl ⟨rfl, ?_⟩
    exact (Below.refl _ _).alloc (Nat.le_refl _) _

end Go.Proofs.YtclmafoelibihaaGreat

/- Fits of the references. -/
namespace Go.Proofs.YtclmafoelibihaaGreat
set_option linter.unusedVariables false
set_option linter.unusedSimpArgs false
open Go.RowKit

theorem refOf_at (n : Int) (h1 : 1 ≤ n) (h2 : n ≤ 75) (w : World) :
    Calls Tryz.prog 143 #[.int .i64 n] w fun e w' => e = .returned (.tuple #[.agg #[.string (opS n), .int .i64 (opP n), .int .i64 (opW n)], .int .i64 0]) ∧ Below w.heap.size w w' := by
  have := refOf_in (n - 1).toNat (by omega) w
  rw [show ((n - 1).toNat : Int) + 1 = n by omega] at this
  exact this

set_option maxHeartbeats 2000000 in
theorem refFits6_any (op n k i d : Int) (r : Bool) (w : World) :
    Calls Tryz.prog 142 #[.agg #[.int .i64 op, .int .i64 n, .int .i64 k, .int .i64 i, .int .i64 d, .bool r]] w fun e w' => e = .returned (.int .i64 (fitE op n k i d r)) ∧ Below w.heap.size w w' := by
  have hb0 : Below w.heap.size w (w.alloc (.cells #[.int .i64 op, .int .i64 n, .int .i64 k, .int .i64 i, .int .i64 d, .bool r] 126)) := (Below.refl _ _).alloc (Nat.le_refl _) _
  have hA0 := At.made w #[.int .i64 op, .int .i64 n, .int .i64 k, .int .i64 i, .int .i64 d, .bool r] 126
  have hz : ∀ W : World, (binOp .eql 44 (.agg #[.int .i64 k, .int .i64 i, .int .i64 d, .bool r]) (.agg #[.int .i64 0, .int .i64 0, .int .i64 0, .bool false])).run Tryz.prog W = .ok (.bool (zeroB k i d r)) W := fun W => by
    rw [eq_ty]; cases r <;> rfl
  by_cases hin : 1 ≤ op ∧ op ≤ 75
  · obtain ⟨h1, h2⟩ := hin
    have HE : Hid (fitE op n k i d r = if fitB (opP op) n k i d r = true then 0 else 17) := by show _ = _; unfold fitE; rw [if_pos ⟨h1, h2⟩]
    go_enter Tryz.func142, Tryz.ntmps142
    go_wp2_with fail
    refine (refOf_at op h1 h2 _).mono ?_
    rintro e w1 ⟨rfl, hb⟩
    have hA := hA0.later hb
    have hB := hb0.trans (hb.mono hb0.size)
    have hbx : Below w1.heap.size w1 (w1.alloc (.cells #[.string (opS op), .int .i64 (opP op), .int .i64 (opW op)] 140)) := (Below.refl _ _).alloc (Nat.le_refl _) _
    have hA2 := hA.later hbx
    have hB2 := hB.trans (hbx.mono hB.size)
    have hX := At.made w1 #[.string (opS op), .int .i64 (opP op), .int .i64 (opW op)] 140
    have tc := hA2.cell
    have xc := hX.cell
    clear hb hb0 hA hA0 hB hbx h1 h2
    generalize opP op = p at *
    generalize opW op = q at *
    generalize opS op = s at *
    go_wp2_with fail
    refine (most_any p _).mono ?_
    rintro e wz ⟨rfl, hw⟩
    subst wz
    by_cases hlo : n < bLo p
    · have HN : Hid (fitE op n k i d r = 17) := by
        show _ = _; rw [HE.out, if_neg]; unfold fitB; simp; intro a; omega
      clear HE
      by_cases hhi : bHi p < n
      · go_wp2_with fail
        go_ret
        exact ⟨ret_int HN.out.symm, hB2⟩
      · go_wp2_with fail
        go_ret
        exact ⟨ret_int HN.out.symm, hB2⟩
    · by_cases hhi : bHi p < n
      · have HN : Hid (fitE op n k i d r = 17) := by
          show _ = _; rw [HE.out, if_neg]; unfold fitB; simp; intro a b; omega
        clear HE
        go_wp2_with fail
        go_ret
        exact ⟨ret_int HN.out.symm, hB2⟩
      · have HF : Hid (fitB p n k i d r = if p = 8 then mayB 1 k i d r else zeroB k i d r) := by
          show _ = _; unfold fitB; rw [decide_eq_true (by omega), decide_eq_true (by omega)]; rfl
        by_cases h8 : p = 8
        · subst h8
          have HF8 : Hid (fitB 8 n k i d r = mayB 1 k i d r) := by show _ = _; rw [HF.out, if_pos rfl]
          clear HF
          go_wp2_with fail
          refine (where1_any k i d r _).mono ?_
          rintro e w2 ⟨rfl, hb⟩
          have hB3 := hB2.trans (hb.mono hB2.size)
          clear hb hB2 tc xc
          cases hm : mayB 1 k i d r with
          | false =>
            go_wp2_with fail
            go_ret
            exact ⟨ret_int (by rw [HE.out, HF8.out, hm]; rfl), hB3⟩
          | true =>
            go_wp2_with fail
            go_ret
            exact ⟨ret_int (by rw [HE.out, HF8.out, hm]; rfl), hB3⟩
        · have h8' : (p == 8) = false := by simpa using h8
          have h8n : (p != 8) = true := by simpa using h8
          have HF8 : Hid (fitB p n k i d r = zeroB k i d r) := by show _ = _; rw [HF.out, if_neg h8]
          clear HF h8
          cases hm : zeroB k i d r with
          | false =>
            go_wp2_with fail
            go_ret
            exact ⟨ret_int (by rw [HE.out, HF8.out, hm]; rfl), hB2⟩
          | true =>
            go_wp2_with fail
            go_ret
            exact ⟨ret_int (by rw [HE.out, HF8.out, hm]; rfl), hB2⟩
  · have HE : Hid (fitE op n k i d r = 3) := by show _ = _; unfold fitE; rw [if_neg hin]
    go_enter Tryz.func142, Tryz.ntmps142
    go_wp2_with fail
    refine (refOf_out op hin _).mono ?_
    rintro e w1 ⟨rfl, hb⟩
    have hB := hb0.trans (hb.mono hb0.size)
    have hbx : Below w1.heap.size w1 (w1.alloc (.cells #[.string ⟨#[]⟩, .int .i64 0, .int .i64 0] 140)) := (Below.refl _ _).alloc (Nat.le_refl _) _
    have hB2 := hB.trans (hbx.mono hB.size)
    clear hb hb0 hA0 hB hbx
    go_wp2_with fail
    go_ret
    exact ⟨ret_int HE.out.symm, hB2⟩

end Go.Proofs.YtclmafoelibihaaGreat

/- What the references ask of an image's types and instructions. -/
namespace Go.Proofs.YtclmafoelibihaaGreat
set_option linter.unusedVariables false
set_option linter.unusedSimpArgs false
open Go.RowKit
attribute [local go_sem ↓] Go.wp_at_zero Go.wp_at_succ

/-- May a type stand there, by its number, too? -/
def mB (p n : Nat) (t : Ty) : Bool := mayT p t && ownB n t
def rownB (n : Nat) (t : Ty) : Bool := (decide (t.1 ≠ 5) && decide (t.1 ≠ 6)) || decide (t.2.1 < n)
theorem rown_eq {p n : Nat} {t : Ty} (hp : p = 1 ∨ p = 2 ∨ p = 3) (h : mayT p t = true) : rownB n t = ownB n t := by
  have hpl : plainB t.1 t.2.1 t.2.2.1 t.2.2.2 = true := by
    unfold mayT mayB at h
    rcases hp with rfl | rfl | rfl
    · rw [if_pos rfl] at h; simp only [Bool.and_eq_true] at h; exact h.1.1
    · rw [if_neg (by decide), if_pos rfl] at h; simp only [Bool.and_eq_true] at h; exact h.1
    · rw [if_neg (by decide), if_neg (by decide), if_pos rfl] at h; simp only [Bool.and_eq_true] at h; exact h.1
  have h0 : 0 ≤ t.2.1 := (plain_facts hpl).2.2.1
  unfold rownB ownB numB
  rw [Bool.eq_iff_iff]
  by_cases h5 : t.1 = 5 ∨ t.1 = 6
  · rw [if_pos h5]; simp; omega
  · rw [if_neg h5]; simp; omega
theorem mB_eq {p n : Nat} {t : Ty} (hp : p = 1 ∨ p = 2 ∨ p = 3) : (mayT p t && rownB n t) = mB p n t := by
  unfold mB
  cases h : mayT p t with
  | false => simp
  | true => rw [rown_eq hp h]

set_option maxHeartbeats 1000000 in
theorem refOwn_any (t : Ty) (n : Nat) (w : World) :
    Calls Tryz.prog 108 #[tv t, .int .i64 n] w fun e w' => e = .returned (.bool (rownB n t)) ∧ Below w.heap.size w w' := by
  obtain ⟨k, i, d, r⟩ := t
  unfold tv
  go_enter Tryz.func108, Tryz.ntmps108
  go_wp2
  all_goals go_ret
  all_goals refine ⟨ret_bool ?_, (Below.refl _ _).alloc (Nat.le_refl _) _⟩
  all_goals try simp only [bne_iff_ne, ne_eq, bne_eq_false_iff_eq, beq_iff_eq, beq_eq_false_iff_ne] at *
  all_goals (unfold rownB; rw [Bool.eq_iff_iff]; simp [*])

set_option maxHeartbeats 1000000 in
theorem refMay_any {p : Nat} (hp : p = 1 ∨ p = 2 ∨ p = 3) (t : Ty) (n : Nat) (w : World) :
    Calls Tryz.prog 59 #[tv t, .int .i64 p, .int .i64 n] w fun e w' => e = .returned (.bool (mB p n t)) ∧ Below w.heap.size w w' := by
  have HE : Hid ((mayT p t && rownB n t) = mB p n t) := mB_eq hp
  obtain ⟨k, i, d, r⟩ := t
  obtain ⟨w0, hw0⟩ : ∃ W, W = w.alloc (.cells #[.int .i64 k, .int .i64 i, .int .i64 d, .bool r] 44) := ⟨_, rfl⟩
  have HW0 : Hid (w0 = _) := hw0
  have hb0 : Below w.heap.size w w0 := by rw [hw0]; exact made_below _ _ _
  have HB0 : Hid (Below w.heap.size w w0) := hb0
  have hA : At w0 w.heap.size #[.int .i64 k, .int .i64 i, .int .i64 d, .bool r] 44 := by rw [hw0]; exact At.made w _ _
  have HA : Hid (∀ W, Below w0.heap.size w0 W → At W w.heap.size #[.int .i64 k, .int .i64 i, .int .i64 d, .bool r] 44) := fun W hW => hA.later hW
  have HWh : Hid (Calls Tryz.prog 107 #[.agg #[.int .i64 k, .int .i64 i, .int .i64 d, .bool r], .int .i64 p] w0 fun e w' => e = .returned (.bool (mayB p k i d r)) ∧ Below w0.heap.size w0 w') := by
    rcases hp with rfl | rfl | rfl
    · exact where1_any k i d r w0
    · exact where2_any k i d r w0
    · exact where3_any k i d r w0
  have hc := hA.cell
  clear hw0 hb0 hA hp
  unfold tv
  go_enter Tryz.func59, Tryz.ntmps59
  go_wp2_with (rw [← HW0.out])
  refine Calls.mono HWh.out ?_
  rintro e w1 ⟨rfl, hb1⟩
  have HB1 : Hid (Below w0.heap.size w0 w1) := hb1
  have c1 := (HA.out w1 hb1).cell
  clear hb1 hc HWh
  cases hm : mayB p k i d r with
  | false =>
    go_wp2_with fail
    go_ret
    exact ⟨ret_bool (by rw [← HE.out]; unfold mayT; rw [hm]; rfl), bstep HB0.out HB1.out⟩
  | true =>
    have HO : Hid (Calls Tryz.prog 108 #[.agg #[.int .i64 k, .int .i64 i, .int .i64 d, .bool r], .int .i64 n] w1 fun e w' => e = .returned (.bool (rownB n (k, i, d, r))) ∧ Below w1.heap.size w1 w') := refOwn_any (k, i, d, r) n w1
    go_wp2_with fail
    refine Calls.mono HO.out ?_
    rintro e w2 ⟨rfl, hb2⟩
    have HB2 : Hid (Below w0.heap.size w0 w2) := bstep HB1.out hb2
    clear hb2 c1 HO
    go_wp2
    go_ret
    exact ⟨ret_bool (by rw [← HE.out]; unfold mayT; rw [hm]; rfl), bstep HB0.out HB2.out⟩

/-- The references' table of instructions: an operand's kind. -/
theorem refOf10_any (op : Int) (w : World) :
    Calls Tryz.prog 143 #[.int .i64 op] w fun e w' => ∃ s q z, e = .returned (.tuple #[.agg #[.string s, .int .i64 (opP op), .int .i64 q], .int .i64 z]) ∧ Below w.heap.size w w' := by
  by_cases hin : 1 ≤ op ∧ op ≤ 75
  · exact (refOf_at op hin.1 hin.2 w).mono fun e w' ⟨he, hb⟩ => ⟨_, _, _, he, hb⟩
  · refine (refOf_out op hin w).mono fun e w' ⟨he, hb⟩ => ⟨⟨#[]⟩, 0, 3, ?_, hb⟩
    rw [he, opP_out hin]

end Go.Proofs.YtclmafoelibihaaGreat

/- Bounds, In, meet, within, alone of the references. -/
namespace Go.Proofs.YtclmafoelibihaaGreat
set_option linter.unusedVariables false
set_option linter.unusedSimpArgs false
open Go.RowKit
attribute [local go_sem ↓] Go.wp_at_zero Go.wp_at_succ

/-- The second of two new blocks. -/
theorem At.made2 (w : World) (o : Obj) (C : Array Value) (t : TypeId) : At ((w.alloc o).alloc (.cells C t)) (w.heap.size + 1) C t := by
  have := At.made (w.alloc o) C t
  simpa using this

set_option maxHeartbeats 1000000 in
theorem bounds9_any (c : Cl) (p : Int) (w : World) :
    Calls Tryz.prog 205 #[clV c, .int .i64 p] w fun e w' => e = .returned (.tuple #[.int .i64 (bnd c p).1, .int .i64 (bnd c p).2]) ∧ Below w.heap.size w w' := by
  obtain ⟨w0, hw0⟩ : ∃ W, W = w.alloc (.cells #[.int .i64 c.k, .int .i64 c.tf, .int .i64 c.tt, .int .i64 c.hf, .int .i64 c.ht, .int .i64 c.fi, .int .i64 c.t0, .int .i64 c.t1, .int .i64 c.t2, .bool c.t3] 133) := ⟨_, rfl⟩
  have HW0 : Hid (w0 = _) := hw0
  have HB0 : Hid (Below w.heap.size w w0) := by rw [hw0]; exact made_below _ _ _
  have hA : At w0 w.heap.size (clC c).toArray 133 := by rw [hw0]; exact At.made w (clC c).toArray _
  obtain ⟨c0, c1, c2, c3, c4, c5, c6, c7, c8, c9⟩ := hA.ten
  clear hw0 hA
  unfold clV
  go_enter Tryz.func205, Tryz.ntmps205
  by_cases h1 : p = 1
  · subst h1
    go_wp2_with (rw [← HW0.out])
    go_quiet (fail)
    go_wp2_with fail
    go_ret2
    exact ⟨rfl, bstep HB0.out (Below.drewN (Below.refl _ _) _)⟩
  · have h1' : (p == 1) = false := by rw [beq_eq_false_iff_ne]; exact h1
    by_cases h2 : p = 2
    · subst h2
      go_wp2_with (rw [← HW0.out])
      go_quiet (fail)
      go_wp2_with fail
      go_ret2
      exact ⟨rfl, bstep HB0.out (Below.drewN (Below.refl _ _) _)⟩
    · have h2' : (p == 2) = false := by rw [beq_eq_false_iff_ne]; exact h2
      have HR : Hid (bnd c p = if c.k = 2 then (c.fi, c.hf) else (0, 0)) := by show _ = _; unfold bnd; rw [if_neg h1, if_neg h2]
      clear h1 h2
      by_cases hk : c.k = 2
      · have hk' : (c.k == 2) = true := by rw [hk]; rfl
        have HR2 : Hid (bnd c p = (c.fi, c.hf)) := by show _ = _; rw [HR.out, if_pos hk]
        clear hk
        go_wp2_with (rw [← HW0.out])
        go_quiet (fail)
        go_wp2_with fail
        go_ret2
        exact ⟨by rw [HR2.out]; rfl, bstep HB0.out (Below.drewN (Below.refl _ _) _)⟩
      · have hk' : (c.k == 2) = false := by rw [beq_eq_false_iff_ne]; exact hk
        have HR2 : Hid (bnd c p = (0, 0)) := by show _ = _; rw [HR.out, if_neg hk]
        clear hk
        go_wp2_with (rw [← HW0.out])
        go_ret2
        exact ⟨by rw [HR2.out]; rfl, HB0.out⟩

set_option maxHeartbeats 1000000 in
theorem rmeet_any (a : Cl) (p : Int) (b : Cl) (q : Int) (w : World) :
    Calls Tryz.prog 204 #[clV a, .int .i64 p, clV b, .int .i64 q] w fun e w' => e = .returned (.bool (rmeetB a p b q)) ∧ Below w.heap.size w w' := by
  obtain ⟨w0, hw0⟩ : ∃ W, W = (w.alloc (.cells #[.int .i64 a.k, .int .i64 a.tf, .int .i64 a.tt, .int .i64 a.hf, .int .i64 a.ht, .int .i64 a.fi, .int .i64 a.t0, .int .i64 a.t1, .int .i64 a.t2, .bool a.t3] 133)).alloc (.cells #[.int .i64 b.k, .int .i64 b.tf, .int .i64 b.tt, .int .i64 b.hf, .int .i64 b.ht, .int .i64 b.fi, .int .i64 b.t0, .int .i64 b.t1, .int .i64 b.t2, .bool b.t3] 133) := ⟨_, rfl⟩
  have HW0 : Hid (w0 = _) := hw0
  have HB0 : Hid (Below w.heap.size w w0) := by rw [hw0]; exact bbox (made_below _ _ _) _
  have hA : At w0 w.heap.size (clC a).toArray 133 := by rw [hw0]; exact (At.made w (clC a).toArray _).next _
  have hA2 : At w0 (w.heap.size + 1) (clC b).toArray 133 := by
    rw [hw0]; exact At.made2 w _ (clC b).toArray 133
  have HK : Hid (∀ W, Below w0.heap.size w0 W → Ten W w.heap.size 0 a ∧ Ten W (w.heap.size + 1) 0 b) := fun W hW => ⟨(hA.later hW).ten, (hA2.later hW).ten⟩
  obtain ⟨⟨c0, c1, c2, c3, c4, c5, c6, c7, c8, c9⟩, _⟩ := HK.out w0 (Below.refl _ _)
  have HBo : Hid (∀ W, Calls Tryz.prog 205 #[.agg #[.int .i64 a.k, .int .i64 a.tf, .int .i64 a.tt, .int .i64 a.hf, .int .i64 a.ht, .int .i64 a.fi, .int .i64 a.t0, .int .i64 a.t1, .int .i64 a.t2, .bool a.t3], .int .i64 p] W fun e w' => e = .returned (.tuple #[.int .i64 (bnd a p).1, .int .i64 (bnd a p).2]) ∧ Below W.heap.size W w') := fun W => bounds9_any a p W
  have HBo2 : Hid (∀ W, Calls Tryz.prog 205 #[.agg #[.int .i64 b.k, .int .i64 b.tf, .int .i64 b.tt, .int .i64 b.hf, .int .i64 b.ht, .int .i64 b.fi, .int .i64 b.t0, .int .i64 b.t1, .int .i64 b.t2, .bool b.t3], .int .i64 q] W fun e w' => e = .returned (.tuple #[.int .i64 (bnd b q).1, .int .i64 (bnd b q).2]) ∧ Below W.heap.size W w') := fun W => bounds9_any b q W
  have HR : Hid (rmeetB a p b q = (decide ((bnd a p).1 < (bnd b q).2) && decide ((bnd b q).1 < (bnd a p).2) && decide ((bnd a p).1 < (bnd a p).2) && decide ((bnd b q).1 < (bnd b q).2))) := rfl
  clear hw0 hA hA2
  unfold clV
  go_enter Tryz.func204, Tryz.ntmps204
  go_wp2_with (rw [← HW0.out])
  refine (HBo.out _).mono ?_
  rintro e w1 ⟨rfl, hb1⟩
  clear c0 c1 c2 c3 c4 c5 c6 c7 c8 c9
  obtain ⟨_, ⟨d0, d1, d2, d3, d4, d5, d6, d7, d8, d9⟩⟩ := HK.out w1 hb1
  have HB1 : Hid (Below w.heap.size w w1) := bstep HB0.out hb1
  clear hb1
  go_wp2_with fail
  refine (HBo2.out _).mono ?_
  rintro e w2 ⟨rfl, hb2⟩
  have HB2 : Hid (Below w.heap.size w w2) := bstep HB1.out hb2
  clear hb2 d0 d1 d2 d3 d4 d5 d6 d7 d8 d9 HBo HBo2
  generalize (bnd a p).1 = x at *
  generalize (bnd a p).2 = y at *
  generalize (bnd b q).1 = x' at *
  generalize (bnd b q).2 = y' at *
  go_wp2_with fail
  all_goals go_ret
  all_goals refine ⟨ret_bool ?_, HB2.out⟩
  all_goals (rw [HR.out]; simp_all; try omega)

set_option maxHeartbeats 1000000 in
theorem rwithin_any (a : Cl) (p : Int) (b : Cl) (q : Int) (w : World) :
    Calls Tryz.prog 206 #[clV a, .int .i64 p, clV b, .int .i64 q] w fun e w' => e = .returned (.bool (rwithinB a p b q)) ∧ Below w.heap.size w w' := by
  obtain ⟨w0, hw0⟩ : ∃ W, W = (w.alloc (.cells #[.int .i64 a.k, .int .i64 a.tf, .int .i64 a.tt, .int .i64 a.hf, .int .i64 a.ht, .int .i64 a.fi, .int .i64 a.t0, .int .i64 a.t1, .int .i64 a.t2, .bool a.t3] 133)).alloc (.cells #[.int .i64 b.k, .int .i64 b.tf, .int .i64 b.tt, .int .i64 b.hf, .int .i64 b.ht, .int .i64 b.fi, .int .i64 b.t0, .int .i64 b.t1, .int .i64 b.t2, .bool b.t3] 133) := ⟨_, rfl⟩
  have HW0 : Hid (w0 = _) := hw0
  have HB0 : Hid (Below w.heap.size w w0) := by rw [hw0]; exact bbox (made_below _ _ _) _
  have hA : At w0 w.heap.size (clC a).toArray 133 := by rw [hw0]; exact (At.made w (clC a).toArray _).next _
  have hA2 : At w0 (w.heap.size + 1) (clC b).toArray 133 := by
    rw [hw0]; exact At.made2 w _ (clC b).toArray 133
  have HK : Hid (∀ W, Below w0.heap.size w0 W → Ten W w.heap.size 0 a ∧ Ten W (w.heap.size + 1) 0 b) := fun W hW => ⟨(hA.later hW).ten, (hA2.later hW).ten⟩
  obtain ⟨⟨c0, c1, c2, c3, c4, c5, c6, c7, c8, c9⟩, _⟩ := HK.out w0 (Below.refl _ _)
  have HBo : Hid (∀ W, Calls Tryz.prog 205 #[.agg #[.int .i64 a.k, .int .i64 a.tf, .int .i64 a.tt, .int .i64 a.hf, .int .i64 a.ht, .int .i64 a.fi, .int .i64 a.t0, .int .i64 a.t1, .int .i64 a.t2, .bool a.t3], .int .i64 p] W fun e w' => e = .returned (.tuple #[.int .i64 (bnd a p).1, .int .i64 (bnd a p).2]) ∧ Below W.heap.size W w') := fun W => bounds9_any a p W
  have HBo2 : Hid (∀ W, Calls Tryz.prog 205 #[.agg #[.int .i64 b.k, .int .i64 b.tf, .int .i64 b.tt, .int .i64 b.hf, .int .i64 b.ht, .int .i64 b.fi, .int .i64 b.t0, .int .i64 b.t1, .int .i64 b.t2, .bool b.t3], .int .i64 q] W fun e w' => e = .returned (.tuple #[.int .i64 (bnd b q).1, .int .i64 (bnd b q).2]) ∧ Below W.heap.size W w') := fun W => bounds9_any b q W
  have HR : Hid (rwithinB a p b q = if (bnd a p).1 = 0 ∧ (bnd a p).2 = 0 then true else decide ((bnd b q).1 ≤ (bnd a p).1) && decide ((bnd a p).2 ≤ (bnd b q).2) && (decide ((bnd b q).1 < (bnd a p).1) || decide ((bnd a p).2 < (bnd b q).2))) := rfl
  clear hw0 hA hA2
  unfold clV
  go_enter Tryz.func206, Tryz.ntmps206
  go_wp2_with (rw [← HW0.out])
  refine (HBo.out _).mono ?_
  rintro e w1 ⟨rfl, hb1⟩
  clear c0 c1 c2 c3 c4 c5 c6 c7 c8 c9
  obtain ⟨_, ⟨d0, d1, d2, d3, d4, d5, d6, d7, d8, d9⟩⟩ := HK.out w1 hb1
  have HB1 : Hid (Below w.heap.size w w1) := bstep HB0.out hb1
  clear hb1
  go_wp2_with fail
  refine (HBo2.out _).mono ?_
  rintro e w2 ⟨rfl, hb2⟩
  have HB2 : Hid (Below w.heap.size w w2) := bstep HB1.out hb2
  clear hb2 d0 d1 d2 d3 d4 d5 d6 d7 d8 d9 HBo HBo2
  generalize (bnd a p).1 = x at *
  generalize (bnd a p).2 = y at *
  generalize (bnd b q).1 = x' at *
  generalize (bnd b q).2 = y' at *
  go_wp2_with fail
  all_goals go_ret
  all_goals refine ⟨ret_bool ?_, HB2.out⟩
  all_goals (rw [HR.out]; simp_all; try omega)

end Go.Proofs.YtclmafoelibihaaGreat
