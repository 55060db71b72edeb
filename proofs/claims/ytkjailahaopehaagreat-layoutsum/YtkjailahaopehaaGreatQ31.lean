/- Texts joined: RefName6, RefOf6, RefFits6, RefOwn10. -/
import Derived.Test.YtkjailahaopehaaGreatQ30
import Derived.Laws.DeepStrings4
import Derived.Deep.RegionHeld3
import Derived.Deep.RegionLaw
import Derived.Test.YtkjailahaopehaaGreatQ06
import Derived.Test.YtkjailahaopehaaGreatQ20
namespace Go.Proofs.YtkjailahaopehaaGreat
set_option linter.unusedVariables false
set_option linter.unusedSimpArgs false
open Go.RowKit
/-- All names, a blank behind each. -/
def namesL : List UInt8 := [
 110, 111, 112, 32, 108, 100, 97, 114, 103, 32, 115, 116, 97, 114, 103, 32, 108, 100, 97, 114, 103, 97, 32, 108, 100, 108, 111, 99, 32, 115, 116, 108,
 111, 99, 32, 108, 100, 108, 111, 99, 97, 32, 108, 100, 99, 52, 32, 108, 100, 99, 56, 32, 108, 100, 110, 117, 108, 108, 32, 100, 117, 112, 32, 112,
 111, 112, 32, 97, 100, 100, 32, 115, 117, 98, 32, 109, 117, 108, 32, 100, 105, 118, 32, 114, 101, 109, 32, 97, 110, 100, 32, 111, 114, 32, 120, 111,
 114, 32, 115, 104, 108, 32, 115, 104, 114, 32, 110, 101, 103, 32, 110, 111, 116, 32, 97, 100, 100, 111, 118, 102, 32, 115, 117, 98, 111, 118, 102, 32,
 109, 117, 108, 111, 118, 102, 32, 99, 111, 110, 118, 52, 32, 99, 111, 110, 118, 56, 32, 99, 111, 110, 118, 111, 118, 102, 52, 32, 99, 101, 113, 32,
 99, 103, 116, 32, 99, 108, 116, 32, 98, 114, 32, 98, 114, 116, 114, 117, 101, 32, 98, 114, 102, 97, 108, 115, 101, 32, 98, 101, 113, 32, 98, 103, 101,
 32, 98, 103, 116, 32, 98, 108, 101, 32, 98, 108, 116, 32, 98, 110, 101, 32, 99, 97, 108, 108, 32, 99, 97, 108, 108, 118, 105, 114, 116, 32, 110, 101,
 119, 111, 98, 106, 32, 114, 101, 116, 32, 116, 97, 105, 108, 32, 108, 100, 102, 108, 100, 32, 115, 116, 102, 108, 100, 32, 108, 100, 102, 108, 100,
 97, 32, 108, 100, 115, 102, 108, 100, 32, 115, 116, 115, 102, 108, 100, 32, 108, 100, 115, 102, 108, 100, 97, 32, 108, 100, 111, 98, 106, 32, 115,
 116, 111, 98, 106, 32, 105, 110, 105, 116, 111, 98, 106, 32, 110, 101, 119, 97, 114, 114, 32, 108, 100, 108, 101, 110, 32, 108, 100, 101, 108, 101,
 109, 32, 115, 116, 101, 108, 101, 109, 32, 108, 100, 101, 108, 101, 109, 97, 32, 98, 111, 120, 32, 117, 110, 98, 111, 120, 32, 117, 110, 98, 111, 120,
 97, 110, 121, 32, 99, 97, 115, 116, 99, 108, 97, 115, 115, 32, 105, 115, 105, 110, 115, 116, 32, 108, 100, 102, 116, 110, 32, 110, 101, 119, 100, 101,
 108, 32, 116, 104, 114, 111, 119, 32, 114, 101, 116, 104, 114, 111, 119, 32, 108, 101, 97, 118, 101, 32, 101, 110, 100, 102, 105, 110, 97, 108, 108,
 121, 32, 101, 110, 100, 102, 105, 108, 116, 101, 114, 32, 105, 110, 32, 111, 117, 116, 32]
def namesB : ByteArray := ⟨namesL.toArray⟩
/-- What is left is right: the m-th name goes on with it, behind cur. -/
def chk : List UInt8 → Nat → List UInt8 → Bool
 | [], m, cur => m == 76
 | c :: l, m, cur => if c = 32 then (opI (m : Int)).1 == cur && decide (1 ≤ m ∧ m ≤ 75) && chk l (m + 1) [] else chk l m (cur ++ [c])
theorem names_chk : chk namesL 1 [] = true := by decide +kernel
theorem names_len : namesL.length = 433 := by decide +kernel
theorem namesB_get (k : Nat) (h : k < 433) (g : k < namesB.size) : namesB[k] = namesL[k]'(by rw [names_len]; exact h) := rfl
/-- From f up to k. -/
def nseg (f k : Nat) : List UInt8 := (namesL.drop f).take (k - f)
theorem nseg_next {f k : Nat} (hf : f ≤ k) (hk : k < 433) : nseg f (k + 1) = nseg f k ++ [namesL[k]'(by rw [names_len]; exact hk)] := by
 unfold nseg
 have hl := names_len
 rw [show k + 1 - f = (k - f) + 1 by omega, List.take_succ_eq_append_getElem (by simp; omega)]
 congr 2
 simp [show f + (k - f) = k by omega]
theorem nseg_nil (k : Nat) : nseg k k = [] := by simp [nseg]
theorem drop_next {k : Nat} (hk : k < 433) : namesL.drop k = (namesL[k]'(by rw [names_len]; exact hk)) :: namesL.drop (k + 1) := by
 rw [List.drop_eq_getElem_cons (by rw [names_len]; exact hk)]
theorem chk_space {k m : Nat} {cur : List UInt8} (hk : k < 433) (h : chk (namesL.drop k) m cur = true) (hc : (namesL[k]'(by rw [names_len]; exact hk)) = 32) : (opI (m : Int)).1 = cur ∧ 1 ≤ m ∧ m ≤ 75 ∧ chk (namesL.drop (k + 1)) (m + 1) [] = true := by
 rw [drop_next hk] at h
 unfold chk at h
 rw [if_pos hc] at h
 simp only [Bool.and_eq_true, beq_iff_eq, decide_eq_true_eq] at h
 exact ⟨h.1.1, h.1.2.1, h.1.2.2, h.2⟩
theorem chk_sign {k m : Nat} {cur : List UInt8} (hk : k < 433) (h : chk (namesL.drop k) m cur = true) (hc : ¬ (namesL[k]'(by rw [names_len]; exact hk)) = 32) : chk (namesL.drop (k + 1)) m (cur ++ [namesL[k]'(by rw [names_len]; exact hk)]) = true := by
 rw [drop_next hk] at h
 unfold chk at h
 rw [if_neg hc] at h
 exact h
theorem chk_end {m : Nat} {cur : List UInt8} (h : chk (namesL.drop 433) m cur = true) : m = 76 := by
 rw [List.drop_of_length_le (by rw [names_len]; exact Nat.le_refl _)] at h
 simpa [chk] using h

theorem names6_yes {k : Nat} (hlt : k < 433) (g : k < namesB.size) (h : (((namesB[k]'g).toNat : Int) == 32) = true) : (namesL[k]'(by rw [names_len]; exact hlt)) = 32 := by
 rw [namesB_get k hlt g] at h
 exact UInt8.toNat_inj.1 (by simp at h ⊢; omega)
theorem names6_no {k : Nat} (hlt : k < 433) (g : k < namesB.size) (h : (((namesB[k]'g).toNat : Int) == 32) = false) : ¬ (namesL[k]'(by rw [names_len]; exact hlt)) = 32 := by
 rw [namesB_get k hlt g] at h
 intro e
 rw [e] at h
 simp at h
theorem names_cut {f k m : Nat} (hf : f ≤ k) (h : (opI (m : Int)).1 = nseg f k) : namesB.extract f k = opS (m : Int) := by
 unfold opS
 rw [h]
 apply ByteArray.ext
 rw [ByteArray.data_extract]
 apply Array.ext'
 simp [namesB, nseg]
theorem ret_txt {a b : ByteArray} (h : a = b) : Ending.returned (.string a) = .returned (.string b) := by rw [h]

set_option maxHeartbeats 1000000 in
set_option maxRecDepth 1000000 in
theorem refOpName_any (n : Int) (w : World) :
  Calls Tryz.prog 177 #[.int .i64 n] w fun e w' => e = .returned (.string (opS n)) ∧ w' = w := by
 go_enter Tryz.func177, Tryz.ntmps177
 go_wp2_with fail
 go_loop [3, 4, 5] (fun m f i => ∃ k m' f' : Nat, k ≤ 433 ∧ i = .int .i64 (k : Int) ∧ m = .int .i64 (m' : Int) ∧ f = .int .i64 (f' : Int) ∧ f' ≤ k ∧ m' ≤ k + 1 ∧ Hid (chk (namesL.drop k) m' (nseg f' k) = true ∧ ¬ (1 ≤ n ∧ n < (m' : Int)))) (fun _ _ i => 433 - (intOf i).toNat)
 case atStart => exact ⟨0, 1, 0, by omega, by go_num, by go_num, by go_num, by omega, by omega, ⟨names_chk, by omega⟩⟩
 case round =>
  obtain ⟨k, m', f', hk, rfl, rfl, rfl, hf, hm, HC⟩ := hrel
  by_cases hlt : k < 433
  ·have hkB : k < namesB.size := hlt
   by_cases hmn : (m' : Int) = n
   ·subst hmn
    go_wp2_with fail
    ·rename_i hs0 _ _ _
     have hsp := names6_yes hlt hkB hs0
     clear hs0
     obtain ⟨c1, c2, c3, c4⟩ := chk_space hlt HC.out.1 hsp
     go_ret
     exact ⟨ret_txt (names_cut hf c1), rfl⟩
    ·rename_i hs0
     have hsp := names6_no hlt hkB hs0
     clear hs0
     go_round
     case rel => exact ⟨k + 1, m', f', by omega, by go_num, rfl, rfl, by omega, by omega, ⟨by rw [nseg_next hf hlt]; exact chk_sign hlt HC.out.1 hsp, HC.out.2⟩⟩
     case measure => simp [intOf]; omega
   ·have hmn2 : ((m' : Int) == n) = false := by simpa using hmn
    have HN : Hid (¬ (1 ≤ n ∧ n < ((m' + 1 : Nat) : Int))) := by have := HC.out.2; show ¬ _; omega
    clear hmn
    go_wp2_with fail
    ·rename_i hs0
     have hsp := names6_yes hlt hkB hs0
     clear hs0
     obtain ⟨c1, c2, c3, c4⟩ := chk_space hlt HC.out.1 hsp
     go_round
     case rel => exact ⟨k + 1, m' + 1, k + 1, by omega, by go_num, by go_num, by go_num, by omega, by omega, ⟨by rw [nseg_nil]; exact c4, HN.out⟩⟩
     case measure => simp [intOf]; omega
    ·rename_i hs0
     have hsp := names6_no hlt hkB hs0
     clear hs0
     go_round
     case rel => exact ⟨k + 1, m', f', by omega, by go_num, rfl, rfl, by omega, by omega, ⟨by rw [nseg_next hf hlt]; exact chk_sign hlt HC.out.1 hsp, HC.out.2⟩⟩
     case measure => simp [intOf]; omega
  ·have e : k = 433 := by omega
   subst e
   go_wp2_with fail
   go_ret
   have h76 := chk_end HC.out.1
   have := HC.out.2
   exact ⟨ret_txt (opS_out (by omega)).symm, rfl⟩
/-- The digits of operands and ways. -/
def digP : ByteArray := ⟨List.toArray (48 :: 52 :: 52 :: 52 :: 51 :: 51 :: 51 :: 49 :: 50 :: 48 :: 48 :: 48 :: 48 :: 48 :: 48 :: 48 :: 48 :: 48 :: 48 :: 48 :: 48 :: 48 :: 48 :: 48 :: 48 :: 48 :: 48 :: 48 :: 48 :: 48 :: 48 :: 48 :: 48 :: 53 :: 53 :: 53 :: 53 :: 53 :: 53 :: 53 :: 53 :: 53 :: 54 :: 54 :: 54 :: 48 :: 48 :: 55 :: 55 :: 55 :: 55 :: 55 :: 55 :: 56 :: 56 :: 56 :: 56 :: 48 :: 56 :: 56 :: 56 :: 56 :: 56 :: 56 :: 56 :: 56 :: 54 :: 56 :: 48 :: 48 :: 53 :: 48 :: 48 :: 48 :: 48 :: [])⟩
def digW : ByteArray := ⟨List.toArray (48 :: 48 :: 48 :: 48 :: 48 :: 48 :: 48 :: 48 :: 48 :: 48 :: 48 :: 48 :: 48 :: 48 :: 48 :: 48 :: 48 :: 48 :: 48 :: 48 :: 48 :: 48 :: 48 :: 48 :: 48 :: 48 :: 48 :: 48 :: 48 :: 48 :: 48 :: 48 :: 48 :: 49 :: 50 :: 50 :: 50 :: 50 :: 50 :: 50 :: 50 :: 50 :: 48 :: 48 :: 48 :: 51 :: 48 :: 48 :: 48 :: 48 :: 48 :: 48 :: 48 :: 48 :: 48 :: 48 :: 48 :: 48 :: 48 :: 48 :: 48 :: 48 :: 48 :: 48 :: 48 :: 48 :: 48 :: 48 :: 51 :: 51 :: 52 :: 53 :: 53 :: 48 :: 48 :: [])⟩
theorem digP_all : ∀ k : Nat, k < 75 → ((digP.get! k).toNat : Int) = opP ((k : Int) + 1) + 48 ∧ 0 ≤ opP ((k : Int) + 1) ∧ opP ((k : Int) + 1) ≤ 8 := by decide +kernel
theorem digW_all : ∀ k : Nat, k < 75 → ((digW.get! k).toNat : Int) = opW ((k : Int) + 1) + 48 ∧ 0 ≤ opW ((k : Int) + 1) ∧ opW ((k : Int) + 1) ≤ 5 := by decide +kernel

theorem wrap_small {x : Int} (h0 : 0 ≤ x) (h1 : x < 256) : IntKind.u8.wrap x = x := by
 unfold IntKind.wrap
 simp [IntKind.bits, IntKind.signed]
 omega
theorem get_bang (d : ByteArray) (k : Nat) (h : k < d.size) : d.get! k = d[k]'h := by
 show d.data[k]! = d.data[k]'h
 exact getElem!_pos d.data k h
theorem digP_at (k : Nat) (hk : k < 75) (h : k < digP.size) : ((digP[k]'h).toNat : Int) = opP ((k : Int) + 1) + 48 := by rw [← get_bang]; exact (digP_all k hk).1
theorem digW_at (k : Nat) (hk : k < 75) (h : k < digW.size) : ((digW[k]'h).toNat : Int) = opW ((k : Int) + 1) + 48 := by rw [← get_bang]; exact (digW_all k hk).1

set_option maxHeartbeats 1000000 in
set_option maxRecDepth 100000 in
theorem refOf_in (k : Nat) (hk : k < 75) (w : World) :
  Calls Tryz.prog 153 #[.int .i64 ((k : Int) + 1)] w fun e w' => e = .returned (.tuple #[.agg #[.string (opS ((k : Int) + 1)), .int .i64 (opP ((k : Int) + 1)), .int .i64 (opW ((k : Int) + 1))], .int .i64 0]) ∧ Below w.heap.size w w' := by
 have hA0 := At.made w #[.string ⟨#[]⟩, .int .i64 0, .int .i64 0] 129
 have hb0 : Below w.heap.size w (w.alloc (.cells #[.string ⟨#[]⟩, .int .i64 0, .int .i64 0] 129)) := (Below.refl _ _).alloc (Nat.le_refl _) _
 have h1 : (0 : Int) ≤ (k : Int) := by omega
 have h2 : (k : Int) < 75 := by omega
 have hkw : IntKind.i64.wrap (k : Int) = (k : Int) := by rw [IntKind.wrap_i64]; omega
 have hp := digP_at k hk hk
 have hq := digW_at k hk hk
 unfold digP at hp
 unfold digW at hq
 obtain ⟨-, hp0, hp8⟩ := digP_all k hk
 obtain ⟨-, hw0, hw5⟩ := digW_all k hk
 generalize opP ((k : Int) + 1) = p at *
 generalize opW ((k : Int) + 1) = q at *
 have hpw : IntKind.u8.wrap p = p := wrap_small (by omega) (by omega)
 have hqw : IntKind.u8.wrap q = q := wrap_small (by omega) (by omega)
 have hpi : IntKind.i64.wrap p = p := by rw [IntKind.wrap_i64]; omega
 have hqi : IntKind.i64.wrap q = q := by rw [IntKind.wrap_i64]; omega
 go_enter Tryz.func153, Tryz.ntmps153
 go_wp2_with fail
 go_region_held3 (fun w' => True) (exact trivial)
  (first | (go_at_call 177; refine (refOpName_any _ _).mono ?_; rintro e wz ⟨rfl, hz⟩; subst wz))
 all_goals
  clear hp hq
  go_wp2
  refine bodyPost_ret (v := _) (by simp [results, Tryz.results153, go_sem]) rfl ⟨rfl, ?_⟩
  exact Below.drewN ((Below.refl _ _).alloc (Nat.le_refl _) _) 1

theorem refOf_out (n : Int) (h : ¬ (1 ≤ n ∧ n ≤ 75)) (w : World) :
  Calls Tryz.prog 153 #[.int .i64 n] w fun e w' => e = .returned (.tuple #[.agg #[.string ⟨#[]⟩, .int .i64 0, .int .i64 0], .int .i64 3]) ∧ Below w.heap.size w w' := by
 have hor : (decide (n < 1) || decide (75 < n)) = true := by simp; omega
 by_cases h1 : n < 1
 ·clear h hor
  go_enter Tryz.func153, Tryz.ntmps153
  go_wp2
  refine bodyPost_ret (v := _) (by simp [results, Tryz.results153, go_sem]) rfl ⟨rfl, ?_⟩
  exact (Below.refl _ _).alloc (Nat.le_refl _) _
 ·have h2 : 75 < n := by omega
  clear h hor
  go_enter Tryz.func153, Tryz.ntmps153
  go_wp2
  refine bodyPost_ret (v := _) (by simp [results, Tryz.results153, go_sem]) rfl ⟨rfl, ?_⟩
  exact (Below.refl _ _).alloc (Nat.le_refl _) _
theorem refOf_at (n : Int) (h1 : 1 ≤ n) (h2 : n ≤ 75) (w : World) :
  Calls Tryz.prog 153 #[.int .i64 n] w fun e w' => e = .returned (.tuple #[.agg #[.string (opS n), .int .i64 (opP n), .int .i64 (opW n)], .int .i64 0]) ∧ Below w.heap.size w w' := by
 have := refOf_in (n - 1).toNat (by omega) w
 rw [show ((n - 1).toNat : Int) + 1 = n by omega] at this
 exact this

set_option maxHeartbeats 2000000 in
theorem refFits6_any (op n k i d : Int) (r : Bool) (w : World) :
  Calls Tryz.prog 152 #[.agg #[.int .i64 op, .int .i64 n, .int .i64 k, .int .i64 i, .int .i64 d, .bool r]] w fun e w' => e = .returned (.int .i64 (fitE op n k i d r)) ∧ Below w.heap.size w w' := by
 have hb0 : Below w.heap.size w (w.alloc (.cells #[.int .i64 op, .int .i64 n, .int .i64 k, .int .i64 i, .int .i64 d, .bool r] 85)) := (Below.refl _ _).alloc (Nat.le_refl _) _
 have hA0 := At.made w #[.int .i64 op, .int .i64 n, .int .i64 k, .int .i64 i, .int .i64 d, .bool r] 85
 have hz : ∀ W : World, (binOp .eql 37 (.agg #[.int .i64 k, .int .i64 i, .int .i64 d, .bool r]) (.agg #[.int .i64 0, .int .i64 0, .int .i64 0, .bool false])).run Tryz.prog W = .ok (.bool (zeroB k i d r)) W := fun W => by
  rw [eq_ty]; cases r <;> rfl
 by_cases hin : 1 ≤ op ∧ op ≤ 75
 ·obtain ⟨h1, h2⟩ := hin
  have HE : Hid (fitE op n k i d r = if fitB (opP op) n k i d r = true then 0 else 17) := by show _ = _; unfold fitE; rw [if_pos ⟨h1, h2⟩]
  go_enter Tryz.func152, Tryz.ntmps152
  go_wp2_with fail
  refine (refOf_at op h1 h2 _).mono ?_
  rintro e w1 ⟨rfl, hb⟩
  have hA := hA0.later hb
  have hB := hb0.trans (hb.mono hb0.size)
  have hbx : Below w1.heap.size w1 (w1.alloc (.cells #[.string (opS op), .int .i64 (opP op), .int .i64 (opW op)] 129)) := (Below.refl _ _).alloc (Nat.le_refl _) _
  have hA2 := hA.later hbx
  have hB2 := hB.trans (hbx.mono hB.size)
  have hX := At.made w1 #[.string (opS op), .int .i64 (opP op), .int .i64 (opW op)] 129
  have tc := hA2.cell
  have xc := hX.cell
  clear hb hb0 hA hA0 hB hbx h1 h2
  generalize opP op = p at *
  generalize opW op = q at *
  generalize opS op = s at *
  go_wp2_with fail
  refine (most_any p _).mono ?_
  rintro e wz ⟨rfl, hw⟩
  subst wz
  by_cases hlo : n < bLo p
  ·have HN : Hid (fitE op n k i d r = 17) := by
    show _ = _; rw [HE.out, if_neg]; unfold fitB; simp; intro a; omega
   clear HE
   by_cases hhi : bHi p < n
   ·go_wp2_with fail
    go_ret
    exact ⟨ret_int HN.out.symm, hB2⟩
   ·go_wp2_with fail
    go_ret
    exact ⟨ret_int HN.out.symm, hB2⟩
  ·by_cases hhi : bHi p < n
   ·have HN : Hid (fitE op n k i d r = 17) := by
     show _ = _; rw [HE.out, if_neg]; unfold fitB; simp; intro a b; omega
    clear HE
    go_wp2_with fail
    go_ret
    exact ⟨ret_int HN.out.symm, hB2⟩
   ·have HF : Hid (fitB p n k i d r = if p = 8 then mayB 1 k i d r else zeroB k i d r) := by
     show _ = _; unfold fitB; rw [decide_eq_true (by omega), decide_eq_true (by omega)]; rfl
    by_cases h8 : p = 8
    ·subst h8
     have HF8 : Hid (fitB 8 n k i d r = mayB 1 k i d r) := by show _ = _; rw [HF.out, if_pos rfl]
     clear HF
     go_wp2_with fail
     refine (where1_any k i d r _).mono ?_
     rintro e w2 ⟨rfl, hb⟩
     have hB3 := hB2.trans (hb.mono hB2.size)
     clear hb hB2 tc xc
     cases hm : mayB 1 k i d r with
     | false =>
      go_wp2_with fail
      go_ret
      exact ⟨ret_int (by rw [HE.out, HF8.out, hm]; rfl), hB3⟩
     | true =>
      go_wp2_with fail
      go_ret
      exact ⟨ret_int (by rw [HE.out, HF8.out, hm]; rfl), hB3⟩
    ·have h8' : (p == 8) = false := by simpa using h8
     have h8n : (p != 8) = true := by simpa using h8
     have HF8 : Hid (fitB p n k i d r = zeroB k i d r) := by show _ = _; rw [HF.out, if_neg h8]
     clear HF h8
     cases hm : zeroB k i d r with
     | false =>
      go_wp2_with fail
      go_ret
      exact ⟨ret_int (by rw [HE.out, HF8.out, hm]; rfl), hB2⟩
     | true =>
      go_wp2_with fail
      go_ret
      exact ⟨ret_int (by rw [HE.out, HF8.out, hm]; rfl), hB2⟩
 ·have HE : Hid (fitE op n k i d r = 3) := by show _ = _; unfold fitE; rw [if_neg hin]
  go_enter Tryz.func152, Tryz.ntmps152
  go_wp2_with fail
  refine (refOf_out op hin _).mono ?_
  rintro e w1 ⟨rfl, hb⟩
  have hB := hb0.trans (hb.mono hb0.size)
  have hbx : Below w1.heap.size w1 (w1.alloc (.cells #[.string ⟨#[]⟩, .int .i64 0, .int .i64 0] 129)) := (Below.refl _ _).alloc (Nat.le_refl _) _
  have hB2 := hB.trans (hbx.mono hB.size)
  clear hb hb0 hA0 hB hbx
  go_wp2_with fail
  go_ret
  exact ⟨ret_int HE.out.symm, hB2⟩
end Go.Proofs.YtkjailahaopehaaGreat

namespace Go.Proofs.YtkjailahaopehaaGreat
set_option linter.unusedVariables false
set_option linter.unusedSimpArgs false
open Go.RowKit
attribute [local go_sem ↓] Go.wp_at_zero Go.wp_at_succ
/-- May a type stand there, by its number, too? -/
def mB (p n : Nat) (t : Ty) : Bool := mayT p t && ownB n t
def rownB (n : Nat) (t : Ty) : Bool := (decide (t.1 ≠ 5) && decide (t.1 ≠ 6)) || decide (t.2.1 < n)
theorem rown_eq {p n : Nat} {t : Ty} (hp : p = 1 ∨ p = 2 ∨ p = 3) (h : mayT p t = true) : rownB n t = ownB n t := by
 have hpl : plainB t.1 t.2.1 t.2.2.1 t.2.2.2 = true := by
  unfold mayT mayB at h
  rcases hp with rfl | rfl | rfl
  ·rw [if_pos rfl] at h; simp only [Bool.and_eq_true] at h; exact h.1.1
  ·rw [if_neg (by decide), if_pos rfl] at h; simp only [Bool.and_eq_true] at h; exact h.1
  ·rw [if_neg (by decide), if_neg (by decide), if_pos rfl] at h; simp only [Bool.and_eq_true] at h; exact h.1
 have h0 : 0 ≤ t.2.1 := (plain_facts hpl).2.2.1
 unfold rownB ownB numB
 rw [Bool.eq_iff_iff]
 by_cases h5 : t.1 = 5 ∨ t.1 = 6
 ·rw [if_pos h5]; simp; omega
 ·rw [if_neg h5]; simp; omega
theorem mB_eq {p n : Nat} {t : Ty} (hp : p = 1 ∨ p = 2 ∨ p = 3) : (mayT p t && rownB n t) = mB p n t := by
 unfold mB
 cases h : mayT p t with
 | false => simp
 | true => rw [rown_eq hp h]

set_option maxHeartbeats 1000000 in
theorem refOwn_any (t : Ty) (n : Nat) (w : World) :
  Calls Tryz.prog 121 #[tv t, .int .i64 n] w fun e w' => e = .returned (.bool (rownB n t)) ∧ Below w.heap.size w w' := by
 obtain ⟨k, i, d, r⟩ := t
 unfold tv
 go_enter Tryz.func121, Tryz.ntmps121
 go_wp2
 all_goals go_ret
 all_goals refine ⟨ret_bool ?_, (Below.refl _ _).alloc (Nat.le_refl _) _⟩
 all_goals try simp only [bne_iff_ne, ne_eq, bne_eq_false_iff_eq, beq_iff_eq, beq_eq_false_iff_ne] at *
 all_goals (unfold rownB; rw [Bool.eq_iff_iff]; simp [*])

set_option maxHeartbeats 1000000 in
theorem refMay_any {p : Nat} (hp : p = 1 ∨ p = 2 ∨ p = 3) (t : Ty) (n : Nat) (w : World) :
  Calls Tryz.prog 80 #[tv t, .int .i64 p, .int .i64 n] w fun e w' => e = .returned (.bool (mB p n t)) ∧ Below w.heap.size w w' := by
 have HE : Hid ((mayT p t && rownB n t) = mB p n t) := mB_eq hp
 obtain ⟨k, i, d, r⟩ := t
 obtain ⟨w0, hw0⟩ : ∃ W, W = w.alloc (.cells #[.int .i64 k, .int .i64 i, .int .i64 d, .bool r] 37) := ⟨_, rfl⟩
 have HW0 : Hid (w0 = _) := hw0
 have hb0 : Below w.heap.size w w0 := by rw [hw0]; exact made_below _ _ _
 have HB0 : Hid (Below w.heap.size w w0) := hb0
 have hA : At w0 w.heap.size #[.int .i64 k, .int .i64 i, .int .i64 d, .bool r] 37 := by rw [hw0]; exact At.made w _ _
 have HA : Hid (∀ W, Below w0.heap.size w0 W → At W w.heap.size #[.int .i64 k, .int .i64 i, .int .i64 d, .bool r] 37) := fun W hW => hA.later hW
 have HWh : Hid (Calls Tryz.prog 120 #[.agg #[.int .i64 k, .int .i64 i, .int .i64 d, .bool r], .int .i64 p] w0 fun e w' => e = .returned (.bool (mayB p k i d r)) ∧ Below w0.heap.size w0 w') := by
  rcases hp with rfl | rfl | rfl
  ·exact where1_any k i d r w0
  ·exact where2_any k i d r w0
  ·exact where3_any k i d r w0
 have hc := hA.cell
 clear hw0 hb0 hA hp
 unfold tv
 go_enter Tryz.func80, Tryz.ntmps80
 go_wp2_with (rw [← HW0.out])
 refine Calls.mono HWh.out ?_
 rintro e w1 ⟨rfl, hb1⟩
 have HB1 : Hid (Below w0.heap.size w0 w1) := hb1
 have c1 := (HA.out w1 hb1).cell
 clear hb1 hc HWh
 cases hm : mayB p k i d r with
 | false =>
  go_wp2_with fail
  go_ret
  exact ⟨ret_bool (by rw [← HE.out]; unfold mayT; rw [hm]; rfl), bstep HB0.out HB1.out⟩
 | true =>
  have HO : Hid (Calls Tryz.prog 121 #[.agg #[.int .i64 k, .int .i64 i, .int .i64 d, .bool r], .int .i64 n] w1 fun e w' => e = .returned (.bool (rownB n (k, i, d, r))) ∧ Below w1.heap.size w1 w') := refOwn_any (k, i, d, r) n w1
  go_wp2_with fail
  refine Calls.mono HO.out ?_
  rintro e w2 ⟨rfl, hb2⟩
  have HB2 : Hid (Below w0.heap.size w0 w2) := bstep HB1.out hb2
  clear hb2 c1 HO
  go_wp2
  go_ret
  exact ⟨ret_bool (by rw [← HE.out]; unfold mayT; rw [hm]; rfl), bstep HB0.out HB2.out⟩

/-- The references' table of instructions: an operand's kind. -/
theorem refOf10_any (op : Int) (w : World) :
  Calls Tryz.prog 153 #[.int .i64 op] w fun e w' => ∃ s q z, e = .returned (.tuple #[.agg #[.string s, .int .i64 (opP op), .int .i64 q], .int .i64 z]) ∧ Below w.heap.size w w' := by
 by_cases hin : 1 ≤ op ∧ op ≤ 75
 ·exact (refOf_at op hin.1 hin.2 w).mono fun e w' ⟨he, hb⟩ => ⟨_, _, _, he, hb⟩
 ·refine (refOf_out op hin w).mono fun e w' ⟨he, hb⟩ => ⟨⟨#[]⟩, 0, 3, ?_, hb⟩
  rw [he, opP_out hin]
end Go.Proofs.YtkjailahaopehaaGreat
