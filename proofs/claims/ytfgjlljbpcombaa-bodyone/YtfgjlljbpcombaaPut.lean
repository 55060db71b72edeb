
/- Put of layer 1 and of the references. -/
import Derived.Test.YtfgjlljbpcombaaRefPack
namespace Go.Proofs.Ytfgjlljbpcombaa
set_option linter.unusedVariables false
set_option linter.unusedSimpArgs false
open Go.RowKit

/-- A number's bytes, so many, the lowest first. -/
def leL (x n : Nat) : List UInt8 := (List.range n).map fun k => UInt8.ofNat (x / 2 ^ (8 * k))
theorem leL_length (x n : Nat) : (leL x n).length = n := by simp [leL]
theorem leL_get (x n k : Nat) (h : k < (leL x n).length) : ((leL x n)[k].toNat : Int) = (x : Int) / 2 ^ (8 * k) % 256 := by
  simp [leL]
theorem leL_succ (x n : Nat) : leL x (n + 1) = leL x n ++ [UInt8.ofNat (x / 2 ^ (8 * n))] := by simp [leL, List.range_succ]

theorem leN_leL (x : Nat) : ∀ n, leN (leL x n) = x % 256 ^ n := by
  intro n
  induction n with
  | zero => simp [leL, leN, Nat.mod_one]
  | succ n ih =>
    rw [leL_succ, leN_snoc, ih, leL_length]
    have : (UInt8.ofNat (x / 2 ^ (8 * n))).toNat = x / 256 ^ n % 256 := by rw [pow256]; simp
    rw [this, Nat.pow_succ, Nat.mod_mul]

set_option maxRecDepth 100000 in
set_option maxHeartbeats 1000000 in
theorem put_yes {v : Value} {bs : List UInt8} {w : World} (hv : Bs w v bs) (hb : bs.length ≤ 281474976710600) (x n : Nat) (hx : x < 18446744073709551616) (hw : wideB (n : Int) = true) (hn1 : 1 ≤ n) (hn8 : n ≤ 8) :
    Calls Try.prog 33 #[v, .int .u64 (x : Int), .int .i64 (n : Int)] w fun e w' => e = .returned (.tuple #[.slice (some ⟨w.heap.size, 0, none⟩) (bs.length + n) (bs.length + n), .int .i64 0]) ∧
      w' = w.alloc (.cells (u8s (bs ++ leL x n)).toArray 5) := by
  have HE : Hid (Calls Try.prog 36 #[v, .int .i64 (n : Int)] w fun e w' => e = .returned (.slice (some ⟨w.heap.size, 0, none⟩) (bs.length + n) (bs.length + n)) ∧ w' = w.alloc (.cells (u8s (ext bs n)).toArray 5)) := extend_any hv n (by omega)
  obtain ⟨a, cap, rfl, h1, h2, h3⟩ := hv
  clear h3
  have hzl := leL_length x n
  go_enter Try.func33, Try.ntmps33
  go_wp2_with fail
  refine (isWidth_any _ _).mono ?_
  rintro e wz ⟨rfl, hz'⟩
  subst wz
  go_wp2_with fail
  refine HE.out.mono ?_
  rintro e wz ⟨rfl, hz'⟩
  subst wz
  clear HE
  go_wp2_with fail
  go_loopw [17] (fun i wr => ∃ (k : Nat) (C : Array Value), k ≤ n ∧ i = .int .i64 k ∧ wr = w.alloc (.cells C 5) ∧ C = (u8s (puts bs (leL x n) k)).toArray) (fun i _ => n - (intOf i).toNat)
  case atStart => exact ⟨0, _, Nat.zero_le _, rfl, rfl, by rw [puts_zero, leL_length]⟩
  case round =>
    obtain ⟨k, C, hk, rfl, rfl, hC⟩ := hrel
    by_cases hkn : k < n
    · have hcell : ∃ x : Int, C[bs.length + k]? = some (.int .u8 x) := ⟨_, by rw [hC]; exact u8s_at _ _ (by rw [puts_length bs (leL x n) k (by omega)]; omega)⟩
      obtain ⟨y, hcell⟩ := hcell
      have HC : Hid (C.setIfInBounds (bs.length + k) (.int .u8 ((x : Int) / 2 ^ (8 * k) % 256)) = (u8s (puts bs (leL x n) (k + 1))).toArray) := by
        show _ = _
        rw [hC, u8s_set _ _ _ _ (leL_get x n k (by omega)).symm, puts_succ]
      clear hC
      go_wp2
      go_roundw
      case rel => exact ⟨k + 1, _, by omega, by go_num, rfl, HC.out⟩
      case measure => simp [intOf]; omega
    · have hkk : k = n := by omega
      subst hkk
      have HC : Hid (C = (u8s (bs ++ leL x k)).toArray) := by show _ = _; rw [hC, ← puts_all bs (leL x k), leL_length]
      clear hC
      go_wp2
      go_ret2
      exact ⟨rfl, by rw [HC.out]⟩

theorem put_no (v : Value) (x : Int) (n : Int) (w : World) (hw : wideB n = false) :
    Calls Try.prog 33 #[v, .int .u64 x, .int .i64 n] w fun e w' => e = .returned (.tuple #[.slice none 0 0, .int .i64 17]) ∧ w' = w := by
  go_enter Try.func33, Try.ntmps33
  go_wp2_with fail
  refine (isWidth_any _ _).mono ?_
  rintro e wz ⟨rfl, hz'⟩
  subst wz
  go_wp2
  go_ret2
  exact ⟨rfl, rfl⟩

set_option maxRecDepth 100000 in
set_option maxHeartbeats 1000000 in
theorem refPut_any (x n : Nat) (hx : x < 18446744073709551616) (hn : n ≤ 8) (w : World) :
    Calls Try.prog 23 #[.int .u64 (x : Int), .int .i64 (n : Int)] w fun e w' => ∃ v, e = .returned v ∧ Own w' w.heap.size 5 v (leL x n) ∧ Below w.heap.size w w' := by
  go_enter Try.func23, Try.ntmps23
  go_wp2
  go_loopw [0, 5, 6] (fun y o i wr => ∃ k : Nat, k ≤ n ∧ i = .int .i64 k ∧ y = .int .u64 ((x / 256 ^ k : Nat) : Int) ∧ Own wr w.heap.size 5 o (leL x k) ∧ Below w.heap.size w wr) (fun _ _ i _ => n - (intOf i).toNat)
  case atStart => exact ⟨0, Nat.zero_le _, rfl, by simp, Own.nil _ _ _, Below.refl _ _⟩
  case round =>
    obtain ⟨k, hk, rfl, rfl, ho, hb⟩ := hrel
    have HO : Hid (Own wr w.heap.size 5 u5 (leL x k)) := ho
    have HB : Hid (Below w.heap.size w wr) := hb
    have hsw := hb.size
    clear ho hb
    by_cases hkn : k < n
    · have HL : Hid (leL x (k + 1) = leL x k ++ [UInt8.ofNat (x / 256 ^ k)]) := by show _ = _; rw [leL_succ, pow256]
      have HQ : Hid (x / 256 ^ (k + 1) = x / 256 ^ k / 256) := by show _ = _; rw [Nat.pow_succ, Nat.div_div_eq_div_mul]
      have hlk := leL_length x k
      have hq : x / 256 ^ k < 18446744073709551616 := Nat.lt_of_le_of_lt (Nat.div_le_self _ _) hx
      generalize x / 256 ^ k = q at *
      go_wp2_with (at_builtin; go_must (refine wpList_append_bs rfl _ _ _ rfl w.heap.size 5 Try.underlying22 Try.infoU8 rfl rfl (HO.out.later ((Below.refl _ _).alloc (Nat.le_refl _) _)) (bs_lit wr [UInt8.ofNat q] _ _ _ (by simp [u8s]) rfl (by simp [maxLen])) (by simp [hlk]; omega) (by simp; omega) ?_; intro v2 w2 ho2 hg2))
      have hb2 : Below w.heap.size wr w2 := ((Below.refl _ _).alloc (by omega) _).grown hg2 (by simp; omega) (fun k hk => (HO.out.block k hk).1)
      go_roundw
      case rel => exact ⟨k + 1, by omega, by go_num, by rw [HQ.out]; go_num, by rw [HL.out]; exact ho2, HB.out.trans hb2⟩
      case measure => simp [intOf]; omega
    · have hkk : k = n := by omega
      subst hkk
      go_wp2
      go_ret
      exact ⟨_, rfl, HO.out, HB.out⟩

end Go.Proofs.Ytfgjlljbpcombaa
