
/- Put and Pack of layer 1. -/
import Derived.Test.YtcjoidhbhffcgaaRows
import Derived.Test.YtcjoidhbhffcgaaPacked
import Derived.Deep.RegionWith
namespace Go.Proofs.Ytcjoidhbhffcgaa
set_option linter.unusedVariables false
set_option linter.unusedSimpArgs false
open Go.RowKit

/-- Bytes that were put, one by one, behind others. -/
def puts (bs zs : List UInt8) (k : Nat) : List UInt8 := bs ++ (zs.take k ++ List.replicate (zs.length - k) 0)
theorem puts_length (bs zs : List UInt8) (k : Nat) (h : k ≤ zs.length) : (puts bs zs k).length = bs.length + zs.length := by simp [puts]; omega
theorem puts_zero (bs zs : List UInt8) : puts bs zs 0 = ext bs zs.length := by simp [puts, ext]
theorem puts_all (bs zs : List UInt8) : puts bs zs zs.length = bs ++ zs := by simp [puts]
theorem puts_succ (bs zs : List UInt8) (k : Nat) (h : k < zs.length) : (puts bs zs k).set (bs.length + k) zs[k] = puts bs zs (k + 1) := by
  unfold puts
  rw [List.set_append_right _ _ (by omega), List.set_append_right _ _ (by simp; omega)]
  simp only [List.length_take]
  rw [show bs.length + k - bs.length - min k zs.length = 0 by omega, show zs.length - k = (zs.length - (k + 1)) + 1 by omega, List.replicate_succ, List.set_cons_zero, List.take_succ_eq_append_getElem h]
  simp only [List.append_assoc, List.singleton_append]

theorem u8s_set (l : List UInt8) (i : Nat) (x : Int) (y : UInt8) (hx : x = (y.toNat : Int)) : (u8s l).toArray.setIfInBounds i (.int .u8 x) = (u8s (l.set i y)).toArray := by
  subst hx; simp [u8s]
theorem u8s_at (l : List UInt8) (i : Nat) (h : i < l.length) : (u8s l).toArray[i]? = some (.int .u8 (l[i].toNat : Int)) := by simp [u8s_get l i h]

/-- A number's bytes, so many, the highest first. -/
def beL (n s : Nat) : List UInt8 := (List.range s).map fun k => UInt8.ofNat (n / 2 ^ (8 * (s - 1 - k)))
theorem beL_length (n s : Nat) : (beL n s).length = s := by simp [beL]
theorem beL_get (n s k : Nat) (h : k < (beL n s).length) : ((beL n s)[k].toNat : Int) = (n : Int) / 2 ^ (8 * (s - 1 - k)) % 256 := by
  simp [beL]

set_option maxRecDepth 100000 in
set_option maxHeartbeats 1000000 in
theorem pack_yes {v : Value} {bs : List UInt8} {w : World} (hv : Bs w v bs) (hb : bs.length ≤ 281474976710600) (n s mk : Nat) (hs : sizeI (n : Int) = (s : Int)) (hs1 : 1 ≤ s) (hs4 : s ≤ 4) (hm : markI (s : Int) = (mk : Int))
    (z0 y0 : UInt8) (zr : List UInt8) (hz : beL n s = z0 :: zr) (hy : y0.toNat = z0.toNat + mk) :
    Calls Try.prog 50 #[v, .int .i64 (n : Int)] w fun e w' => e = .returned (.tuple #[.slice (some ⟨w.heap.size, 0, none⟩) (bs.length + s) (bs.length + s), .int .i64 0]) ∧
      ∃ m, w' = (w.alloc (.cells (u8s (bs ++ y0 :: zr)).toArray 5)).drewN m := by
  have HE : Hid (Calls Try.prog 55 #[v, .int .i64 (s : Int)] w fun e w' => e = .returned (.slice (some ⟨w.heap.size, 0, none⟩) (bs.length + s) (bs.length + s)) ∧ w' = w.alloc (.cells (u8s (ext bs s)).toArray 5)) := extend_any hv s (by omega)
  have hs0 : ((s : Int) == 0) = false := by rw [beq_eq_false_iff_ne]; omega
  obtain ⟨a, cap, rfl, h1, h2, h3⟩ := hv
  clear h3
  have hzl := beL_length n s
  have HZ : Hid (beL n s = z0 :: zr) := hz
  clear hz
  go_enter Try.func50, Try.ntmps50
  go_wp2_with fail
  refine (size_any _ _).mono ?_
  rintro e wz ⟨rfl, hz'⟩
  subst wz
  go_wp2_with fail
  refine HE.out.mono ?_
  rintro e wz ⟨rfl, hz'⟩
  subst wz
  clear HE
  go_wp2_with fail
  go_loopw [17] (fun i wr => ∃ (k : Nat) (C : Array Value), k ≤ s ∧ i = .int .i64 k ∧ wr = w.alloc (.cells C 5) ∧ C = (u8s (puts bs (beL n s) k)).toArray) (fun i _ => s - (intOf i).toNat)
  case atStart => exact ⟨0, _, Nat.zero_le _, rfl, rfl, by rw [puts_zero, beL_length]⟩
  case round =>
    obtain ⟨k, C, hk, rfl, rfl, hC⟩ := hrel
    by_cases hkn : k < s
    · have hcell : ∃ x : Int, C[bs.length + k]? = some (.int .u8 x) := ⟨_, by rw [hC]; exact u8s_at _ _ (by rw [puts_length bs (beL n s) k (by omega)]; omega)⟩
      obtain ⟨x, hcell⟩ := hcell
      have HC : Hid (C.setIfInBounds (bs.length + k) (.int .u8 ((n : Int) / 2 ^ (8 * (s - 1 - k)) % 256)) = (u8s (puts bs (beL n s) (k + 1))).toArray) := by
        show _ = _
        rw [hC, u8s_set _ _ _ _ (beL_get n s k (by omega)).symm, puts_succ]
      clear hC
      go_wp2
      go_roundw
      case rel => exact ⟨k + 1, _, by omega, by go_num, rfl, HC.out⟩
      case measure => simp [intOf]; omega
    · have hkk : k = s := by omega
      subst hkk
      have hC2 : C = (u8s (bs ++ z0 :: zr)).toArray := by rw [hC, ← HZ.out, ← puts_all bs (beL n k), beL_length]
      clear hC
      have hcell : C[bs.length]? = some (.int .u8 (z0.toNat : Int)) := by rw [hC2]; rw [u8s_at _ _ (by simp)]; simp
      have HC : Hid (C.setIfInBounds bs.length (.int .u8 (IntKind.u8.wrap ((z0.toNat : Int) + mk))) = (u8s (bs ++ y0 :: zr)).toArray) := by
        show _ = _
        rw [hC2, u8s_set _ _ _ y0 (by rw [IntKind.wrap_u8]; have := y0.toNat_lt; omega)]
        simp
      clear hC2 HZ hzl
      have hyl : z0.toNat + mk < 256 := by have := y0.toNat_lt; omega
      clear hy
      go_wp2_with fail
      go_region_with (go_at_call 61; refine (markOf_any _ _).mono ?_; rintro e wz ⟨rfl, hz'⟩; subst wz)
      all_goals
        go_wp2
        go_ret2
        refine ⟨rfl, 1, ?_⟩
        rw [HC.out]
        rfl

theorem pack_no (v : Value) (n : Int) (w : World) (hs : sizeI n = 0) :
    Calls Try.prog 50 #[v, .int .i64 n] w fun e w' => e = .returned (.tuple #[.slice none 0 0, .int .i64 3]) ∧ w' = w := by
  go_enter Try.func50, Try.ntmps50
  go_wp2_with fail
  refine (size_any _ _).mono ?_
  rintro e wz ⟨rfl, hz'⟩
  subst wz
  go_wp2
  go_ret2
  exact ⟨rfl, rfl⟩

theorem ofNat_mod (n : Nat) : UInt8.ofNat n = UInt8.ofNat (n % 256) := UInt8.toNat_inj.1 (by simp)

/-- A packed number's bytes. -/
def pkL (n : Nat) : List UInt8 :=
  if n ≤ 127 then [UInt8.ofNat n] else if n ≤ 16383 then [UInt8.ofNat (128 + n / 256), UInt8.ofNat (n % 256)]
  else [UInt8.ofNat (192 + n / 16777216), UInt8.ofNat (n / 65536 % 256), UInt8.ofNat (n / 256 % 256), UInt8.ofNat (n % 256)]

theorem pkL_length (n : Nat) (h : n ≤ 536870911) : ((pkL n).length : Int) = sizeI (n : Int) := by
  unfold pkL sizeI
  split
  · simp; omega
  · split
    · simp; omega
    · simp; omega

theorem pack_any {v : Value} {bs : List UInt8} {w : World} (hv : Bs w v bs) (hb : bs.length ≤ 281474976710600) (n : Nat) (hn : n ≤ 536870911) :
    Calls Try.prog 50 #[v, .int .i64 (n : Int)] w fun e w' => e = .returned (.tuple #[.slice (some ⟨w.heap.size, 0, none⟩) (bs.length + (pkL n).length) (bs.length + (pkL n).length), .int .i64 0]) ∧
      ∃ m, w' = (w.alloc (.cells (u8s (bs ++ pkL n)).toArray 5)).drewN m := by
  have hl := pkL_length n hn
  by_cases h1 : n ≤ 127
  · have e1 : pkL n = UInt8.ofNat n :: [] := by simp [pkL, h1]
    rw [e1]
    exact pack_yes hv hb n 1 0 (by rw [← hl, e1]; simp) (by omega) (by omega) (by simp [markI]) (UInt8.ofNat n) (UInt8.ofNat n) [] (by simp [beL]) (by omega)
  · by_cases h2 : n ≤ 16383
    · have e1 : pkL n = [UInt8.ofNat (128 + n / 256), UInt8.ofNat (n % 256)] := by simp [pkL, h1, h2]
      rw [e1]
      exact pack_yes hv hb n 2 128 (by rw [← hl, e1]; simp) (by omega) (by omega) (by simp [markI]) (UInt8.ofNat (n / 256)) _ _ (by simp [beL, List.range_succ]; exact ofNat_mod _) (by simp; omega)
    · have e1 : pkL n = [UInt8.ofNat (192 + n / 16777216), UInt8.ofNat (n / 65536 % 256), UInt8.ofNat (n / 256 % 256), UInt8.ofNat (n % 256)] := by simp [pkL, h1, h2]
      rw [e1]
      exact pack_yes hv hb n 4 192 (by rw [← hl, e1]; simp) (by omega) (by omega) (by simp [markI]) (UInt8.ofNat (n / 16777216)) _ _ (by simp [beL, List.range_succ]; exact ⟨ofNat_mod _, ofNat_mod _, ofNat_mod _⟩) (by simp; omega)

/-- Pack, by what its result holds. -/
theorem pack_bs {v : Value} {bs : List UInt8} {w : World} (hv : Bs w v bs) (hb : bs.length ≤ 281474976710600) (n : Nat) (hn : n ≤ 536870911) (L : Nat) (hL : bs.length + (pkL n).length = L) :
    Calls Try.prog 50 #[v, .int .i64 (n : Int)] w fun e w' => e = .returned (.tuple #[.slice (some ⟨w.heap.size, 0, none⟩) L L, .int .i64 0]) ∧
      Bs w' (.slice (some ⟨w.heap.size, 0, none⟩) L L) (bs ++ pkL n) ∧ Below w.heap.size w w' ∧ w.heap.size < w'.heap.size := by
  refine (pack_any hv hb n hn).mono ?_
  rintro e w' ⟨rfl, m, rfl⟩
  rw [hL]
  have h4 : (pkL n).length ≤ 4 := by unfold pkL; split <;> (try split) <;> simp
  refine ⟨rfl, ?_, Below.drewN ((Below.refl _ _).alloc (Nat.le_refl _) _) m, by simp⟩
  have := Bs.made w (bs ++ pkL n) 5 (by simp only [List.length_append, maxLen]; omega)
  rw [List.length_append, hL] at this
  exact this.drewN m

end Go.Proofs.Ytcjoidhbhffcgaa
