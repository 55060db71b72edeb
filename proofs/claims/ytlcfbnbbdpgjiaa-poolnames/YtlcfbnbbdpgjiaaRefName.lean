
/- Name of the references; the example of layer 2's statements. -/
import Derived.Test.YtlcfbnbbdpgjiaaRows
import Derived.Test.YtlcfbnbbdpgjiaaName2
namespace Go.Proofs.Ytlcfbnbbdpgjiaa
set_option linter.unusedVariables false
set_option linter.unusedSimpArgs false
open Go.RowKit Go.Maps

theorem tw_ne : ∀ (l : List UInt8) (k : Nat) (h : k < (tw l).length) (g : k < l.length), l[k] ≠ 0
  | [], k, h, g => by simp at g
  | b :: l, k, h, g => by
    by_cases e : b = 0
    · subst e; simp [tw] at h
    · have ht : tw (b :: l) = b :: tw l := by simp [tw, e]
      rw [ht] at h
      cases k with
      | zero => simpa using e
      | succ k => simp at h g ⊢; exact tw_ne l k h g
theorem tw_stop : ∀ (l : List UInt8) (h : (tw l).length < l.length), l[(tw l).length] = 0
  | [], h => by simp at h
  | b :: l, h => by
    by_cases e : b = 0
    · subst e; simp [tw]
    · have ht : tw (b :: l) = b :: tw l := by simp [tw, e]
      have := tw_stop l (by rw [ht] at h; simpa using h)
      simpa [ht] using this

theorem refName_out {w : World} {a : Option Addr} {len cap : Nat} (hl : len ≤ cap) (hc : cap ≤ maxLen) (n : Int) (h : n < 1 ∨ (len : Int) ≤ n) :
    Calls Try.prog 16 #[.slice a len cap, .int .i64 n] w fun e w' => e = .returned (.tuple #[.string ⟨#[]⟩, .int .i64 3]) ∧ w' = w := by
  unfold maxLen at hc
  by_cases h1 : n < 1
  · clear h
    go_enter Try.func16, Try.ntmps16
    go_wp2_with fail
    go_ret2
    exact ⟨rfl, rfl⟩
  · have h2 : (len : Int) ≤ n := by omega
    clear h
    go_enter Try.func16, Try.ntmps16
    go_wp2_with fail
    go_ret2
    exact ⟨rfl, rfl⟩

set_option maxHeartbeats 1000000 in
theorem refName_in {w : World} {v : Value} {bs : List UInt8} (hv : Bs w v bs) (n : Nat) (h1 : 1 ≤ n) (h2 : n < bs.length) (hs : bs.length ≤ 140737488351232) :
    Calls Try.prog 16 #[v, .int .i64 (n : Int)] w fun e w' => e = .returned (.tuple #[.string ⟨(nameS bs n).toArray⟩, .int .i64 (nameE bs n)]) ∧ w' = w := by
  have hv0 := hv
  obtain ⟨a, cap, rfl, g1, g2, g3⟩ := hv0
  obtain ⟨b, off, rfl, -, hc⟩ := g3 (by intro e; subst e; simp at h2)
  clear g3
  unfold maxLen at g2
  have hle := tw_le (bs.drop n)
  have hdl : (bs.drop n).length = bs.length - n := by simp
  have HC : Hid (∀ i (h : i < bs.length), w.cell? ⟨b, off + i, none⟩ = some (.int .u8 (bs[i].toNat : Int))) := hc
  have HNE : Hid (∀ k (h : k < (tw (bs.drop n)).length) (g : n + k < bs.length), bs[n + k] ≠ 0) := fun k h g => by
    have := tw_ne (bs.drop n) k h (by simp; omega)
    simpa using this
  have HST : Hid (∀ (h : n + (tw (bs.drop n)).length < bs.length), bs[n + (tw (bs.drop n)).length] = 0) := fun h => by
    have := tw_stop (bs.drop n) (by simp; omega)
    simpa using this
  obtain ⟨a2, c2, hr2, hb2, -⟩ := slice_bs (P := Try.prog) hv n (tw (bs.drop n)).length (by omega) 27 5 Try.underlying27 sizeU8
  have hseg : seg bs n (tw (bs.drop n)).length = tw (bs.drop n) := by unfold seg; exact (tw_prefix _).symm
  rw [hseg] at hb2
  have hcv := convert_bs hb2
  have HFULL : Hid ((tw (bs.drop n)).length = (bs.drop n).length → nameS bs n = [] ∧ nameE bs n = 1) := fun hfull => ⟨by unfold nameS; split <;> simp [hfull], by unfold nameE; rw [if_pos hfull]⟩
  have HYES : Hid ((tw (bs.drop n)).length ≠ (bs.drop n).length → fineB (tw (bs.drop n)) = true → nameS bs n = tw (bs.drop n) ∧ nameE bs n = 0) := fun hfull hf => ⟨by unfold nameS; rw [if_pos hf, if_neg hfull], by unfold nameE; rw [if_neg hfull, if_pos hf]⟩
  have HNO : Hid ((tw (bs.drop n)).length ≠ (bs.drop n).length → fineB (tw (bs.drop n)) = false → nameS bs n = [] ∧ nameE bs n = 18) := fun hfull hf => ⟨by unfold nameS; rw [if_neg (by rw [hf]; simp)], by unfold nameE; rw [if_neg hfull, if_neg (by rw [hf]; simp)]⟩
  rw [hdl] at hle HFULL HYES HNO
  clear hb2 hseg hc hv hdl
  generalize tw (bs.drop n) = t at *
  have hfa : Hid (∀ W, Calls Try.prog 18 #[.string ⟨t.toArray⟩] W fun e w' => e = .returned (.bool (fineB t)) ∧ w' = W) := fun W => by
    have := refFine_any ⟨t.toArray⟩ (by show t.toArray.size ≤ _; simp; omega) W
    simpa using this
  generalize nameS bs n = rS at *
  generalize nameE bs n = rE at *
  have hd1 : decide ((n : Int) < 1) = false := decide_eq_false (by omega)
  have hd2 : decide ((bs.length : Int) ≤ (n : Int)) = false := decide_eq_false (by omega)
  have hd3 : decide (bs.length ≤ n) = false := decide_eq_false (by omega)
  go_enter Try.func16, Try.ntmps16
  go_wp2_with fail
  go_loopw [6] (fun i wr => ∃ k : Nat, k ≤ t.length ∧ i = .int .i64 ((n : Int) + (k : Int)) ∧ wr = w) (fun i _ => bs.length - (intOf i).toNat)
  case atStart => exact ⟨0, Nat.zero_le _, by simp, rfl⟩
  case round =>
    obtain ⟨k, hk, rfl, hwr⟩ := hrel
    subst wr
    by_cases hlt : k < t.length
    · have hcell := HC.out (n + k) (by omega)
      have hne := HNE.out k hlt (by omega)
      have hq : ((bs[n + k].toNat : Int) != 0) = true := by
        rw [bne_iff_ne]; intro e; exact hne (UInt8.toNat_inj.1 (by simp; omega))
      clear hne
      generalize bs[n + k].toNat = c at *
      go_wp2_with fail
      go_roundw
      case rel => exact ⟨k + 1, by omega, by go_num, by simp⟩
      case measure => simp [intOf]; omega
    · have e : k = t.length := by omega
      subst e
      by_cases hfull : t.length = bs.length - n
      · obtain ⟨rfl, rfl⟩ := HFULL.out hfull
        have he : ((n : Int) + (t.length : Int)) = (bs.length : Int) := by omega
        go_wp2_with fail
        go_ret2
        exact ⟨rfl, rfl⟩
      · have hcell := HC.out (n + t.length) (by omega)
        have hz := HST.out (by omega)
        rw [hz] at hcell
        have hq : (((n : Int) + (t.length : Int)) == (bs.length : Int)) = false := by rw [beq_eq_false_iff_ne]; omega
        cases hf : fineB t with
        | true =>
          obtain ⟨rfl, rfl⟩ := HYES.out hfull hf
          go_wp2_with fail
          refine (hfa.out _).mono ?_
          rintro e wz ⟨rfl, hz⟩
          subst wz
          rw [hf]
          go_wp2_with fail
          go_ret2
          exact ⟨rfl, rfl⟩
        | false =>
          obtain ⟨rfl, rfl⟩ := HNO.out hfull hf
          go_wp2_with fail
          refine (hfa.out _).mono ?_
          rintro e wz ⟨rfl, hz⟩
          subst wz
          rw [hf]
          go_wp2_with fail
          go_ret2
          exact ⟨rfl, rfl⟩

theorem wakes_B : (pall encN (tls [⟨#[97]⟩, ⟨#[98]⟩, ⟨#[97]⟩])).B = [0, 97, 0, 98, 0] := by decide +kernel
theorem wakes_at : (pall encN (tls [⟨#[97]⟩, ⟨#[98]⟩, ⟨#[97]⟩])).ats = [1, 3, 1] := by decide +kernel
theorem wakes_fine : (tls [⟨#[97]⟩, ⟨#[98]⟩, ⟨#[97]⟩]).all fineB = true := by decide +kernel
theorem names_fit (ss : List ByteArray) (hall : (tls ss).all fineB = true) (hn : ss.length ≤ 60) : ∀ k, k ≤ ss.length → (pall encN ((tls ss).take k)).B.length ≤ 65536 := by
  intro k hk
  have := pall_B encN (tls ss) 25 (fun s hs => by
    rw [List.all_eq_true] at hall
    have := hall s hs
    simp only [fineB, Bool.and_eq_true, decide_eq_true_eq] at this
    simp [encN]; omega) k (by rw [tls_length]; exact hk)
  omega

set_option maxHeartbeats 400000 in
theorem wakes2_any (w : World) :
    Calls Try.prog 8 #[] w fun e w' => e = .returned (.bool true) ∧ Below w.heap.size w w' := by
  go_enter Try.func8, Try.ntmps8
  go_wp2_with fail
  refine (names_yes (ss := [⟨#[97]⟩, ⟨#[98]⟩, ⟨#[97]⟩]) (Sl.made w _ _ _ _ rfl rfl (by decide)) (by decide) wakes_fine (names_fit _ wakes_fine (by decide))).mono ?_
  rw [wakes_B, wakes_at]
  rintro e w1 ⟨bv, av, rfl, hb, hi, hbel⟩
  have hi' : Is w1 av [1, 3, 1] := hi
  have HB : Hid (Below w.heap.size w w1) := ((Below.refl _ _).alloc (Nat.le_refl _) _).trans (hbel.mono (by simp))
  have hsz := HB.out.size
  have hb' := hb
  obtain ⟨a1, c1, rfl, -⟩ := hb'
  have hi2 := hi'
  obtain ⟨a2, c2, rfl, -⟩ := hi2
  have hcv : (convert 27 9 (.slice a1 5 c1)).run Try.prog w1 = .ok (.string ⟨#[0, 97, 0, 98, 0]⟩) w1 := convert_bs hb
  have HI : Hid (Is w1 (.slice a2 3 c2) [1, 3, 1]) := hi'
  clear hb hi hi'
  clear hbel
  go_wp2_with fail
  refine (sameI_any (HI.out.later ((Below.refl _ _).alloc (Nat.le_refl _) _)) (Sl.made w1 (i64s [1, 3, 1]) _ _ _ rfl rfl (by decide))).mono ?_
  rintro e w2 ⟨rfl, n2, rfl⟩
  have ht : decide (([1, 3, 1] : List Int) = [1, 3, 1]) = true := by decide
  rw [ht]
  go_wp2_with fail
  go_ret
  exact ⟨rfl, Below.drewN (HB.out.alloc hsz _) n2⟩

end Go.Proofs.Ytlcfbnbbdpgjiaa
