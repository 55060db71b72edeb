/- OctetPacks: the walk. -/
import Derived.Test.YthghgagkkjnmhaaRefPack
namespace Go.Proofs.Ythghgagkkjnmhaa
set_option linter.unusedVariables false
set_option linter.unusedSimpArgs false
open Go.RowKit

theorem size_zero {n : Int} (h : sizeI n ≠ 0) : 0 ≤ n ∧ n ≤ 536870911 := by
  unfold sizeI at h
  by_cases h1 : n < 0
  · rw [if_pos h1] at h; exact absurd rfl h
  · rw [if_neg h1] at h
    by_cases h2 : 536870911 < n
    · rw [if_pos h2] at h; exact absurd rfl h
    · omega

set_option maxRecDepth 100000 in
set_option maxHeartbeats 1000000 in
theorem octetPacks_long (a : Option Addr) (len cap : Nat) (n : Int) (w : World) (hl : 4096 < len) (h1 : len ≤ cap) (h2 : cap ≤ maxLen) :
    Calls Try.prog 5 #[.slice a len cap, .int .i64 n] w fun e w' => e = .returned (.bool true) ∧ Below w.heap.size w w' := by
  go_enter Try.func5, Try.ntmps5
  go_wp2_with fail
  refine (wakes_any _).mono ?_
  rintro e w1 ⟨rfl, hb1⟩
  go_wp2_with fail
  go_ret
  exact ⟨rfl, hb1⟩

set_option maxRecDepth 100000 in
set_option maxHeartbeats 1000000 in
theorem octetPacks_no (bs : List UInt8) (a : Option Addr) (cap : Nat) (n : Int) (w : World) (hl : bs.length ≤ 4096) (hv : Bs w (.slice a bs.length cap) bs) (hs : sizeI n = 0) :
    Calls Try.prog 5 #[.slice a bs.length cap, .int .i64 n] w fun e w' => e = .returned (.bool true) ∧ Below w.heap.size w w' := by
  have HV : Hid (Bs w (.slice a bs.length cap) bs) := hv
  clear hv
  go_enter Try.func5, Try.ntmps5
  go_wp2_with fail
  refine (wakes_any _).mono ?_
  rintro e w1 ⟨rfl, hb1⟩
  have hs1 := hb1.size
  have HV1 : Hid (Bs w1 (.slice a bs.length cap) bs) := HV.out.later hb1
  have HB1 : Hid (Below w.heap.size w w1) := hb1
  clear hb1 HV
  go_wp2_with (at_builtin; go_must (refine wpList_append_bs rfl _ _ _ rfl (w1.heap.size) 5 Try.underlying22 Try.infoU8 rfl rfl (Own.lit w1 w1.heap.size 5 [] #[] 0 (Nat.le_refl _) rfl rfl (by decide)) (HV1.out.later ((Below.refl _ _).alloc (Nat.le_refl _) _)) (by simp; omega) (by simp) ?_; intro v2 w2 ho2 hg2))
  obtain ⟨hO, hB, _, hs2⟩ := copied ho2 hg2
  have HB2 : Hid (Below w1.heap.size w1 w2) := hB
  clear ho2 hg2 hO hB
  refine (pack_no v2 n w2 hs).mono ?_
  rintro e wz ⟨rfl, hz⟩
  subst wz
  go_wp2_with (first | (go_at_call 20; refine (size_any _ _).mono ?_; rintro e wz ⟨rfl, hz⟩; subst wz) | (go_at_call 21; refine (refSize_any _ _).mono ?_; rintro e wz ⟨rfl, hz⟩; subst wz))
  go_ret
  exact ⟨rfl, HB1.out.trans (HB2.out.mono hs1)⟩

set_option maxRecDepth 100000 in
set_option maxHeartbeats 1000000 in
theorem octetPacks_yes (bs : List UInt8) (a : Option Addr) (cap : Nat) (n : Nat) (w : World) (hl : bs.length ≤ 4096) (hv : Bs w (.slice a bs.length cap) bs) (hn : n ≤ 536870911) (s : Nat) (hs : (pkL n).length = s) (hs1 : 1 ≤ s) (hs4 : s ≤ 4) :
    Calls Try.prog 5 #[.slice a bs.length cap, .int .i64 (n : Int)] w fun e w' => e = .returned (.bool true) ∧ Below w.heap.size w w' := by
  have HV : Hid (Bs w (.slice a bs.length cap) bs) := hv
  have hz := pkL_length n hn
  have hsz : sizeI (n : Int) = (s : Int) := by omega
  have HS : Hid ((pkL n).length = s) := hs
  have hs0 : ((s : Int) == 0) = false := by rw [beq_eq_false_iff_ne]; omega
  clear hv hz hs
  go_enter Try.func5, Try.ntmps5
  go_wp2_with fail
  refine (wakes_any _).mono ?_
  rintro e w1 ⟨rfl, hb1⟩
  have hsw1 := hb1.size
  have HV1 : Hid (Bs w1 (.slice a bs.length cap) bs) := HV.out.later hb1
  have HB1 : Hid (Below w.heap.size w w1) := hb1
  clear hb1 HV
  go_wp2_with (at_builtin; go_must (refine wpList_append_bs rfl _ _ _ rfl (w1.heap.size) 5 Try.underlying22 Try.infoU8 rfl rfl (Own.lit w1 w1.heap.size 5 [] #[] 0 (Nat.le_refl _) rfl rfl (by decide)) (HV1.out.later ((Below.refl _ _).alloc (Nat.le_refl _) _)) (by simp; omega) (by simp) ?_; intro v2 w2 ho2 hg2))
  obtain ⟨hO, hB, _, hs2⟩ := copied ho2 hg2
  have HO2 : Hid (Bs w2 v2 bs) := hO
  have HB2 : Hid (Below w1.heap.size w1 w2) := hB
  clear ho2 hg2 hO hB
  refine (pack_bs HO2.out (by omega) n hn (bs.length + s) (by rw [HS.out])).mono ?_
  rintro e w3 ⟨rfl, hp3, hb3, hs3⟩
  have HP3 : Hid (Bs w3 (.slice (some ⟨w2.heap.size, 0, none⟩) (bs.length + s) (bs.length + s)) (bs ++ pkL n)) := hp3
  have HB3 : Hid (Below w1.heap.size w1 w3) := HB2.out.trans (hb3.mono (by omega))
  have HV3 : Hid (Bs w3 (.slice a bs.length cap) bs) := HV1.out.later HB3.out
  clear hp3 hb3 HB2 HO2 HV1
  go_wp2_with (first | (go_at_call 20; refine (size_any _ _).mono ?_; rintro e wz ⟨rfl, hz⟩; subst wz) | (go_at_call 21; refine (refSize_any _ _).mono ?_; rintro e wz ⟨rfl, hz⟩; subst wz) | (at_builtin; go_must (refine wpList_append_bs rfl (.tmp 42) (.tmp 43) _ rfl (w3.heap.size) 5 Try.underlying22 Try.infoU8 rfl rfl (Own.lit w3 w3.heap.size 5 [] #[] 0 (Nat.le_refl _) rfl rfl (by decide)) (HV3.out.later ((Below.refl _ _).alloc (Nat.le_refl _) _)) (by simp; omega) (by simp) ?_; intro v4 w4 ho4 hg4)))
  obtain ⟨hO, hB, _, hsw4⟩ := copied ho4 hg4
  have HO4 : Hid (Own w4 w3.heap.size 5 v4 bs) := ho4
  have HB4 : Hid (Below w3.heap.size w3 w4) := hB
  clear ho4 hg4 hO hB
  refine (refPack_any n hn w4).mono ?_
  rintro e w5 ⟨v5, rfl, ho5, hb5⟩
  have HO5 : Hid (Own w5 w4.heap.size 5 v5 (pkL n)) := ho5
  have HB5 : Hid (Below w3.heap.size w3 w5) := HB4.out.trans (hb5.mono (by omega))
  have HO45 : Hid (Own w5 w3.heap.size 5 v4 bs) := HO4.out.later hb5
  have hsw5 := hb5.size
  clear ho5 hb5 HB4 HO4
  go_wp2_with (at_builtin; go_must (refine wpList_append_bs rfl (.tmp 44) (.tmp 46) _ rfl (w3.heap.size) 5 Try.underlying22 Try.infoU8 rfl rfl HO45.out HO5.out.bs (by rw [HS.out]; omega) (by omega) ?_; intro v6 w6 ho6 hg6))
  have hB6 : Below w3.heap.size w5 w6 := (Below.refl _ _).grown hg6 (by omega) (fun k hk => (HO45.out.block k hk).1)
  have HB6 : Hid (Below w3.heap.size w3 w6) := HB5.out.trans hB6
  have HP6 : Hid (Bs w6 (.slice (some ⟨w2.heap.size, 0, none⟩) (bs.length + s) (bs.length + s)) (bs ++ pkL n)) := HP3.out.later HB6.out
  have HO6 : Hid (Bs w6 v6 (bs ++ pkL n)) := ho6.bs
  have hsw6 := hB6.size
  clear hB6 ho6 hg6 HO45 HO5 HB5 HP3 HV3
  refine (same_any HP6.out HO6.out).mono ?_
  rintro e w7 ⟨rfl, n7, hz7⟩
  have HB7 : Hid (Below w1.heap.size w1 w7) := by subst hz7; exact Below.drewN (HB3.out.trans (HB6.out.mono (by have := HB3.out.size; omega))) n7
  have HP7 : Hid (Bs w7 (.slice (some ⟨w2.heap.size, 0, none⟩) (bs.length + s) (bs.length + s)) (bs ++ pkL n)) := by subst hz7; exact HP6.out.drewN n7
  clear hz7 HB6 HP6 HO6 HB3
  rw [show decide (bs ++ pkL n = bs ++ pkL n) = true from by simp]
  go_wp2_with fail
  refine (new_any HP7.out (by rw [List.length_append, HS.out]; omega)).mono ?_
  rintro e w8 ⟨rfl, hr8, hb8⟩
  have HR8 : Hid (RdAt w8 (w7.heap.size + 1) (bs ++ pkL n) 0) := hr8
  have hsw7 := HB7.out.size
  have HB8 : Hid (Below w1.heap.size w1 w8) := HB7.out.trans (hb8.mono hsw7)
  have hsw8 := hb8.size
  clear hr8 hb8 HB7 HP7
  go_wp2_with fail
  refine (skip_any HR8.out (bs.length : Int)).mono ?_
  have e1 : skipE (bs ++ pkL n).length 0 (bs.length : Int) = 0 := by unfold skipE; rw [if_neg (by omega), if_neg (by rw [List.length_append]; omega)]
  have e2 : skipN (bs ++ pkL n).length 0 (bs.length : Int) = bs.length := by unfold skipN; rw [if_neg (by omega), if_neg (by rw [List.length_append]; omega)]; omega
  rw [e1, e2, Nat.zero_add]
  clear e1 e2
  rintro e w9 ⟨rfl, hr9, ho9⟩
  have HR9 : Hid (RdAt w9 (w7.heap.size + 1) (bs ++ pkL n) bs.length) := hr9
  have HB9 : Hid (Below w1.heap.size w1 w9) := HB8.out.trans (ho9.below (by omega) (by omega))
  have hsw9 := ho9.size
  clear hr9 ho9 HB8 HR8
  go_wp2_with fail
  refine (packed_any HR9.out).mono ?_
  have eu : unp (bs ++ pkL n) bs.length = (n, s, 0) := by
    have := unp_pk n hn bs []
    rw [List.append_nil, HS.out] at this
    exact this
  rw [eu]
  clear eu
  rintro e w10 ⟨rfl, hr10, ho10⟩
  have HR10 : Hid (RdAt w10 (w7.heap.size + 1) (bs ++ pkL n) (bs.length + s)) := hr10
  have HB10 : Hid (Below w1.heap.size w1 w10) := HB9.out.trans (ho10.below (by omega) (by omega))
  clear hr10 ho10 HB9 HR9
  go_wp2_with fail
  refine (done_any HR10.out).mono ?_
  rw [if_neg (by rw [List.length_append, HS.out]; omega)]
  rintro e w11 ⟨rfl, n11, hz11⟩
  have HB11 : Hid (Below w1.heap.size w1 w11) := by subst hz11; exact Below.drewN HB10.out n11
  clear hz11
  go_wp2
  go_ret
  exact ⟨rfl, HB1.out.trans (HB11.out.mono hsw1)⟩

theorem octetPacks_walk (v : Value) (bs : List UInt8) (n : Int) (w : World) (hv : Bs w v bs) (hz : bs.length ≤ 140737488351232) (hn : (Lit.int .i64 n).wf = true) :
    Calls Try.prog 5 #[v, .int .i64 n] w fun e w' => e = .returned (.bool true) ∧ Below w.heap.size w w' := by
  have hv0 := hv
  obtain ⟨a, cap, rfl, h1, h2, h3⟩ := hv
  by_cases hl : 4096 < bs.length
  · exact octetPacks_long a bs.length cap n w hl h1 h2
  · by_cases hs : sizeI n = 0
    · exact octetPacks_no bs a cap n w (by omega) hv0 hs
    · obtain ⟨g1, g2⟩ := size_zero hs
      obtain ⟨m, rfl⟩ := Int.eq_ofNat_of_zero_le g1
      have h4 : 1 ≤ (pkL m).length ∧ (pkL m).length ≤ 4 := by unfold pkL; split <;> (try split) <;> simp
      exact octetPacks_yes bs a cap m w (by omega) hv0 (by omega) _ rfl h4.1 h4.2

end Go.Proofs.Ythghgagkkjnmhaa
