/- OctetPuts: the walk. -/
import Derived.Test.YthghgagkkjnmhaaPut
import Derived.OpenShut
namespace Go.Proofs.Ythghgagkkjnmhaa
set_option linter.unusedVariables false
set_option linter.unusedSimpArgs false
open Go.RowKit Go.ChangeShapes

set_option maxRecDepth 100000 in
set_option maxHeartbeats 1000000 in
theorem octetPuts_long (a : Option Addr) (len cap : Nat) (x n : Int) (w : World) (hl : 4096 < len) (h1 : len ≤ cap) (h2 : cap ≤ maxLen) :
    Calls Try.prog 4 #[.slice a len cap, .int .u64 x, .int .i64 n] w fun e w' => e = .returned (.bool true) ∧ Below w.heap.size w w' := by
  go_enter Try.func4, Try.ntmps4
  go_wp2_with fail
  refine (wakes_any _).mono ?_
  rintro e w1 ⟨rfl, hb1⟩
  go_wp2_with fail
  go_ret
  exact ⟨rfl, hb1⟩

set_option maxRecDepth 100000 in
set_option maxHeartbeats 1000000 in
theorem octetPuts_no (bs : List UInt8) (a : Option Addr) (cap : Nat) (x n : Int) (w : World) (hl : bs.length ≤ 4096) (hv : Bs w (.slice a bs.length cap) bs) (hw : wideB n = false) :
    Calls Try.prog 4 #[.slice a bs.length cap, .int .u64 x, .int .i64 n] w fun e w' => e = .returned (.bool true) ∧ Below w.heap.size w w' := by
  have HV : Hid (Bs w (.slice a bs.length cap) bs) := hv
  clear hv
  go_enter Try.func4, Try.ntmps4
  go_wp2_with fail
  refine (wakes_any _).mono ?_
  rintro e w1 ⟨rfl, hb1⟩
  have hsw1 := hb1.size
  have HV1 : Hid (Bs w1 (.slice a bs.length cap) bs) := HV.out.later hb1
  have HB1 : Hid (Below w.heap.size w w1) := hb1
  clear hb1 HV
  go_wp2_with (at_builtin; go_must (refine wpList_append_bs rfl _ _ _ rfl (w1.heap.size) 5 Try.underlying22 Try.infoU8 rfl rfl (Own.lit w1 w1.heap.size 5 [] #[] 0 (Nat.le_refl _) rfl rfl (by decide)) (HV1.out.later ((Below.refl _ _).alloc (Nat.le_refl _) _)) (by simp; omega) (by simp) ?_; intro v2 w2 ho2 hg2))
  obtain ⟨hO, hB, hK2, hs2⟩ := copied ho2 hg2
  have HO2 : Hid (Bs w2 v2 bs) := hO
  have HB2 : Hid (Below w1.heap.size w1 w2) := hB
  clear ho2 hg2 hO hB
  go_wp2_with fail
  refine (put_no v2 x n w2 hw).mono ?_
  rintro e wz ⟨rfl, hz⟩
  subst wz
  go_wp2_with (go_at_call 14; refine (wide_any _ _).mono ?_; rintro e wz ⟨rfl, hz⟩; subst wz)
  go_ret
  exact ⟨rfl, HB1.out.trans (HB2.out.mono hsw1)⟩

theorem seg_right (bs cs : List UInt8) (n : Nat) (h : cs.length = n) : seg (bs ++ cs) bs.length n = cs := by
  subst h; unfold seg; rw [List.drop_left]; exact List.take_length

set_option maxRecDepth 100000 in
set_option maxHeartbeats 2000000 in
theorem octetPuts_yes (bs : List UInt8) (a : Option Addr) (cap : Nat) (x n : Nat) (w : World) (hl : bs.length ≤ 4096) (hv : Bs w (.slice a bs.length cap) bs) (hx : x < 18446744073709551616) (hw : wideB (n : Int) = true) (hn1 : 1 ≤ n) (hn8 : n ≤ 8) :
    Calls Try.prog 4 #[.slice a bs.length cap, .int .u64 (x : Int), .int .i64 (n : Int)] w fun e w' => e = .returned (.bool true) ∧ Below w.heap.size w w' := by
  have HV : Hid (Bs w (.slice a bs.length cap) bs) := hv
  clear hv
  go_enter Try.func4, Try.ntmps4
  go_wp2_with fail
  refine (wakes_any _).mono ?_
  rintro e w1 ⟨rfl, hb1⟩
  have hsw1 := hb1.size
  have HV1 : Hid (Bs w1 (.slice a bs.length cap) bs) := HV.out.later hb1
  have HB1 : Hid (Below w.heap.size w w1) := hb1
  clear hb1 HV
  go_wp2_with (at_builtin; go_must (refine wpList_append_bs rfl _ _ _ rfl (w1.heap.size) 5 Try.underlying22 Try.infoU8 rfl rfl (Own.lit w1 w1.heap.size 5 [] #[] 0 (Nat.le_refl _) rfl rfl (by decide)) (HV1.out.later ((Below.refl _ _).alloc (Nat.le_refl _) _)) (by simp; omega) (by simp) ?_; intro v2 w2 ho2 hg2))
  obtain ⟨hO, hB, hK2, hs2⟩ := copied ho2 hg2
  have HO2 : Hid (Bs w2 v2 bs) := hO
  have HB2 : Hid (Below w1.heap.size w1 w2) := hB
  clear ho2 hg2 hO hB
  go_wp2_with fail
  refine (put_yes HO2.out (by omega) x n hx hw hn1 hn8).mono ?_
  rintro e w3 ⟨rfl, hz3⟩
  have hb3 : Below w2.heap.size w2 w3 := by rw [hz3]; exact (Below.refl _ _).alloc (Nat.le_refl _) _
  have HP3 : Hid (Bs w3 (.slice (some ⟨w2.heap.size, 0, none⟩) (bs.length + n) (bs.length + n)) (bs ++ leL x n)) := by
    show Bs _ _ _
    have := Bs.made w2 (bs ++ leL x n) 5 (by rw [List.length_append, leL_length]; unfold maxLen; omega)
    rw [List.length_append, leL_length] at this
    rw [hz3]; exact this
  have hs3 : w2.heap.size < w3.heap.size := by rw [hz3]; simp
  have HB3 : Hid (Below w1.heap.size w1 w3) := HB2.out.trans (hb3.mono (by omega))
  have HV3 : Hid (Bs w3 (.slice a bs.length cap) bs) := HV1.out.later HB3.out
  have HO3 : Hid (Bs w3 v2 bs) := HO2.out.later hb3
  clear hz3 hb3 HB2 HO2 HV1 hK2
  go_wp2_with (first | (go_at_call 14; refine (wide_any _ _).mono ?_; rintro e wz ⟨rfl, hz⟩; subst wz) | (at_builtin; go_must (refine wpList_append_bs rfl (.tmp 42) (.tmp 43) _ rfl (w3.heap.size) 5 Try.underlying22 Try.infoU8 rfl rfl (Own.lit w3 w3.heap.size 5 [] #[] 0 (Nat.le_refl _) rfl rfl (by decide)) (HV3.out.later ((Below.refl _ _).alloc (Nat.le_refl _) _)) (by simp; omega) (by simp) ?_; intro v4 w4 ho4 hg4)))
  obtain ⟨hO, hB, _, hsw4⟩ := copied ho4 hg4
  have HO4 : Hid (Own w4 w3.heap.size 5 v4 bs) := ho4
  have HB4 : Hid (Below w3.heap.size w3 w4) := hB
  clear ho4 hg4 hO hB
  refine (refPut_any x n hx hn8 w4).mono ?_
  rintro e w5 ⟨v5, rfl, ho5, hb5⟩
  have HO5 : Hid (Own w5 w4.heap.size 5 v5 (leL x n)) := ho5
  have HB5 : Hid (Below w3.heap.size w3 w5) := HB4.out.trans (hb5.mono (by omega))
  have HO45 : Hid (Own w5 w3.heap.size 5 v4 bs) := HO4.out.later hb5
  have hsw5 := hb5.size
  clear ho5 hb5 HB4 HO4
  go_wp2_with (at_builtin; go_must (refine wpList_append_bs rfl (.tmp 44) (.tmp 47) _ rfl (w3.heap.size) 5 Try.underlying22 Try.infoU8 rfl rfl HO45.out HO5.out.bs (by rw [leL_length]; omega) (by omega) ?_; intro v6 w6 ho6 hg6))
  have hB6 : Below w3.heap.size w5 w6 := (Below.refl _ _).grown hg6 (by omega) (fun k hk => (HO45.out.block k hk).1)
  have HB6 : Hid (Below w3.heap.size w3 w6) := HB5.out.trans hB6
  have HP6 : Hid (Bs w6 (.slice (some ⟨w2.heap.size, 0, none⟩) (bs.length + n) (bs.length + n)) (bs ++ leL x n)) := HP3.out.later HB6.out
  have HO6 : Hid (Bs w6 v6 (bs ++ leL x n)) := ho6.bs
  have HX6 : Hid (Bs w6 v2 bs) := HO3.out.later HB6.out
  have HV6 : Hid (Bs w6 (.slice a bs.length cap) bs) := HV3.out.later HB6.out
  have hsw6 := hB6.size
  clear hB6 ho6 hg6 HO45 HO5 HB5 HP3 HV3 HO3
  refine (same_any HP6.out HO6.out).mono ?_
  rintro e w7 ⟨rfl, n7, hz7⟩
  have HB7 : Hid (Below w1.heap.size w1 w7) := by subst hz7; exact Below.drewN (HB3.out.trans (HB6.out.mono (by have := HB3.out.size; omega))) n7
  have HP7 : Hid (Bs w7 (.slice (some ⟨w2.heap.size, 0, none⟩) (bs.length + n) (bs.length + n)) (bs ++ leL x n)) := by subst hz7; exact HP6.out.drewN n7
  have HX7 : Hid (Bs w7 v2 bs) := by subst hz7; exact HX6.out.drewN n7
  have HV7 : Hid (Bs w7 (.slice a bs.length cap) bs) := by subst hz7; exact HV6.out.drewN n7
  clear hz7 HB6 HP6 HO6 HB3 HX6 HV6
  rw [show decide (bs ++ leL x n = bs ++ leL x n) = true from by simp]
  go_wp2_with fail
  refine (same_any HX7.out HV7.out).mono ?_
  rintro e w7b ⟨rfl, n7b, hz7⟩
  have HB7b : Hid (Below w1.heap.size w1 w7b) := by subst hz7; exact Below.drewN HB7.out n7b
  have HP7b : Hid (Bs w7b (.slice (some ⟨w2.heap.size, 0, none⟩) (bs.length + n) (bs.length + n)) (bs ++ leL x n)) := by subst hz7; exact HP7.out.drewN n7b
  clear hz7 HB7 HP7 HX7 HV7
  rw [show decide (bs = bs) = true from by simp]
  go_wp2_with fail
  refine (new_any HP7b.out (by rw [List.length_append, leL_length]; omega)).mono ?_
  rintro e w8 ⟨rfl, hr8, hb8⟩
  have HR8 : Hid (RdAt w8 (w7b.heap.size + 1) (bs ++ leL x n) 0) := hr8
  have hsw7 := HB7b.out.size
  have HB8 : Hid (Below w1.heap.size w1 w8) := HB7b.out.trans (hb8.mono hsw7)
  have hsw8 := hb8.size
  clear hr8 hb8 HB7b HP7b
  go_wp2_with fail
  refine (skip_any HR8.out (bs.length : Int)).mono ?_
  have e1 : skipE (bs ++ leL x n).length 0 (bs.length : Int) = 0 := by unfold skipE; rw [if_neg (by omega), if_neg (by rw [List.length_append]; omega)]
  have e2 : skipN (bs ++ leL x n).length 0 (bs.length : Int) = bs.length := by unfold skipN; rw [if_neg (by omega), if_neg (by rw [List.length_append]; omega)]; omega
  rw [e1, e2, Nat.zero_add]
  clear e1 e2
  rintro e w9 ⟨rfl, hr9, ho9⟩
  have HR9 : Hid (RdAt w9 (w7b.heap.size + 1) (bs ++ leL x n) bs.length) := hr9
  have HB9 : Hid (Below w1.heap.size w1 w9) := HB8.out.trans (ho9.below (by omega) (by omega))
  have hsw9 := ho9.size
  clear hr9 ho9 HB8 HR8
  go_wp2_with fail
  refine (num_yes HR9.out n hw hn8 (by rw [List.length_append, leL_length]; omega) (by omega)).mono ?_
  rw [seg_right bs (leL x n) n (leL_length x n), leN_leL]
  rintro e w10 ⟨rfl, hr10, ho10⟩
  have HB10 : Hid (Below w1.heap.size w1 w10) := HB9.out.trans (ho10.below (by omega) (by omega))
  clear hr10 ho10 HB9 HR9
  have hc := wide_cases hw
  clear hw hn1 hn8
  rcases (show n = 1 ∨ n = 2 ∨ n = 4 ∨ n = 8 by omega) with rfl | rfl | rfl | rfl
  · clear hc
    go_wp2
    go_ret
    exact ⟨rfl, HB1.out.trans (HB10.out.mono hsw1)⟩
  · clear hc
    go_wp2
    go_ret
    exact ⟨rfl, HB1.out.trans (HB10.out.mono hsw1)⟩
  · clear hc
    go_wp2
    go_ret
    exact ⟨rfl, HB1.out.trans (HB10.out.mono hsw1)⟩
  · have h8 : x % 256 ^ 8 = x := Nat.mod_eq_of_lt (by omega)
    rw [h8]
    clear hc h8
    go_wp2
    go_ret
    exact ⟨rfl, HB1.out.trans (HB10.out.mono hsw1)⟩

theorem octetPuts_walk (v : Value) (bs : List UInt8) (x n : Int) (w : World) (hv : Bs w v bs) (hz : bs.length ≤ 140737488351232) (hx : (Lit.int .u64 x).wf = true) (hn : (Lit.int .i64 n).wf = true) :
    Calls Try.prog 4 #[v, .int .u64 x, .int .i64 n] w fun e w' => e = .returned (.bool true) ∧ Below w.heap.size w w' := by
  have hv0 := hv
  obtain ⟨a, cap, rfl, h1, h2, h3⟩ := hv
  by_cases hl : 4096 < bs.length
  · exact octetPuts_long a bs.length cap x n w hl h1 h2
  · by_cases hw : wideB n = true
    · have hc := wide_cases hw
      have hbx := bounds_u64 hx
      obtain ⟨m, rfl⟩ := Int.eq_ofNat_of_zero_le (show 0 ≤ n by omega)
      obtain ⟨y, rfl⟩ := Int.eq_ofNat_of_zero_le hbx.1
      exact octetPuts_yes bs a cap y m w (by omega) hv0 (by omega) hw (by omega) (by omega)
    · exact octetPuts_no bs a cap x n w (by omega) hv0 (by simpa using hw)

end Go.Proofs.Ythghgagkkjnmhaa
