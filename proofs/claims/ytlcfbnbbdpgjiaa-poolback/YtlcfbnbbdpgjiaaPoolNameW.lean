
/- PoolName: the walk of the statement's function. -/
import Derived.Test.YtlcfbnbbdpgjiaaRows
import Derived.Test.YtlcfbnbbdpgjiaaRefName
import Derived.Test.YtlcfbnbbdpgjiaaOpen
namespace Go.Proofs.Ytlcfbnbbdpgjiaa
set_option linter.unusedVariables false
set_option linter.unusedSimpArgs false
open Go.RowKit Go.Maps

def nmS (bs : List UInt8) (n : Int) : List UInt8 := if n < 1 ∨ (bs.length : Int) ≤ n then [] else nameS bs n.toNat
def nmE (bs : List UInt8) (n : Int) : Int := if n < 1 ∨ (bs.length : Int) ≤ n then 3 else nameE bs n.toNat

theorem name_any {w : World} {v : Value} {bs : List UInt8} (hv : Bs w v bs) (hs : bs.length ≤ 140737488351232) (n : Int) :
    Calls Try.prog 15 #[v, .int .i64 n] w fun e w' => e = .returned (.tuple #[.string ⟨(nmS bs n).toArray⟩, .int .i64 (nmE bs n)]) ∧ w' = w := by
  by_cases h : n < 1 ∨ (bs.length : Int) ≤ n
  · unfold nmS nmE
    rw [if_pos h, if_pos h]
    obtain ⟨a, cap, rfl, h1, h2, -⟩ := hv
    exact name_out h1 h2 n h
  · obtain ⟨m, rfl⟩ := Int.eq_ofNat_of_zero_le (show 0 ≤ n by omega)
    unfold nmS nmE
    rw [if_neg h, if_neg h]
    exact name_in hv m (by omega) (by omega) (by omega)

theorem refName_any {w : World} {v : Value} {bs : List UInt8} (hv : Bs w v bs) (hs : bs.length ≤ 140737488351232) (n : Int) :
    Calls Try.prog 16 #[v, .int .i64 n] w fun e w' => e = .returned (.tuple #[.string ⟨(nmS bs n).toArray⟩, .int .i64 (nmE bs n)]) ∧ w' = w := by
  by_cases h : n < 1 ∨ (bs.length : Int) ≤ n
  · unfold nmS nmE
    rw [if_pos h, if_pos h]
    obtain ⟨a, cap, rfl, h1, h2, -⟩ := hv
    exact refName_out h1 h2 n h
  · obtain ⟨m, rfl⟩ := Int.eq_ofNat_of_zero_le (show 0 ≤ n by omega)
    unfold nmS nmE
    rw [if_neg h, if_neg h]
    exact refName_in hv m (by omega) (by omega) hs

set_option maxHeartbeats 1000000 in
theorem poolName_walk (v : Value) (bs : List UInt8) (n : Int) (s : ByteArray) (w : World) (hv : Bs w v bs) (hz : bs.length ≤ 140737488351232) (hn : (Lit.int .i64 n).wf = true) (hs : s.size ≤ 140737488351232) :
    Calls Try.prog 4 #[v, .int .i64 n, .string s] w fun e w' => e = .returned (.bool true) ∧ Below w.heap.size w w' := by
  have HV : Hid (Bs w v bs) := hv
  obtain ⟨a, cap, rfl, h1, h2, -⟩ := hv
  unfold maxLen at h2
  by_cases hlong : 2000 < bs.length
  · go_enter Try.func4, Try.ntmps4
    go_wp2_with fail
    refine (wakes2_any _).mono ?_
    rintro e w1 ⟨rfl, hb1⟩
    go_wp2_with fail
    go_ret
    exact ⟨rfl, hb1⟩
  · by_cases hlong2 : 2000 < s.size
    · go_enter Try.func4, Try.ntmps4
      go_wp2_with fail
      refine (wakes2_any _).mono ?_
      rintro e w1 ⟨rfl, hb1⟩
      go_wp2_with fail
      go_ret
      exact ⟨rfl, hb1⟩
    · go_enter Try.func4, Try.ntmps4
      go_wp2_with fail
      refine (wakes2_any _).mono ?_
      rintro e w1 ⟨rfl, hb1⟩
      have HB1 : Hid (Below w.heap.size w w1) := hb1
      have HV1 : Hid (Bs w1 (.slice a bs.length cap) bs) := HV.out.later hb1
      have hs1 := hb1.size
      clear hb1
      go_wp2_with (at_builtin; go_must (refine wpList_append_bs rfl _ _ _ rfl w1.heap.size 5 Try.underlying27 Try.infoU8 rfl rfl (Own.lit _ _ _ [] _ _ (Nat.le_refl _) rfl rfl (by simp [maxLen])) (HV1.out.later ((Below.refl _ _).alloc (Nat.le_refl _) _)) (by simp; omega) (by simp) ?_))
      intro v2 w2 ho2 hg2
      obtain ⟨c1, c2, c3, c4⟩ := copied ho2 hg2
      have HB2 : Hid (Below w.heap.size w w2) := HB1.out.trans (c2.mono hs1)
      have HV2 : Hid (Bs w2 v2 bs) := c1
      have HV3 : Hid (Bs w2 (.slice a bs.length cap) bs) := HV.out.later HB2.out
      clear ho2 hg2 c1 c2 c3 c4
      go_wp2_with fail
      refine (name_any HV2.out hz n).mono ?_
      rintro e wz ⟨rfl, hzz⟩
      subst wz
      go_wp2_with fail
      refine (refName_any HV3.out hz n).mono ?_
      rintro e wz ⟨rfl, hzz⟩
      subst wz
      generalize nmS bs n = rS at *
      generalize nmE bs n = rE at *
      go_wp2_with fail
      refine (fine_any s _).mono ?_
      rintro e wz ⟨rfl, hzz⟩
      subst wz
      go_wp2_with fail
      refine (refFine_any s (by omega) _).mono ?_
      rintro e wz ⟨rfl, hzz⟩
      subst wz
      generalize fineB s.data.toList = fb at *
      go_wp2_with fail
      go_ret
      exact ⟨ret_bool (by simp), HB2.out⟩

end Go.Proofs.Ytlcfbnbbdpgjiaa
