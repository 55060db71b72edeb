
/- PoolBlob: the walk of the statement's function. -/
import Derived.Test.YtlcfbnbbdpgjiaaRows
import Derived.Test.YtlcfbnbbdpgjiaaBlob
import Derived.Test.YtlcfbnbbdpgjiaaOpen
namespace Go.Proofs.Ytlcfbnbbdpgjiaa
set_option linter.unusedVariables false
set_option linter.unusedSimpArgs false
open Go.RowKit Go.Maps

set_option maxHeartbeats 1000000 in
theorem poolBlob_walk (v : Value) (bs : List UInt8) (n : Int) (w : World) (hv : Bs w v bs) (hz : bs.length ≤ 140737488351232) (hn : (Lit.int .i64 n).wf = true) :
    Calls Try.prog 6 #[v, .int .i64 n] w fun e w' => e = .returned (.bool true) ∧ Below w.heap.size w w' := by
  have HV : Hid (Bs w v bs) := hv
  obtain ⟨a, cap, rfl, h1, h2, -⟩ := hv
  unfold maxLen at h2
  by_cases hlong : 2000 < bs.length
  · go_enter Try.func6, Try.ntmps6
    go_wp2_with fail
    refine (wakes2_any _).mono ?_
    rintro e w1 ⟨rfl, hb1⟩
    go_wp2_with fail
    go_ret
    exact ⟨rfl, hb1⟩
  · go_enter Try.func6, Try.ntmps6
    go_wp2_with fail
    refine (wakes2_any _).mono ?_
    rintro e w1 ⟨rfl, hb1⟩
    have HB1 : Hid (Below w.heap.size w w1) := hb1
    have HV1 : Hid (Bs w1 (.slice a bs.length cap) bs) := HV.out.later hb1
    have hs1 := hb1.size
    clear hb1
    go_wp2_with (at_builtin; go_must (refine wpList_append_bs rfl _ _ _ rfl w1.heap.size 5 Try.underlying27 Try.infoU8 rfl rfl (Own.lit _ _ _ [] _ _ (Nat.le_refl _) rfl rfl (by simp [maxLen])) (HV1.out.later ((Below.refl _ _).alloc (Nat.le_refl _) _)) (by simp; omega) (by simp) ?_))
    intro v2 w2 ho2 hg2
    obtain ⟨c1, c2, c3, c4⟩ := copied ho2 hg2
    have HB2 : Hid (Below w.heap.size w w2) := HB1.out.trans (c2.mono hs1)
    have HV2 : Hid (Bs w2 v2 bs) := c1
    have hs2 : w.heap.size ≤ w2.heap.size := HB2.out.size
    clear ho2 hg2 c1 c2 c3 c4
    go_wp2_with fail
    refine (blob_any HV2.out hz n).mono ?_
    rintro e w3 ⟨v3, rfl, hb3, hl3⟩
    have HB3 : Hid (Below w.heap.size w w3) := HB2.out.trans (hl3.mono hs2)
    have HV3 : Hid (Bs w3 v3 (blS bs n)) := hb3
    have hs3 : w.heap.size ≤ w3.heap.size := HB3.out.size
    clear hb3 hl3
    go_wp2_with fail
    refine (refBlob_any (HV.out.later HB3.out) hz n).mono ?_
    rintro e w4 ⟨v4, rfl, hb4, hl4⟩
    have HB4 : Hid (Below w.heap.size w w4) := HB3.out.trans (hl4.mono hs3)
    have HV4 : Hid (Bs w4 v4 (blS bs n)) := hb4
    have HV5 : Hid (Bs w4 v3 (blS bs n)) := HV3.out.later hl4
    clear hb4 hl4
    go_wp2_with fail
    refine (same_any HV5.out HV4.out).mono ?_
    rintro e w5 ⟨rfl, n5, rfl⟩
    generalize blE bs n = rE at *
    have ht : decide (blS bs n = blS bs n) = true := by simp
    rw [ht]
    go_wp2_with fail
    go_ret
    exact ⟨ret_bool (by simp), Below.drewN HB4.out n5⟩

end Go.Proofs.Ytlcfbnbbdpgjiaa
