
/- CodeOne: the walk. -/
import Derived.Test.YtpgkjfjooogfmaaDoorCodeOne7
import Derived.Test.YtpgkjfjooogfmaaDoorDecode7
import Derived.Test.YtpgkjfjooogfmaaDoorWakes7
import Derived.Test.YtpgkjfjooogfmaaDoorOpen7
import Derived.Test.YtpgkjfjooogfmaaDoorSame
namespace Go.Proofs.YtpgkjfjooogfmaaDoor
set_option linter.unusedVariables false
set_option linter.unusedSimpArgs false
open Go.RowKit

set_option maxHeartbeats 4000000 in
set_option maxRecDepth 100000 in
theorem codeOne_walk (v : Value) (bs : List UInt8) (w : World) (hW : Wd w) (hv : Bs w v bs) :
    Calls Tryd.prog 5 #[v] w fun e w' => e = .returned (.bool true) ∧ Below w.heap.size w w' := by
  have HV : Hid (∀ W, Below w.heap.size w W → Bs W v bs) := fun W hW => hv.later hW
  have HW : Hid (∀ W, Below w.heap.size w W → Wd W) := fun W h => hW.later h
  have HK : Hid (Wd w) := hW
  obtain ⟨a, c, rfl, hc1, hc2, -⟩ := hv
  unfold maxLen at hc2
  clear hW
  by_cases hl : 2000 < bs.length
  · go_enter Tryd.func5, Tryd.ntmps5
    go_wp2_with fail
    refine (wakes7_any w HK.out).mono ?_
    rintro e w1 ⟨rfl, hb1⟩
    go_wp2_with fail
    go_ret
    exact ⟨rfl, hb1⟩
  · go_enter Tryd.func5, Tryd.ntmps5
    go_wp2_with fail
    refine (wakes7_any w HK.out).mono ?_
    rintro e w1 ⟨rfl, hb1⟩
    have HB1 : Hid (Below w.heap.size w w1) := hb1
    have HQ := decode_any (HV.out _ hb1) (by omega) (HW.out _ hb1)
    clear hb1
    go_wp2_with fail
    refine Calls.mono HQ ?_
    rintro e w2 ⟨hout, hb2⟩
    have HB2 : Hid (Below w.heap.size w w2) := HB1.out.trans (hb2.mono HB1.out.size)
    clear HQ hb2 HB1
    rcases hout with ⟨l, m, lv, pv, hR, hRs, rfl, hX, hI⟩ | ⟨at_, er, rfl, her, _⟩
    · obtain ⟨hE, hT⟩ := one_enc hR hRs
      have HQ2 := encode_any hX (HW.out _ HB2.out)
      have HE : Hid (encE m = 0) := hE
      have HT : Hid (encTo m m.length = bs) := hT
      obtain ⟨la, lc, rfl, hl1, hl2⟩ := hX.shape
      clear hR hRs hI hX hE hT
      go_wp2_with fail
      refine Calls.mono HQ2 ?_
      rintro e w3 ⟨hy, _, hb3⟩
      obtain ⟨cv, rfl, hO⟩ := hy HE.out
      have hB3 := HB2.out.trans (hb3.mono HB2.out.size)
      have H1 : Hid (Calls Tryd.prog 13 #[.slice a bs.length c, cv] w3 fun e w' => e = .returned (.bool true) ∧ ∃ n, w' = w3.drewN n) := by
        have hbs := hO.bs
        rw [HT.out] at hbs
        have := same_any (HV.out _ hB3) hbs
        rwa [decide_eq_true rfl] at this
      have HB3 : Hid (Below w.heap.size w w3) := hB3
      clear HQ2 hy hb3 hO hB3 HB2
      go_wp2_with fail
      refine Calls.mono H1.out ?_
      rintro e w4 ⟨rfl, n1, rfl⟩
      go_wp2_with fail
      go_ret
      exact ⟨rfl, Below.drewN HB3.out _⟩
    · have hne : (er != 0) = true := by rw [bne_iff_ne]; exact her
      clear her
      go_wp2_with fail
      go_ret
      exact ⟨rfl, HB2.out⟩

end Go.Proofs.YtpgkjfjooogfmaaDoor
