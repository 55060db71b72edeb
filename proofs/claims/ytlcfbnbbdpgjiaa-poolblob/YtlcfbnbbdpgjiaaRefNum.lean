
/- Num of the references, and Take of the reader. -/
import Derived.Test.YtlcfbnbbdpgjiaaRows
import Derived.Test.YtlcfbnbbdpgjiaaPackMath
import Derived.Test.YtlcfbnbbdpgjiaaAppend
namespace Go.Proofs.Ytlcfbnbbdpgjiaa
set_option linter.unusedVariables false
set_option linter.unusedSimpArgs false
open Go.RowKit

theorem leN_seg_step (bs : List UInt8) (at_ k m : Nat) (h : at_ + k < bs.length) : leN (seg bs (at_ + k) (m + 1)) = 256 * leN (seg bs (at_ + k + 1) m) + bs[at_ + k].toNat := by
  rw [seg_cons bs (at_ + k) m h]; simp [leN]; omega

set_option maxRecDepth 100000 in
set_option maxHeartbeats 1000000 in
theorem take_any {w : World} {rb : Nat} {bs : List UInt8} {at_ : Nat} (h : RdAt w rb bs at_) (n : Nat) (hn : at_ + n ≤ bs.length) :
    Calls Try.prog 30 #[.pointer (some ⟨rb, 0, none⟩), .int .i64 (n : Int)] w fun e w' => ∃ v, e = .returned (.tuple #[v, .int .i64 0]) ∧ Bs w' v (seg bs at_ n) ∧ RdAt w' rb bs (at_ + n) ∧ Only rb w w' := by
  have hle := h.le
  have hsm := h.small
  have H : Hid (RdAt w rb bs at_) := h
  clear h
  go_enter Try.func30, Try.ntmps30
  go_wp2_with fail
  refine (at_any H.out).mono ?_
  rintro e wz ⟨rfl, hz⟩
  subst wz
  go_wp2_with fail
  refine (skip_any H.out (n : Int)).mono ?_
  have e1 : skipE bs.length at_ (n : Int) = 0 := by unfold skipE; rw [if_neg (by omega), if_neg (by omega)]
  have e2 : skipN bs.length at_ (n : Int) = n := by unfold skipN; rw [if_neg (by omega), if_neg (by omega)]; omega
  rw [e1, e2]
  clear e1 e2
  rintro e w1 ⟨rfl, hr1, ho1⟩
  obtain ⟨a, cap, c0, hBs⟩ : ∃ a cap, w1.cell? ⟨rb, 0, none⟩ = some (.slice a bs.length cap) ∧ Bs w1 (.slice a bs.length cap) bs := by
    obtain ⟨g1, g2, sv, g3, g4, g5⟩ := hr1
    obtain ⟨a, cap, rfl, r⟩ := g4
    exact ⟨a, cap, by simp [World.cell?, g3], a, cap, rfl, r⟩
  obtain ⟨a', cap', hsl, hBt, _⟩ := slice_bs (P := Try.prog) hBs at_ n hn 27 5 Try.underlying27 sizeU8
  have HBt : Hid (Bs w1 (.slice a' n cap') (seg bs at_ n)) := hBt
  have HR1 : Hid (RdAt w1 rb bs (at_ + n)) := hr1
  have HO1 : Hid (Only rb w w1) := ho1
  have hlen := seg_length bs at_ n hn
  clear hr1 ho1 hBs hBt
  go_wp2_with fail
  have he := extend_any HBt.out 0 (by omega)
  rw [hlen, ext_zero] at he
  refine he.mono ?_
  rintro e w2 ⟨rfl, hz2⟩
  have hb2 : Below w1.heap.size w1 w2 := by rw [hz2]; exact (Below.refl _ _).alloc (Nat.le_refl _) _
  have HB2 : Hid (Bs w2 (.slice (some ⟨w1.heap.size, 0, none⟩) n n) (seg bs at_ n)) := by
    have := Bs.made w1 (seg bs at_ n) 5 (by unfold maxLen; omega)
    rw [hlen] at this
    rw [hz2]; exact this
  have HR2 : Hid (RdAt w2 rb bs (at_ + n)) := HR1.out.only hb2
  have HO2 : Hid (Only rb w w2) := HO1.out.trans (Only.of_below hb2)
  clear hz2 hb2 hsl he
  go_wp2
  go_ret2
  exact ⟨_, rfl, HB2.out, HR2.out, HO2.out⟩

theorem take_no {w : World} {rb : Nat} {bs : List UInt8} {at_ : Nat} (h : RdAt w rb bs at_) (n : Int) (c : Int) (hc : skipE bs.length at_ n = c) (hc0 : (c != 0) = true) :
    Calls Try.prog 30 #[.pointer (some ⟨rb, 0, none⟩), .int .i64 n] w fun e w' => e = .returned (.tuple #[.slice none 0 0, .int .i64 c]) ∧ RdAt w' rb bs at_ ∧ Only rb w w' := by
  have H : Hid (RdAt w rb bs at_) := h
  have hN : skipN bs.length at_ n = 0 := by
    unfold skipE at hc; unfold skipN
    split
    · rfl
    · split
      · rfl
      · rename_i a b; rw [if_neg a, if_neg b] at hc; subst hc; simp at hc0
  have HS : Hid (Calls Try.prog 40 #[.pointer (some ⟨rb, 0, none⟩), .int .i64 n] w fun e w' => e = .returned (.int .i64 c) ∧ RdAt w' rb bs at_ ∧ Only rb w w') := by
    have := skip_any h n
    rw [hN, hc] at this
    exact this
  clear h hN hc
  go_enter Try.func30, Try.ntmps30
  go_wp2_with fail
  refine (at_any H.out).mono ?_
  rintro e wz ⟨rfl, hz⟩
  subst wz
  go_wp2_with fail
  refine HS.out.mono ?_
  rintro e w1 ⟨rfl, hr1, ho1⟩
  have HR1 : Hid (RdAt w1 rb bs at_) := hr1
  clear hr1
  go_wp2
  go_ret2
  exact ⟨rfl, HR1.out, ho1⟩

end Go.Proofs.Ytlcfbnbbdpgjiaa
