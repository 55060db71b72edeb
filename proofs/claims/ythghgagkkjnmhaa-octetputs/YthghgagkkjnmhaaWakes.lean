/- wakes of layer 1's statements: the examples hold. -/
import Derived.Test.YthghgagkkjnmhaaRows
import Derived.Test.YthghgagkkjnmhaaPack
import Derived.Test.YthghgagkkjnmhaaSame
namespace Go.Proofs.Ythghgagkkjnmhaa
set_option linter.unusedVariables false
set_option linter.unusedSimpArgs false
open Go.RowKit

theorem unp_ex : unp [192, 0, 64, 0] 0 = (16384, 4, 0) := by decide +kernel

theorem bs_lit (w : World) (bs : List UInt8) (C : Array Value) (e : TypeId) (n : Nat) (hC : C = (u8s bs).toArray) (hn : n = bs.length) (hm : bs.length ≤ maxLen) : Bs (w.alloc (.cells C e)) (.slice (some ⟨w.heap.size, 0, none⟩) n n) bs := by
  subst hC hn; exact Bs.made w bs e hm

set_option maxRecDepth 100000 in
set_option maxHeartbeats 1000000 in
theorem wakes_any (w : World) :
    Calls Try.prog 8 #[] w fun e w' => e = .returned (.bool true) ∧ Below w.heap.size w w' := by
  have H128 : Hid (pkL 128 = [128, 128]) := by show _ = _; decide
  go_enter Try.func8, Try.ntmps8
  go_wp2_with fail
  refine (pack_bs (Bs.nil w) (by simp) 128 (by omega) 2 (by rw [H128.out]; rfl)).mono ?_
  rintro e w1 ⟨rfl, ha, hb1, hs1⟩
  rw [H128.out] at ha
  have HA : Hid (Bs w1 (.slice (some ⟨w.heap.size, 0, none⟩) 2 2) [128, 128]) := ha
  clear ha
  go_wp2_with fail
  refine (new_any (bs_lit w1 [192, 0, 64, 0] _ _ _ rfl rfl (by decide)) (by decide)).mono ?_
  rintro e w2 ⟨rfl, hr, hb2⟩
  simp only [World.size_alloc] at *
  have hb12 : Below w1.heap.size w1 w2 := ((Below.refl _ _).alloc (Nat.le_refl _) _).trans (hb2.mono (by omega))
  have HR : Hid (RdAt w2 (w1.heap.size + 1 + 1) [192, 0, 64, 0] 0) := hr
  have HB : Hid (Below w1.heap.size w1 w2) := hb12
  have hs2 := hb2.size
  simp only [World.size_alloc] at hs2
  clear hr hb2 hb12
  go_wp2_with fail
  refine (packed_any HR.out).mono ?_
  rw [unp_ex]
  rintro e w3 ⟨rfl, hr3, ho3⟩
  have HR3 : Hid (RdAt w3 (w1.heap.size + 1 + 1) [192, 0, 64, 0] 4) := hr3
  have HB3 : Hid (Below w1.heap.size w1 w3) := HB.out.trans (ho3.below (by omega) (by omega))
  have hs3 := ho3.size
  clear hr3 ho3
  go_wp2_with fail
  refine (same_any ((HA.out.later HB3.out).later ((Below.refl _ _).alloc (Nat.le_refl _) _)) (bs_lit w3 [128, 128] _ _ _ rfl rfl (by decide))).mono ?_
  rintro e w4 ⟨rfl, n4, rfl⟩
  have HR4 : Hid (RdAt ((w3.alloc (.cells #[.int .u8 128, .int .u8 128] 5)).drewN n4) (w1.heap.size + 1 + 1) [192, 0, 64, 0] 4) := (HR3.out.only ((Below.refl _ _).alloc (Nat.le_refl _) _)).drewN n4
  have ht : decide (([128, 128] : List UInt8) = [128, 128]) = true := by decide
  rw [ht]
  go_wp2_with fail
  refine (at_any HR4.out).mono ?_
  rintro e w5 ⟨rfl, hz⟩
  subst w5
  go_wp2
  go_ret
  exact ⟨rfl, hb1.trans (Below.drewN ((HB3.out.mono (by omega)).alloc (by omega) _) n4)⟩

end Go.Proofs.Ythghgagkkjnmhaa
