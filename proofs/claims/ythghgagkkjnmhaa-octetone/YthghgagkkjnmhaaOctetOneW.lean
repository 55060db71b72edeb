/- OctetOne: the walk. -/
import Derived.Test.YthghgagkkjnmhaaRows
import Derived.Test.YthghgagkkjnmhaaWakes
import Derived.Test.YthghgagkkjnmhaaAppend
import Derived.Test.YthghgagkkjnmhaaPackMath
namespace Go.Proofs.Ythghgagkkjnmhaa
set_option linter.unusedVariables false
set_option linter.unusedSimpArgs false
open Go.RowKit

set_option maxRecDepth 100000 in
set_option maxHeartbeats 1000000 in
theorem octetOne_walk (v : Value) (bs : List UInt8) (w : World) (hv : Bs w v bs) (hz : bs.length ≤ 140737488351232) :
    Calls Try.prog 6 #[v] w fun e w' => e = .returned (.bool true) ∧ Below w.heap.size w w' := by
  have hv0 := hv
  obtain ⟨a, cap, rfl, h1, h2, h3⟩ := hv
  have HV : Hid (Bs w (.slice a bs.length cap) bs) := hv0
  clear hv0 h3
  go_enter Try.func6, Try.ntmps6
  go_wp2_with fail
  refine (wakes_any _).mono ?_
  rintro e w1 ⟨rfl, hb1⟩
  have hs1 := hb1.size
  have HV1 : Hid (Bs w1 (.slice a bs.length cap) bs) := HV.out.later hb1
  have HB1 : Hid (Below w.heap.size w w1) := hb1
  clear hb1 HV
  go_wp2_with (at_builtin; refine wpList_append_bs rfl _ _ _ rfl (w1.heap.size) 5 Try.underlying22 Try.infoU8 rfl rfl (Own.lit w1 w1.heap.size 5 [] #[] 0 (Nat.le_refl _) rfl rfl (by decide)) (HV1.out.later ((Below.refl _ _).alloc (Nat.le_refl _) _)) (by simp; omega) (by simp) ?_; intro v2 w2 ho2 hg2)
  obtain ⟨hO, hB, _, hs2⟩ := copied ho2 hg2
  have HO2 : Hid (Bs w2 v2 bs) := hO
  have HB2 : Hid (Below w1.heap.size w1 w2) := hB
  clear ho2 hg2 hO hB
  refine (new_any HO2.out (by omega)).mono ?_
  rintro e w3 ⟨rfl, hr3, hb3⟩
  have HR3 : Hid (RdAt w3 (w2.heap.size + 1) bs 0) := hr3
  have HB3 : Hid (Below w1.heap.size w1 w3) := HB2.out.trans (hb3.mono (by omega))
  have hs3 := hb3.size
  clear hr3 hb3 HB2 HO2
  go_wp2_with fail
  refine (packed_any HR3.out).mono ?_
  rintro e w4 ⟨rfl, hr4, ho4⟩
  have HR4 : Hid (RdAt w4 (w2.heap.size + 1) bs (0 + (unp bs 0).2.1)) := hr4
  have HB4 : Hid (Below w1.heap.size w1 w4) := HB3.out.trans (ho4.below (by omega) (by omega))
  have hs4 := ho4.size
  clear hr4 ho4 HB3 HR3
  by_cases he : (unp bs 0).2.2 = 0
  · obtain ⟨g1, g2, g3, g4⟩ := unp_ok bs 0 he
    have HK : Hid (pkL (unp bs 0).1 = seg bs 0 (unp bs 0).2.1) := g3
    clear g3
    rw [he]
    rw [Nat.zero_add] at HR4 g1
    generalize (unp bs 0).1 = n at *
    generalize (unp bs 0).2.1 = s at *
    go_wp2_with fail
    refine (pack_bs (Bs.nil w4) (by simp) n g2 s (by rw [HK.out, seg_length bs 0 s (by omega)]; simp)).mono ?_
    rintro e w5 ⟨rfl, hp5, hb5, hs5⟩
    have HP5 : Hid (Bs w5 (.slice (some ⟨w4.heap.size, 0, none⟩) s s) (bs.take s)) := by
      have e : ([] : List UInt8) ++ pkL n = bs.take s := by rw [HK.out]; simp [seg]
      rw [e] at hp5; exact hp5
    have HR5 : Hid (RdAt w5 (w2.heap.size + 1) bs s) := HR4.out.only hb5
    have HB5 : Hid (Below w1.heap.size w1 w5) := HB4.out.trans (hb5.mono (by omega))
    have hne : bs ≠ [] := by intro e; subst e; simp at g1; omega
    have hv5 : Bs w5 (.slice a bs.length cap) bs := HV1.out.later (HB5.out.mono (Nat.le_refl _))
    obtain ⟨b, off, rfl, hb, hc⟩ : ∃ b off, a = some ⟨b, off, none⟩ ∧ True ∧ True := by
      obtain ⟨a', c', he, _, _, h3⟩ := hv5
      obtain ⟨b, off, rfl, _⟩ := h3 hne
      simp only [Value.slice.injEq] at he
      exact ⟨b, off, he.1, trivial, trivial⟩
    have HT5 : Hid (Bs w5 (.slice (some ⟨b, off, none⟩) s cap) (bs.take s)) := bs_take s g1 hv5
    clear hp5 hb5 HR4 HB4 HK hv5 hb hc hne HV1
    go_wp2_with fail
    refine (at_any HR5.out).mono ?_
    rintro e w6 ⟨rfl, hz6⟩
    subst w6
    go_wp2_with fail
    refine (same_any HP5.out HT5.out).mono ?_
    rintro e w7 ⟨rfl, n7, rfl⟩
    rw [show decide (bs.take s = bs.take s) = true from by simp]
    go_wp2
    go_ret
    exact ⟨rfl, HB1.out.trans (Below.drewN (HB5.out.mono hs1) n7)⟩
  · obtain ⟨g1, g2⟩ := unp_err bs 0 he
    have hne : (((unp bs 0).2.2 : Int) != 0) = true := by rw [bne_iff_ne]; omega
    rw [g1]
    rw [g2] at HR4
    generalize (unp bs 0).2.2 = e at *
    clear g1 g2
    go_wp2_with fail
    refine (at_any HR4.out).mono ?_
    rintro e w5 ⟨rfl, hz⟩
    subst w5
    go_wp2
    go_ret
    exact ⟨rfl, HB1.out.trans (HB4.out.mono hs1)⟩

end Go.Proofs.Ythghgagkkjnmhaa
