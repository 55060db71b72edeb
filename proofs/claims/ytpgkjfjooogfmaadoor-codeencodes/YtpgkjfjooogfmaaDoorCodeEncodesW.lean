
/- CodeEncodes: the walk. -/
import Derived.Test.YtpgkjfjooogfmaaDoorRefEnc7
import Derived.Test.YtpgkjfjooogfmaaDoorWakes7
import Derived.Test.YtpgkjfjooogfmaaDoorOpen7
import Derived.Test.YtpgkjfjooogfmaaDoorSame
namespace Go.Proofs.YtpgkjfjooogfmaaDoor
set_option linter.unusedVariables false
set_option linter.unusedSimpArgs false
open Go.RowKit

set_option maxHeartbeats 4000000 in
set_option maxRecDepth 100000 in
theorem codeEncodes_walk (v : Value) (l : List Ins) (w : World) (hW : Wd w) (hv : Xs w v l) :
    Calls Tryd.prog 3 #[v] w fun e w' => e = .returned (.bool true) ∧ Below w.heap.size w w' := by
  have HV : Hid (∀ W, Below w.heap.size w W → Xs W v l) := fun W hW => hv.later hW
  have HW : Hid (∀ W, Below w.heap.size w W → Wd W) := fun W h => hW.later h
  have HK : Hid (Wd w) := hW
  obtain ⟨a, c, rfl, hc1, hc2⟩ := hv.shape
  unfold maxLen at hc2
  clear hv hW
  by_cases hl : 400 < l.length
  · go_enter Tryd.func3, Tryd.ntmps3
    go_wp2_with fail
    refine (wakes7_any w HK.out).mono ?_
    rintro e w1 ⟨rfl, hb1⟩
    go_wp2_with fail
    go_ret
    exact ⟨rfl, hb1⟩
  · go_enter Tryd.func3, Tryd.ntmps3
    go_wp2_with fail
    refine (wakes7_any w HK.out).mono ?_
    rintro e w1 ⟨rfl, hb1⟩
    have hs1 := hb1.size
    have hb2 : Below w1.heap.size w1 (w1.alloc (Obj.cells #[] 45)) := (Below.refl _ _).alloc (Nat.le_refl _) _
    have HS2 : Hid (Xs (w1.alloc (Obj.cells #[] 45)) (.slice a l.length c) l) := HV.out _ (hb1.trans (hb2.mono hs1))
    have HO2 : Hid (OwnX (w1.alloc (Obj.cells #[] 45)) w1.heap.size (.slice (some ⟨w1.heap.size, 0, none⟩) 0 0) []) := OwnX.empty w1 w1.heap.size (Nat.le_refl _)
    have HB1 : Hid (Below w.heap.size w w1) := hb1
    clear hb1 hb2
    go_wp2_with (at_builtin; go_must (refine wpList_append_xs rfl _ _ rfl w1.heap.size rfl rfl HO2.out HS2.out (by simp; omega) (by simp) ?_))
    intro v3 w3 ho3 hg3
    have hb3 : Below w1.heap.size w1 w3 := ((Below.refl _ _).alloc (Nat.le_refl _) _).grown hg3 (by simp) (fun k hk => (HO2.out.block k hk).1)
    have hB3 := HB1.out.trans (hb3.mono hs1)
    have hT3 : Xs w3 v3 l := by have h9 := ho3.xs; simpa using h9
    have HB3 : Hid (Below w.heap.size w w3) := hB3
    have HT3 : Hid (Xs w3 v3 l) := hT3
    have HQ := places_any hT3 (HW.out _ hB3)
    clear hb3 hB3 ho3 hg3 HO2 HS2 HB1 hs1 hT3
    go_wp2_with fail
    refine Calls.mono HQ ?_
    rintro e w4 hP
    obtain ⟨pv, rfl, hpv⟩ := hP.uni
    have hB4 := HB3.out.trans (hP.below.mono HB3.out.size)
    have HT4 : Hid (Xs w4 v3 l) := HT3.out.later hP.below
    have HPV4 : Hid (Is w4 pv (plL l)) := hpv
    have HB4 : Hid (Below w.heap.size w w4) := hB4
    have HQ2 := refPlaces_any (HV.out _ hB4)
    clear HQ hP hpv HB3 HT3 hB4
    go_wp2_with fail
    refine Calls.mono HQ2 ?_
    rintro e w5 hP
    obtain ⟨qv, rfl, hqv⟩ := hP.uni
    have hB5 := HB4.out.trans (hP.below.mono HB4.out.size)
    have HT5 : Hid (Xs w5 v3 l) := HT4.out.later hP.below
    have HPV5 : Hid (Is w5 pv (plL l)) := Sl.later HPV4.out hP.below
    have HQV5 : Hid (Is w5 qv (plL l)) := hqv
    have HB5 : Hid (Below w.heap.size w w5) := hB5
    have HQ3 := encode_any HT5.out (HW.out _ hB5)
    clear HQ2 hP hqv HB4 HT4 hB5 HPV4
    go_wp2_with fail
    refine Calls.mono HQ3 ?_
    rintro e w6 hP
    obtain ⟨bv, rfl, hbv⟩ := hP.uni
    have hB6 := HB5.out.trans (hP.below.mono HB5.out.size)
    have HT6 : Hid (Xs w6 v3 l) := HT5.out.later hP.below
    have HPV6 : Hid (Is w6 pv (plL l)) := Sl.later HPV5.out hP.below
    have HQV6 : Hid (Is w6 qv (plL l)) := Sl.later HQV5.out hP.below
    have HBV6 : Hid (Bs w6 bv (encL l)) := hbv
    have HB6 : Hid (Below w.heap.size w w6) := hB6
    have HQ4 := refEncode_any (HV.out _ hB6)
    clear HQ3 hP hbv HB5 HT5 hB6 HPV5 HQV5
    go_wp2_with fail
    refine Calls.mono HQ4 ?_
    rintro e w7 hP
    obtain ⟨cv, rfl, hcv⟩ := hP.uni
    have hB7 := HB6.out.trans (hP.below.mono HB6.out.size)
    have hT7 := HT6.out.later hP.below
    have hPV7 : Is w7 pv (plL l) := Sl.later HPV6.out hP.below
    have hQV7 : Is w7 qv (plL l) := Sl.later HQV6.out hP.below
    have hBV7 := HBV6.out.later hP.below
    have hV7 := HV.out _ hB7
    have H1 : Hid (Calls Tryd.prog 12 #[pv, qv] w7 fun e w' => e = .returned (.bool true) ∧ ∃ n, w' = w7.drewN n) := by
      have := sameI_any hPV7 hQV7
      rwa [decide_eq_true rfl] at this
    have H2 : Hid (∀ n, Calls Tryd.prog 13 #[bv, cv] (w7.drewN n) fun e w' => e = .returned (.bool true) ∧ ∃ m, w' = (w7.drewN n).drewN m) := fun n => by
      have := same_any (hBV7.drewN n) (hcv.drewN n)
      rwa [decide_eq_true rfl] at this
    have H3 : Hid (∀ n, Calls Tryd.prog 14 #[v3, .slice a l.length c] (w7.drewN n) fun e w' => e = .returned (.bool true) ∧ ∃ m, w' = (w7.drewN n).drewN m) := fun n => refSame7_yes (hT7.drewN n) (hV7.drewN n)
    have HB7 : Hid (Below w.heap.size w w7) := hB7
    clear hP hcv hB7 hT7 hPV7 hQV7 hBV7 hV7 HQ4 HB6 HT6 HPV6 HQV6 HBV6
    generalize plE l = pe at *
    generalize encE l = ee at *
    go_wp2_with fail
    refine Calls.mono H1.out ?_
    rintro e w8 ⟨rfl, n1, rfl⟩
    go_wp2_with fail
    refine Calls.mono (H2.out n1) ?_
    rintro e w8 ⟨rfl, n2, rfl⟩
    rw [World.drewN_drewN]
    go_wp2_with fail
    refine Calls.mono (H3.out (n1 + n2)) ?_
    rintro e w8 ⟨rfl, n3, rfl⟩
    go_wp2_with fail
    go_ret
    exact ⟨rfl, Below.drewN HB7.out _⟩

end Go.Proofs.YtpgkjfjooogfmaaDoor
