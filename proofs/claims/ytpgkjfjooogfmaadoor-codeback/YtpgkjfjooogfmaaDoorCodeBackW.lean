
/- CodeBack: the walk. -/
import Derived.Test.YtpgkjfjooogfmaaDoorCodeBack7
import Derived.Test.YtpgkjfjooogfmaaDoorDecode7
import Derived.Test.YtpgkjfjooogfmaaDoorWakes7
import Derived.Test.YtpgkjfjooogfmaaDoorOpen7
namespace Go.Proofs.YtpgkjfjooogfmaaDoor
set_option linter.unusedVariables false
set_option linter.unusedSimpArgs false
open Go.RowKit

set_option maxHeartbeats 4000000 in
set_option maxRecDepth 100000 in
theorem codeBack_walk (v : Value) (l : List Ins) (w : World) (hW : Wd w) (hv : Xs w v l) :
    Calls Tryd.prog 4 #[v] w fun e w' => e = .returned (.bool true) ∧ Below w.heap.size w w' := by
  have HV : Hid (∀ W, Below w.heap.size w W → Xs W v l) := fun W hW => hv.later hW
  have HW : Hid (∀ W, Below w.heap.size w W → Wd W) := fun W h => hW.later h
  have HK : Hid (Wd w) := hW
  obtain ⟨a, c, rfl, hc1, hc2⟩ := hv.shape
  unfold maxLen at hc2
  clear hv hW
  by_cases hl : 400 < l.length
  · go_enter Tryd.func4, Tryd.ntmps4
    go_wp2_with fail
    refine (wakes7_any w HK.out).mono ?_
    rintro e w1 ⟨rfl, hb1⟩
    go_wp2_with fail
    go_ret
    exact ⟨rfl, hb1⟩
  · go_enter Tryd.func4, Tryd.ntmps4
    go_wp2_with fail
    refine (wakes7_any w HK.out).mono ?_
    rintro e w1 ⟨rfl, hb1⟩
    have hs1 := hb1.size
    have hb2 : Below w1.heap.size w1 (w1.alloc (Obj.cells #[] 45)) := (Below.refl _ _).alloc (Nat.le_refl _) _
    have HS2 : Hid (Xs (w1.alloc (Obj.cells #[] 45)) (.slice a l.length c) l) := HV.out _ (hb1.trans (hb2.mono hs1))
    have HO2 : Hid (OwnX (w1.alloc (Obj.cells #[] 45)) w1.heap.size (.slice (some ⟨w1.heap.size, 0, none⟩) 0 0) []) := OwnX.empty w1 w1.heap.size (Nat.le_refl _)
    have HB1 : Hid (Below w.heap.size w w1) := hb1
    clear hb1 hb2
    go_wp2_with (at_builtin; go_must (refine wpList_append_xs rfl _ _ rfl w1.heap.size rfl rfl HO2.out HS2.out (by simp; omega) (by simp) ?_))
    intro v3 w3 ho3 hg3
    have hb3 : Below w1.heap.size w1 w3 := ((Below.refl _ _).alloc (Nat.le_refl _) _).grown hg3 (by simp) (fun k hk => (HO2.out.block k hk).1)
    have hB3 := HB1.out.trans (hb3.mono hs1)
    have hT3 : Xs w3 v3 l := by have h9 := ho3.xs; simpa using h9
    have HB3 : Hid (Below w.heap.size w w3) := hB3
    have HQ := encode_any hT3 (HW.out _ hB3)
    clear hb3 hB3 ho3 hg3 HO2 HS2 HB1 hs1 hT3
    go_wp2_with fail
    refine Calls.mono HQ ?_
    rintro e w4 ⟨hy, hn, hb4⟩
    have HB4 : Hid (Below w.heap.size w w4) := HB3.out.trans (hb4.mono HB3.out.size)
    clear HQ HB3
    by_cases hE : encE l = 0
    · obtain ⟨bv, rfl, hO⟩ := hy hE
      have HE : Hid (encE l = 0) := hE
      have hlen : (encTo l l.length).length ≤ 100000 := by
        have h2 := encTo_length l l.length (Nat.le_refl _)
        have h3 := szL_take_le l l.length
        have h1 := (plE_zero (encE_zero hE).1).1
        omega
      have HQ2 := decode_any hO.bs hlen (HW.out _ HB4.out)
      clear hy hn hb4 hE hO hlen
      go_wp2_with fail
      refine Calls.mono HQ2 ?_
      rintro e w5 ⟨hout, hb5⟩
      have HB5 : Hid (Below w.heap.size w w5) := HB4.out.trans (hb5.mono HB4.out.size)
      rcases hout with ⟨l', m, lv, pv, hR, hRs, rfl, hX, hI⟩ | ⟨_, _, _, _, hno⟩
      · obtain ⟨rfl, hpl⟩ := dec_enc HE.out hR hRs
        rw [hpl] at hI
        have HX5 : Hid (Xs w5 lv m) := hX
        have HI5 : Hid (Is w5 pv (plcs m)) := hI
        have HQ3 := refPlaces_any (HV.out _ HB5.out)
        clear HQ2 HB4 hb5 hR hRs hX hI hpl
        go_wp2_with fail
        refine Calls.mono HQ3 ?_
        rintro e w6 ⟨hy, _, hb6⟩
        obtain ⟨qv, rfl, hQ⟩ := hy (encE_zero HE.out).1
        have hB6 := HB5.out.trans (hb6.mono HB5.out.size)
        have H1 : Hid (Calls Tryd.prog 14 #[lv, .slice a m.length c] w6 fun e w' => e = .returned (.bool true) ∧ ∃ n, w' = w6.drewN n) := refSame7_yes (HX5.out.later hb6) (HV.out _ hB6)
        have H2 : Hid (∀ n, Calls Tryd.prog 12 #[pv, qv] (w6.drewN n) fun e w' => e = .returned (.bool true) ∧ ∃ k, w' = (w6.drewN n).drewN k) := fun n => by
          have := sameI_any (xs := plcs m) (ys := plcs m) (Sl.drewN (Sl.later HI5.out hb6) n) (Sl.drewN hQ.is n)
          rwa [decide_eq_true rfl] at this
        have HB6 : Hid (Below w.heap.size w w6) := hB6
        clear HQ3 hy hQ hb6 hB6 HX5 HI5 HB5
        go_wp2_with fail
        refine Calls.mono H1.out ?_
        rintro e w7 ⟨rfl, n1, rfl⟩
        go_wp2_with fail
        refine Calls.mono (H2.out n1) ?_
        rintro e w7 ⟨rfl, n2, rfl⟩
        go_wp2_with fail
        go_ret
        exact ⟨rfl, Below.drewN HB6.out _⟩
      · obtain ⟨g1, g2⟩ := enc_dec HE.out
        exact absurd ⟨_, _, g1, g2⟩ hno
    · obtain rfl := hn hE
      have hne : (encE l != 0) = true := by rw [bne_iff_ne]; exact hE
      clear hy hn hE hb4
      go_wp2_with fail
      go_ret
      exact ⟨rfl, HB4.out⟩

end Go.Proofs.YtpgkjfjooogfmaaDoor
