
/- Places of the references. -/
import Derived.Test.YtpgkjfjooogfmaaDoorPlaces7
namespace Go.Proofs.YtpgkjfjooogfmaaDoor
set_option linter.unusedVariables false
set_option linter.unusedSimpArgs false
open Go.RowKit

theorem places_any {v : Value} {l : List Ins} {w : World} (hX : Xs w v l) (hW : Wd w) :
    Calls Tryd.prog 8 #[v] w fun e w' => PlR w w' l e := by
  by_cases hl : 160 < l.length
  · exact places_long hX hl
  · by_cases hne : l = []
    · subst hne
      obtain ⟨a, c, rfl, _, _⟩ := hX.shape
      exact places_none a c w
    · obtain ⟨b, off, cap, rfl, h1, h2, hb, hc⟩ := hX.parts hne
      exact places_some hb hc hW h1 h2 (by omega)

theorem refPlaces_long {v : Value} {l : List Ins} {w : World} (hX : Xs w v l) (hl : 160 < l.length) :
    Calls Tryd.prog 9 #[v] w fun e w' => PlR w w' l e := by
  have HE : Hid (plE l = 4) := by show _ = _; unfold plE; rw [if_pos hl]
  obtain ⟨a, c, rfl, h1, h2⟩ := hX.shape
  unfold maxLen at h2
  go_enter Tryd.func9, Tryd.ntmps9
  go_wp2
  go_ret2
  exact ⟨fun h => absurd h (by rw [HE.out]; decide), fun _ => by rw [HE.out]; rfl, Below.refl _ _⟩

theorem own_first (w : World) (n : Int) : OwnI (w.alloc (Obj.cells #[.int .i64 n] 3)) w.heap.size (.slice none 0 0) [] := OwnI.nil _ _

set_option maxHeartbeats 4000000 in
set_option maxRecDepth 100000 in
theorem refPlaces_none (a : Option Addr) (cap : Nat) (w : World) :
    Calls Tryd.prog 9 #[.slice a 0 cap] w fun e w' => PlR w w' [] e := by
  go_enter Tryd.func9, Tryd.ntmps9
  go_wp2_with (at_builtin; go_must (refine wpList_append_int rfl _ _ rfl w.heap.size rfl rfl (OwnI.nil _ _) (one_int w 0 _ rfl) (by simp) (by simp) ?_; intro v1 w1 ho1 hg1))
  have hB1 : Below w.heap.size w w1 := ((Below.refl _ _).alloc (Nat.le_refl _) _).trans ⟨hg1.os, hg1.tape, hg1.output, hg1.size, fun k hk => (show World.grownBy _ w1 none from hg1).block k (by simp; omega) (by simp)⟩
  have HO : Hid (OwnI w1 w.heap.size v1 ([] ++ [0])) := ho1
  clear ho1 hg1
  refine wp_loop_rounds 1 ?_; rw [rounds_succ]
  go_wp2
  go_ret2
  exact ⟨fun _ => ⟨_, rfl, by rw [plcs_nil]; exact HO.out⟩, fun h => absurd rfl h, hB1⟩

set_option maxHeartbeats 4000000 in
set_option maxRecDepth 100000 in
theorem refPlaces_some {b off cap : Nat} {l : List Ins} {w : World} (hb : b < w.heap.size) (hc : ∀ i (hi : i < l.length), Six w b (off + i * 6) l[i]) (h1 : l.length ≤ cap) (h2 : cap ≤ maxLen) (hl : l.length ≤ 160) :
    Calls Tryd.prog 9 #[.slice (some ⟨b, off, none⟩) l.length cap] w fun e w' => PlR w w' l e := by
  unfold maxLen at h2
  have HC : Hid (∀ i (hi : i < l.length), Six w b (off + i * 6) l[i]) := hc
  clear hc
  go_enter Tryd.func9, Tryd.ntmps9
  go_wp2_with (at_builtin; go_must (refine wpList_append_int rfl _ _ rfl w.heap.size rfl rfl (OwnI.nil _ _) (one_int w 0 _ rfl) (by simp) (by simp) ?_; intro v1 w1 ho1 hg1))
  have hB1 : Below w.heap.size w w1 := ((Below.refl _ _).alloc (Nat.le_refl _) _).trans ⟨hg1.os, hg1.tape, hg1.output, hg1.size, fun k hk => (show World.grownBy _ w1 none from hg1).block k (by simp; omega) (by simp)⟩
  have HO1 : Hid (OwnI w1 w.heap.size v1 ([] ++ [0])) := ho1
  have HB1 : Hid (Below w.heap.size w w1) := hB1
  clear ho1 hg1 hB1
  go_loopw [4, 5, 6] (fun u a z wr => ∃ q : Nat, q ≤ l.length ∧ z = .int .i64 (q : Int) ∧ a = .int .i64 (szL (l.take q) : Int) ∧ OwnI wr w.heap.size u (plcs (l.take q)) ∧ Below w.heap.size w wr ∧ (l.take q).all rawB = true) (fun _ _ z _ => l.length - (intOf z).toNat)
  case atStart => exact ⟨0, Nat.zero_le _, rfl, rfl, by rw [List.take_zero, plcs_nil]; exact HO1.out, HB1.out, by simp⟩
  case round =>
    obtain ⟨q, hq, rfl, rfl, ho, hB, hall⟩ := hrel
    have HA : Hid ((l.take q).all rawB = true) := hall
    have HB : Hid (Below w.heap.size w wr) := hB
    have HOW : Hid (OwnI wr w.heap.size u4 (plcs (l.take q))) := ho
    have hsw := hB.size
    clear hall HO1 HB1
    by_cases hql : q < l.length
    · obtain ⟨c0, c1, c2, c3, c4, c5⟩ := (HC.out q hql).below hB hb
      have HS : Hid (plcs (l.take (q + 1)) = plcs (l.take q) ++ [((szL (l.take q) + 1 + opw l[q] : Nat) : Int)]) := plcs_take_succ l q hql
      have HSz : Hid (szL (l.take (q + 1)) = szL (l.take q) + 1 + opw l[q]) := szL_succ l q hql
      have HT : Hid (l.take (q + 1) = l.take q ++ [l[q]]) := by show _ = _; rw [List.take_succ_eq_append_getElem hql]
      have HBad : Hid (rawB l[q] = false → plE l = 17) := plE_bad hl q hql
      have hsz := szL_take_le l q
      have how : opw l[q] = widN (opK l[q].1) := rfl
      rw [how] at HS HSz
      clear how
      have hpl : (plcs (l.take q)).length = q + 1 := by rw [plcs_length]; simp; omega
      generalize l[q] = x at *
      obtain ⟨op, n, k, i, d, r⟩ := x
      simp only at c0 c1 c2 c3 c4 c5 HS HSz
      generalize szL (l.take q) = pl at *
      generalize plcs (l.take q) = L at *
      have hwl := widN_le (opK op)
      have HC2 : Hid (∀ W, Below wr.heap.size wr W → W.cell? ⟨b, off + q * 6, none⟩ = some (.int .i64 op)) := fun W hW => by rw [← c0]; exact hW.cell (p := ⟨b, off + q * 6, none⟩) (by show b < _; omega)
      go_wp2_with fail
      refine (refRaw_any op n k i d r _).mono ?_
      rintro e w1 ⟨rfl, hb1⟩
      cases hr : rawB (op, n, k, i, d, r) with
      | false =>
        have HE : Hid (plE l = 17) := HBad.out hr
        go_wp2_with fail
        go_ret2
        exact ⟨fun h => absurd h (by rw [HE.out]; decide), fun _ => by rw [HE.out]; rfl, HB.out.trans (hb1.mono hsw)⟩
      | true =>
        have HR : Hid (rawB (op, n, k, i, d, r) = true) := hr
        have hcx := HC2.out w1 hb1
        clear hr c0 c1 c2 c3 c4 c5 hB ho
        have hsz1 := hb1.size
        go_wp2_with fail
        refine (refWidth7_any op _).mono ?_
        rintro e w2 ⟨rfl, hb2⟩
        have hb3 : Below wr.heap.size wr w2 := hb1.trans (hb2.mono hsz1)
        have HO2 : Hid (OwnI w2 w.heap.size u4 L) := HOW.out.later hb3
        have hB2 := HB.out.trans (hb3.mono hsw)
        have hs2 := hB2.size
        generalize hwk : widN (opK op) = wd at *
        clear hwk hb1 hb2 hb3 hcx
        have hbl := HO2.out.block
        go_wp2_with (at_builtin; go_must (refine wpList_append_int rfl _ _ rfl w.heap.size rfl rfl (HO2.out.later ((Below.refl _ _).alloc (Nat.le_refl _) _)) (one_int w2 _ _ rfl) (by omega) (by simp; omega) ?_; intro v3 w3 ho3 hg3))
        have hB3 : Below w.heap.size w2 w3 := ((Below.refl _ _).alloc (by omega) _).trans ⟨hg3.os, hg3.tape, hg3.output, hg3.size, fun k hk => hg3.block k (by simp; omega) (by intro e; have := hbl k e.symm; omega)⟩
        go_roundw
        case rel => exact ⟨q + 1, by omega, by go_num, by rw [HSz.out]; go_num, by rw [HS.out]; simpa [Int.add_assoc] using ho3, hB2.trans hB3, by rw [HT.out, List.all_append, HA.out]; simpa using HR.out⟩
        case measure => simp [intOf]; omega
    · have hqq : q = l.length := by omega
      subst hqq
      have HE : Hid (plE l = 0) := by
        show _ = _
        have := HA.out
        rw [List.take_length] at this
        exact plE_of hl this
      have HL : Hid (OwnI wr w.heap.size u4 (plcs l)) := by
        have := HOW.out
        rw [List.take_length] at this
        exact this
      clear ho HOW
      go_wp2
      go_ret2
      exact ⟨fun _ => ⟨_, rfl, HL.out⟩, fun h => absurd HE.out h, HB.out⟩

theorem refPlaces_any {v : Value} {l : List Ins} {w : World} (hX : Xs w v l) :
    Calls Tryd.prog 9 #[v] w fun e w' => PlR w w' l e := by
  by_cases hl : 160 < l.length
  · exact refPlaces_long hX hl
  · by_cases hne : l = []
    · subst hne
      obtain ⟨a, c, rfl, _, _⟩ := hX.shape
      exact refPlaces_none a c w
    · obtain ⟨b, off, cap, rfl, h1, h2, hb, hc⟩ := hX.parts hne
      exact refPlaces_some hb hc h1 h2 (by omega)

end Go.Proofs.YtpgkjfjooogfmaaDoor
