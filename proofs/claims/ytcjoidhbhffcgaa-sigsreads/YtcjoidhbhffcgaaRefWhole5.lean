
/- Whole and Field of the references. -/
import Derived.Test.YtcjoidhbhffcgaaSigMath
import Derived.Test.YtcjoidhbhffcgaaRefGet5
import Derived.Test.YtcjoidhbhffcgaaConv
namespace Go.Proofs.Ytcjoidhbhffcgaa
set_option linter.unusedVariables false
set_option linter.unusedSimpArgs false
open Go.RowKit

theorem At.other4 {w : World} {g g' : Nat} {C : Array Value} {t : TypeId} (h : At w g C t) (hg : g ≠ g') (x0 x1 x2 x3 : Value) : At ((((w.setCell ⟨g', 0, none⟩ x0).setCell ⟨g', 1, none⟩ x1).setCell ⟨g', 2, none⟩ x2).setCell ⟨g', 3, none⟩ x3) g C t :=
  (((h.other hg _).other hg _).other hg _).other hg _

/-- What a call that answers a type and an error leaves. -/
def GotW (w w' : World) (t : Ty) (er : Nat) (e : Ending) : Prop :=
  e = .returned (.tuple #[.agg #[.int .i64 t.1, .int .i64 t.2.1, .int .i64 t.2.2.1, .bool t.2.2.2], .int .i64 (er : Int)]) ∧ Below w.heap.size w w'

set_option maxHeartbeats 1000000 in
set_option maxRecDepth 100000 in
theorem whole_any {v : Value} {bs : List UInt8} {w : World} (hv : Bs w v bs) (hl : bs.length ≤ 281474976710656) :
    Calls Try.prog 18 #[v] w fun e w' => GotW w w' (whT bs) (whE bs) e := by
  have hb0 : Below w.heap.size w (w.alloc (.cells #[.int .i64 0, .int .i64 0, .int .i64 0, .bool false] 23)) := (Below.refl _ _).alloc (Nat.le_refl _) _
  have HC : Hid (Calls Try.prog 37 #[v, .int .i64 0] (w.alloc (.cells #[.int .i64 0, .int .i64 0, .int .i64 0, .bool false] 23)) fun e w' => e = .returned (gotv (getT bs 0)) ∧ Below w.heap.size w w' ∧ TyAt w' w.heap.size 0 0 0 false) := by
    refine Calls.mono (refGet_any (hv.later hb0) 0 (Nat.zero_le _) hl) ?_
    rintro e w' ⟨rfl, k⟩
    exact ⟨rfl, hb0.trans (k.mono (by simp)), (TyAt.made w 0 0 0 false).later k⟩
  clear hb0
  obtain ⟨va, cap, rfl, hc1, hc2, _⟩ := hv
  have hW : ∀ g, getT bs 0 = g → Hid (whT bs = (if g.2.2 = 0 ∧ g.2.1 < bs.length then (0, 0, 0, false) else g.1) ∧ whE bs = (if g.2.2 = 0 ∧ g.2.1 < bs.length then 2 else g.2.2)) := by
    rintro g rfl; exact ⟨rfl, rfl⟩
  have hat : (getT bs 0).2.2 = 0 → (getT bs 0).2.1 ≤ bs.length := fun h => (get_ok bs 0 (Nat.zero_le _) h).2.2.2
  obtain ⟨g, hg⟩ : ∃ g, getT bs 0 = g := ⟨_, rfl⟩
  have HW := hW g hg
  rw [hg] at HC hat
  clear hW hg
  obtain ⟨⟨k, i, d, r⟩, at_, er⟩ := g
  simp only at HW hat
  unfold gotv at HC
  simp only at HC
  go_enter Try.func18, Try.ntmps18
  go_wp2_with fail
  refine Calls.mono HC.out ?_
  rintro e w1 ⟨rfl, k1, k2⟩
  clear HC
  by_cases he : er = 0
  · subst he
    have hle := hat rfl
    have hP := At.made w1 #[.int .i64 k, .int .i64 i, .int .i64 d, .bool r, .int .i64 (at_ : Int), .int .i64 0] 68
    have hT := k2.at.next (.cells #[.int .i64 k, .int .i64 i, .int .i64 d, .bool r, .int .i64 (at_ : Int), .int .i64 0] 68)
    have hB := k1.alloc k1.size (.cells #[.int .i64 k, .int .i64 i, .int .i64 d, .bool r, .int .i64 (at_ : Int), .int .i64 0] 68)
    have HL : Hid (w.heap.size < w1.heap.size) := k2.lt
    clear k1 k2
    have pc := hP.cell
    have tc := hT.cell
    have tm := hT.melt
    by_cases h2 : at_ < bs.length
    · have HW2 : Hid (whT bs = (0, 0, 0, false) ∧ whE bs = 2) := ⟨by rw [HW.out.1, if_pos ⟨rfl, h2⟩], by rw [HW.out.2, if_pos ⟨rfl, h2⟩]⟩
      have HF := (hT.ty.set4 0 0 0 false).cells
      have HB := below_set4 hB (Nat.le_refl _) (.int .i64 0) (.int .i64 0) (.int .i64 0) (.bool false)
      clear hP hT hB HW hat
      go_wp2
      exact bodyPost_ret (v := .tuple #[.agg #[.int .i64 0, .int .i64 0, .int .i64 0, .bool false], .int .i64 2]) (by simp [results, Try.results18, go_sem, HF]) rfl (by rw [HW2.out.1, HW2.out.2]; exact ⟨rfl, HB⟩)
    · have HW2 : Hid (whT bs = (k, i, d, r) ∧ whE bs = 0) := ⟨by rw [HW.out.1, if_neg (by simp [h2])], by rw [HW.out.2, if_neg (by simp [h2])]⟩
      have HF := (hT.ty.set4 k i d r).cells
      have HB := below_set4 hB (Nat.le_refl _) (.int .i64 k) (.int .i64 i) (.int .i64 d) (.bool r)
      have pc2 := (hP.other4 (g' := w.heap.size) (by have := HL.out; omega) (.int .i64 k) (.int .i64 i) (.int .i64 d) (.bool r)).cell
      clear hP hT hB HW hat
      go_wp2
      go_region
      go_wp2
      exact bodyPost_ret (v := .tuple #[.agg #[.int .i64 k, .int .i64 i, .int .i64 d, .bool r], .int .i64 0]) (by simp [results, Try.results18, go_sem, HF]) rfl (by rw [HW2.out.1, HW2.out.2]; exact ⟨rfl, Below.drewN HB 1⟩)
  · have hP := At.made w1 #[.int .i64 k, .int .i64 i, .int .i64 d, .bool r, .int .i64 (at_ : Int), .int .i64 (er : Int)] 68
    have hT := k2.at.next (.cells #[.int .i64 k, .int .i64 i, .int .i64 d, .bool r, .int .i64 (at_ : Int), .int .i64 (er : Int)] 68)
    have hB := k1.alloc k1.size (.cells #[.int .i64 k, .int .i64 i, .int .i64 d, .bool r, .int .i64 (at_ : Int), .int .i64 (er : Int)] 68)
    have HL : Hid (w.heap.size < w1.heap.size) := k2.lt
    clear k1 k2
    have pc := hP.cell
    have tc := hT.cell
    have tm := hT.melt
    have he2 : ((er : Int) == 0) = false := by rw [beq_eq_false_iff_ne]; omega
    have HW2 : Hid (whT bs = (k, i, d, r) ∧ whE bs = er) := ⟨by rw [HW.out.1, if_neg (by simp [he])], by rw [HW.out.2, if_neg (by simp [he])]⟩
    have HF := (hT.ty.set4 k i d r).cells
    have HB := below_set4 hB (Nat.le_refl _) (.int .i64 k) (.int .i64 i) (.int .i64 d) (.bool r)
    have pc2 := (hP.other4 (g' := w.heap.size) (by have := HL.out; omega) (.int .i64 k) (.int .i64 i) (.int .i64 d) (.bool r)).cell
    clear hP hT hB HW hat
    go_wp2
    go_region
    go_wp2
    exact bodyPost_ret (v := .tuple #[.agg #[.int .i64 k, .int .i64 i, .int .i64 d, .bool r], .int .i64 (er : Int)]) (by simp [results, Try.results18, go_sem, HF]) rfl (by rw [HW2.out.1, HW2.out.2]; exact ⟨rfl, Below.drewN HB 1⟩)

theorem hd6 (bs : List UInt8) : hdE [6] bs 0 = (if 0 < bs.length then (if byV bs 0 = 6 then 0 else 2) else 1) := by
  unfold hdE
  have : inB [6] (byV bs 0) = decide (6 = byV bs 0) := by simp [inB]
  rw [this]
  by_cases h : byV bs 0 = 6
  · simp [h]
  · have h' : ¬ 6 = byV bs 0 := fun e => h e.symm
    simp [h, h']

set_option maxHeartbeats 1000000 in
set_option maxRecDepth 100000 in
theorem refField_any {v : Value} {bs : List UInt8} {w : World} (hv : Bs w v bs) (hl : bs.length ≤ 281474976710656) :
    Calls Try.prog 19 #[v] w fun e w' => GotW w w' (fieldR bs).1 (fieldR bs).2.2 e := by
  have hb0 : Below w.heap.size w (w.alloc (.cells #[.int .i64 0, .int .i64 0, .int .i64 0, .bool false] 23)) := (Below.refl _ _).alloc (Nat.le_refl _) _
  have hT0 := TyAt.made w 0 0 0 false
  have h6 := hd6 bs
  obtain ⟨va, cap, rfl, hc1, hc2, hc3⟩ := id hv
  unfold maxLen at hc2
  by_cases hbs : bs = []
  · subst hbs
    have HG : Hid (fieldR [] = badR 1) := by show _ = _; unfold fieldR; rw [h6]; rfl
    have HF := (hT0.set4 0 0 0 false).cells
    have HB := below_set4 hb0 (Nat.le_refl _) (.int .i64 0) (.int .i64 0) (.int .i64 0) (.bool false)
    clear hv h6 hc3 hT0 HF HB
    go_enter Try.func19, Try.ntmps19
    go_wp2
    exact bodyPost_ret (v := .tuple #[.agg #[.int .i64 0, .int .i64 0, .int .i64 0, .bool false], .int .i64 1]) (by simp [results, Try.results19, go_sem]) rfl (by rw [HG.out]; exact ⟨rfl, hb0⟩)
  · obtain ⟨b, off, rfl, hb1, hb2⟩ := hc3 hbs
    have hpos : 0 < bs.length := List.length_pos_iff.2 hbs
    have hcell : w.cell? ⟨b, off, none⟩ = some (.int .u8 (byV bs 0 : Int)) := by
      have := hb2 0 hpos
      rw [(by_yes hpos).1]
      simpa using this
    have hbl : (byV bs 0 : Int) < 256 := by have := (by_yes hpos).2.2; omega
    have hne : b ≠ w.heap.size := by omega
    by_cases h0 : byV bs 0 = 6
    · have HE : Hid (hdE [6] bs 0 = 0) := by show _ = _; rw [h6, if_pos hpos, if_pos h0]
      have HFE := field_eq bs HE.out hpos
      rw [h0] at hcell
      obtain ⟨sa, sc, hrun, hsl, hblk⟩ := slice_from (P := Try.prog) hv 1 hpos 26 5 Try.underlying26 (by kernel_rfl)
      have hrun2 : ∀ (W : World) (k1 : IntKind), (Instr.slice 26 (.slice (some ⟨b, off, none⟩) bs.length cap) (some (.int k1 1)) none none).run Try.prog W = .ok (.slice sa (bs.length - 1) sc) W := fun W k1 => hrun W k1
      clear hrun
      have HWh : Hid (Calls Try.prog 18 #[.slice sa (bs.length - 1) sc] (w.alloc (.cells #[.int .i64 0, .int .i64 0, .int .i64 0, .bool false] 23)) fun e w' => GotW w w' (whT (bs.drop 1)) (whE (bs.drop 1)) e ∧ TyAt w' w.heap.size 0 0 0 false) := by
        refine Calls.mono (whole_any (hsl.later hb0) (by simp; omega)) ?_
        rintro e w' ⟨rfl, k⟩
        exact ⟨⟨rfl, hb0.trans (k.mono (by simp))⟩, hT0.later k⟩
      generalize whT (bs.drop 1) = t at *
      generalize whE (bs.drop 1) = er at *
      have HF0 : Hid ((fieldR bs).1 = (if er = 0 ∧ mayT 1 t = false then (0, 0, 0, false) else t) ∧ (fieldR bs).2.2 = (if er = 0 ∧ mayT 1 t = false then 10 else er)) := HFE
      obtain ⟨k, i, d, r⟩ := t
      clear hv h6 hc3 hb2 hsl hblk HFE hb0 hT0 HE h0 hbl
      go_enter Try.func19, Try.ntmps19
      go_wp2_with fail
      refine Calls.mono HWh.out ?_
      rintro e w1 ⟨⟨rfl, k1⟩, k2⟩
      simp only
      clear HWh
      have hP := TyAt.made w1 k i d r
      have hT := k2.later ((Below.refl _ _).alloc (Nat.le_refl _) (.cells #[.int .i64 k, .int .i64 i, .int .i64 d, .bool r] 23))
      have hB := k1.alloc k1.size (.cells #[.int .i64 k, .int .i64 i, .int .i64 d, .bool r] 23)
      clear k1 k2 hcell
      have pc := hP.at.cell
      have tc := hT.at.cell
      have tm := hT.melt
      by_cases he : er = 0
      · subst he
        by_cases hm : mayB 1 k i d r = true
        · have HW2 : Hid ((fieldR bs).1 = (k, i, d, r) ∧ (fieldR bs).2.2 = 0) := ⟨by rw [HF0.out.1, if_neg (by simp [mayT, hm])], by rw [HF0.out.2, if_neg (by simp [mayT, hm])]⟩
          go_wp2_with fail
          refine (where1_any k i d r _).mono ?_
          rintro e w2 ⟨rfl, hb⟩
          have hT2 := hT.later hb
          have hP2 := hP.later hb
          have tc2 := hT2.at.cell
          have tm2 := hT2.melt
          have pc2 := hP2.at.cell
          have HF := (hT2.set4 k i d r).cells
          have HB := below_set4 (hB.trans (hb.mono hB.size)) (Nat.le_refl _) (.int .i64 k) (.int .i64 i) (.int .i64 d) (.bool r)
          clear hT hP hB hb pc tc tm hT2 hP2
          go_wp2
          exact bodyPost_ret (v := .tuple #[.agg #[.int .i64 k, .int .i64 i, .int .i64 d, .bool r], .int .i64 0]) (by simp [results, Try.results19, go_sem, HF]) rfl (by rw [HW2.out.1, HW2.out.2]; exact ⟨rfl, HB⟩)
        · have hm' : mayB 1 k i d r = false := by simpa using hm
          have HW2 : Hid ((fieldR bs).1 = (0, 0, 0, false) ∧ (fieldR bs).2.2 = 10) := ⟨by rw [HF0.out.1, if_pos (by simp [mayT, hm'])], by rw [HF0.out.2, if_pos (by simp [mayT, hm'])]⟩
          clear hm
          go_wp2_with fail
          refine (where1_any k i d r _).mono ?_
          rintro e w2 ⟨rfl, hb⟩
          have hT2 := hT.later hb
          have tc2 := hT2.at.cell
          have tm2 := hT2.melt
          have HF := (hT2.set4 0 0 0 false).cells
          have HB := below_set4 (hB.trans (hb.mono hB.size)) (Nat.le_refl _) (.int .i64 0) (.int .i64 0) (.int .i64 0) (.bool false)
          clear hT hP hB hb pc tc tm hT2
          go_wp2
          exact bodyPost_ret (v := .tuple #[.agg #[.int .i64 0, .int .i64 0, .int .i64 0, .bool false], .int .i64 10]) (by simp [results, Try.results19, go_sem, HF]) rfl (by rw [HW2.out.1, HW2.out.2]; exact ⟨rfl, HB⟩)
      · have he2 : ((er : Int) == 0) = false := by rw [beq_eq_false_iff_ne]; omega
        have HW2 : Hid ((fieldR bs).1 = (k, i, d, r) ∧ (fieldR bs).2.2 = er) := ⟨by rw [HF0.out.1, if_neg (by simp [he])], by rw [HF0.out.2, if_neg (by simp [he])]⟩
        have HF := (hT.set4 k i d r).cells
        have HB := below_set4 hB (Nat.le_refl _) (.int .i64 k) (.int .i64 i) (.int .i64 d) (.bool r)
        clear hT hP hB he HF0
        go_wp2
        exact bodyPost_ret (v := .tuple #[.agg #[.int .i64 k, .int .i64 i, .int .i64 d, .bool r], .int .i64 (er : Int)]) (by simp [results, Try.results19, go_sem, HF]) rfl (by rw [HW2.out.1, HW2.out.2]; exact ⟨rfl, HB⟩)
    · have HG : Hid (fieldR bs = badR 2) := by
        show _ = _
        have : hdE [6] bs 0 = 2 := by rw [h6, if_pos hpos, if_neg h0]
        unfold fieldR; rw [this]; rfl
      have h0' : ((byV bs 0 : Int) != 6) = true := by rw [bne_iff_ne]; omega
      clear hv h6 hc3 hb2 h0 hT0
      go_enter Try.func19, Try.ntmps19
      go_wp2
      exact bodyPost_ret (v := .tuple #[.agg #[.int .i64 0, .int .i64 0, .int .i64 0, .bool false], .int .i64 2]) (by simp [results, Try.results19, go_sem]) rfl (by rw [HG.out]; exact ⟨rfl, hb0⟩)

end Go.Proofs.Ytcjoidhbhffcgaa
