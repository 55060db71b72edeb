
/- Slices of instructions that came in; the table of widths. -/
import Derived.Test.YtpgkjfjooogfmaaDoorIns7
import Derived.Test.YtpgkjfjooogfmaaDoorRaw7
import Derived.Lib.LaidTab
namespace Go.Proofs.YtpgkjfjooogfmaaDoor
set_option linter.unusedVariables false
set_option linter.unusedSimpArgs false
open Go.ChangeShapes Go.WideShapes Go.ChangeAt Go.RowKit

theorem xs_of_six {W : World} {b off : Nat} {l : List Ins} (h : ∀ i (hi : i < l.length), Six W b (off + i * 6) l[i]) : ∀ j u, (xcL l)[j]? = some u → W.cell? ⟨b, off + j, none⟩ = some u := by
  intro j u hj
  have hjl : j < 6 * l.length := by rw [← xcL_length]; exact (List.getElem?_eq_some_iff.1 hj).1
  have hi : j / 6 < l.length := by omega
  obtain ⟨g0, g1, g2, g3, g4, g5⟩ := xcL_get l (j / 6) hi
  obtain ⟨d0, d1, d2, d3, d4, d5⟩ := h (j / 6) hi
  rw [← g0] at d0
  rw [← g1] at d1
  rw [← g2] at d2
  rw [← g3] at d3
  rw [← g4] at d4
  rw [← g5] at d5
  rw [← hj]
  have hcs : j % 6 = 0 ∨ j % 6 = 1 ∨ j % 6 = 2 ∨ j % 6 = 3 ∨ j % 6 = 4 ∨ j % 6 = 5 := by omega
  rcases hcs with q | q | q | q | q | q
  · rw [show j / 6 * 6 = j by omega] at d0; exact d0
  · rw [show off + j / 6 * 6 + 1 = off + j by omega, show j / 6 * 6 + 1 = j by omega] at d1; exact d1
  · rw [show off + j / 6 * 6 + 2 = off + j by omega, show j / 6 * 6 + 2 = j by omega] at d2; exact d2
  · rw [show off + j / 6 * 6 + 3 = off + j by omega, show j / 6 * 6 + 3 = j by omega] at d3; exact d3
  · rw [show off + j / 6 * 6 + 4 = off + j by omega, show j / 6 * 6 + 4 = j by omega] at d4; exact d4
  · rw [show off + j / 6 * 6 + 5 = off + j by omega, show j / 6 * 6 + 5 = j by omega] at d5; exact d5

theorem openXs1 {H : Type} {enc : TypeId × Value → H} {W : World} {v : Value} {n : Nat} {y : DataW H × List MemPlace}
    (h : DataW.trod enc Tryd.prog W 0 (fun _ => true) true n 22 [v] = some y) : ∃ l, Xs W v l := by
  rcases Go.Deep.open_slice Tryd.underlying22 h with ⟨hcs, _⟩ | ⟨a, len, cap, m, k, D, Pl, hcs, _, hl, hm, hmm, _, hx⟩
  · simp at hcs
    subst hcs
    exact ⟨[], Xs.nil W⟩
  · simp at hcs
    subst hcs
    simp only [if_true] at hmm
    rw [Tryd.cellsInstr] at hx
    obtain ⟨f, hf⟩ := Go.Deep.choose_lt (n := len) (p := fun i (x : Ins) => W.cell? (a.add (i * 6)) = some (.int .i64 x.1) ∧ W.cell? (a.add (i * 6 + 1)) = some (.int .i64 x.2.1) ∧ W.cell? (a.add (i * 6 + 2)) = some (.int .i64 x.2.2.1) ∧ W.cell? (a.add (i * 6 + 3)) = some (.int .i64 x.2.2.2.1) ∧ W.cell? (a.add (i * 6 + 4)) = some (.int .i64 x.2.2.2.2.1) ∧ W.cell? (a.add (i * 6 + 5)) = some (.bool x.2.2.2.2.2)) fun i hi => by
      obtain ⟨cs', h1, h2⟩ := hx i (by omega)
      obtain ⟨_, hlen, h3⟩ := World.cells?_some h1
      obtain ⟨x, rfl⟩ := insCells (by simpa using hlen) h2
      refine ⟨x, ?_⟩
      have e : ∀ j, (a.add (i * 6)).add j = a.add (i * 6 + j) := fun j => Go.Deep.add_add a (i * 6) j
      have g0 := h3 0 (by omega)
      have g1 := h3 1 (by omega)
      have g2 := h3 2 (by omega)
      have g3 := h3 3 (by omega)
      have g4 := h3 4 (by omega)
      have g5 := h3 5 (by omega)
      rw [e] at g0 g1 g2 g3 g4 g5
      exact ⟨g0, g1, g2, g3, g4, g5⟩
    refine ⟨(List.range len).map f, some a, cap, by simp, by simpa using hl, hm, fun hne => ?_⟩
    have hpos : 0 < len := by
      rcases Nat.eq_zero_or_pos len with h | h
      · subst h; simp at hne
      · exact h
    have h0 := (hf 0 hpos).1
    obtain ⟨b, off, spot⟩ := a
    have hspot : spot = none := by simpa [Addr.add] using World.cell?_spot h0
    subst hspot
    have hplain : ∀ i, (⟨b, off, none⟩ : Addr).add i = ⟨b, off + i, none⟩ := fun i => by unfold Addr.add; split <;> simp_all
    refine ⟨b, off, rfl, by have := World.block_lt_of_cell? W _ h0; simpa [Addr.add] using this, xs_of_six fun i hi => ?_⟩
    simp only [List.length_map, List.length_range] at hi
    simp only [List.getElem_map, List.getElem_range]
    have := hf i hi
    simp only [hplain, ← Nat.add_assoc] at this
    exact this

theorem open_Sapi_Instr {H : Type} {enc : TypeId × Value → H} {W : World} {base : Nat} {v : Value} {d : DataW H} {p : List MemPlace}
    (hv : Value.okWide Tryd.prog W .any base 22 v) (h : DataW.Trod enc Tryd.prog W 0 (fun _ => true) true 22 v d p) : ∃ l, Xs W v l := by
  obtain ⟨a, len, cap, rfl⟩ := okWide_slice Tryd.underlying22 hv
  obtain ⟨fuel, hf⟩ := h
  exact openXs1 (by simpa [Value.cells] using hf)

theorem gTab : Tryd.prog.globalNamed "cattlegrid/code.widths" = some 0 := by kernel_rfl
theorem gTabType : (Tryd.prog.globals[0]?).map (·.type) = some 47 := by kernel_rfl
theorem cellsTab : Tryd.prog.cellsOf 47 = 9 := by kernel_rfl
/-- What the row's list gives: the table's cells. -/
theorem wd_of_laid {W : World} (h : laidMetH Tryd.prog [("cattlegrid/code.widths", Rows.laid_cattlegrid_code_widths)] W) : Wd W := by
  have ht : Lib.TabIs Tryd.prog W "cattlegrid/code.widths" .i64 [0, 4, 8, 1, 1, 2, 2, 2, 2] := Lib.tabIs_of_head (rest := []) gTab gTabType Tryd.underlying47 Tryd.underlying3 Tryd.cellsInt cellsTab h
  have hc : ∀ k, k ≤ 8 → W.cell? ⟨0, k, none⟩ = some (.int .i64 (widN k : Int)) := by
    intro k hk
    rcases (show k = 0 ∨ k = 1 ∨ k = 2 ∨ k = 3 ∨ k = 4 ∨ k = 5 ∨ k = 6 ∨ k = 7 ∨ k = 8 by omega) with rfl | rfl | rfl | rfl | rfl | rfl | rfl | rfl | rfl
    · exact ht.cell gTab 0 (by decide)
    · exact ht.cell gTab 1 (by decide)
    · exact ht.cell gTab 2 (by decide)
    · exact ht.cell gTab 3 (by decide)
    · exact ht.cell gTab 4 (by decide)
    · exact ht.cell gTab 5 (by decide)
    · exact ht.cell gTab 6 (by decide)
    · exact ht.cell gTab 7 (by decide)
    · exact ht.cell gTab 8 (by decide)
  exact ⟨World.block_lt_of_cell? W _ (hc 0 (by omega)), hc⟩

end Go.Proofs.YtpgkjfjooogfmaaDoor
