
/- Bodies that came in. -/
import Derived.Test.YtfgjlljbpcombaaRows
import Derived.Test.YtfgjlljbpcombaaOpen
import Derived.Test.YtfgjlljbpcombaaLaws8
import Derived.Lib.SmallJoins
import Derived.Deep.Slices
import Derived.Deep.Strs
namespace Go.Proofs.Ytfgjlljbpcombaa
set_option linter.unusedVariables false
set_option linter.unusedSimpArgs false
open Go.ChangeShapes Go.WideShapes Go.ChangeAt Go.RowKit

theorem Try.cellsRaw : Try.prog.cellsOf 52 = 6 := by kernel_rfl
theorem Try.cellsInt8 : Try.prog.cellsOf 3 = 1 := by kernel_rfl

/-- A slice of bytes as a field. -/
theorem openBs1 {H : Type} {enc : TypeId × Value → H} {W : World} {v : Value} {n : Nat} {y : DataW H × List MemPlace}
    (h : DataW.trod enc Try.prog W 0 (fun _ => true) true n 22 [v] = some y) : ∃ bs, Bs W v bs := by
  rcases open_ints Try.underlying22 Try.underlying5 (by kernel_rfl) h with ⟨hcs, _⟩ | ⟨x, len, cap, zs, hcs, _, hl, hm, hz, hd, hcell, hwz⟩
  · simp at hcs
    subst hcs
    exact ⟨[], Bs.nil W⟩
  · simp at hcs
    subst hcs
    simp only [if_true] at hz
    have hlen : ((zs.take len).map fun z => UInt8.ofNat z.toNat).length = len := by simp; omega
    refine ⟨(zs.take len).map fun z => UInt8.ofNat z.toNat, some x, cap, by rw [hlen], by rw [hlen]; exact hl, hm, fun hne => ?_⟩
    have hpos : 0 < len := by
      rcases Nat.eq_zero_or_pos len with h | h
      · subst h; simp at hne
      · exact h
    obtain ⟨b, off, rfl, hc⟩ := ints_at hcell (by omega)
    have c0 := hc 0 (by omega)
    refine ⟨b, off, rfl, ?_, fun i hi => ?_⟩
    · rcases Nat.lt_or_ge b W.heap.size with h | h
      · exact h
      · simp [World.cell?, Array.getElem?_eq_none h] at c0
    · rw [hlen] at hi
      have hzi : i < zs.length := by omega
      have hw := hwz zs[i] (List.getElem_mem hzi)
      have hbd := bounds_u8 hw
      rw [hc i hzi]
      simp [List.getD, List.getElem?_eq_getElem hzi]
      omega

theorem list68 {α : Type} {cs : List α} (h : cs.length = 6) : ∃ c0 c1 c2 c3 c4 c5, cs = [c0, c1, c2, c3, c4, c5] := by
  match cs, h with
  | [c0, c1, c2, c3, c4, c5], _ => exact ⟨c0, c1, c2, c3, c4, c5, rfl⟩

/-- The cells of a clause. -/
theorem rawCells {H : Type} {enc : TypeId × Value → H} {W : World} {cs : List Value} {n : Nat} {y : DataW H × List MemPlace} (hl : cs.length = 6)
    (h : DataW.trod enc Try.prog W 0 (fun _ => true) true n 52 cs = some y) : ∃ x : Rw, cs = [.int .i64 x.1, .int .i64 x.2.1, .int .i64 x.2.2.1, .int .i64 x.2.2.2.1, .int .i64 x.2.2.2.2.1, .int .i64 x.2.2.2.2.2] := by
  obtain ⟨c0, c1, c2, c3, c4, c5, rfl⟩ := list68 hl
  obtain ⟨xs, m, _, _, _, hlen, hf⟩ := DataW.trod_struct Try.underlying52 h
  obtain ⟨y0, y1, y2, y3, y4, y5, rfl⟩ := list68 (show xs.length = 6 from hlen)
  have h0 : DataW.trod enc Try.prog W 0 (fun _ => true) true m 3 [c0] = some y0 := by
    have := hf 0 _ rfl
    simpa [Try.cellsInt8] using this
  have h1 : DataW.trod enc Try.prog W 0 (fun _ => true) true m 3 [c1] = some y1 := by
    have := hf 1 _ rfl
    simpa [Try.cellsInt8] using this
  have h2 : DataW.trod enc Try.prog W 0 (fun _ => true) true m 3 [c2] = some y2 := by
    have := hf 2 _ rfl
    simpa [Try.cellsInt8] using this
  have h3 : DataW.trod enc Try.prog W 0 (fun _ => true) true m 3 [c3] = some y3 := by
    have := hf 3 _ rfl
    simpa [Try.cellsInt8] using this
  have h4 : DataW.trod enc Try.prog W 0 (fun _ => true) true m 3 [c4] = some y4 := by
    have := hf 4 _ rfl
    simpa [Try.cellsInt8] using this
  have h5 : DataW.trod enc Try.prog W 0 (fun _ => true) true m 3 [c5] = some y5 := by
    have := hf 5 _ rfl
    simpa [Try.cellsInt8] using this
  obtain ⟨x0, e0, _, _⟩ := DataW.trod_int Try.underlying3 h0
  obtain ⟨x1, e1, _, _⟩ := DataW.trod_int Try.underlying3 h1
  obtain ⟨x2, e2, _, _⟩ := DataW.trod_int Try.underlying3 h2
  obtain ⟨x3, e3, _, _⟩ := DataW.trod_int Try.underlying3 h3
  obtain ⟨x4, e4, _, _⟩ := DataW.trod_int Try.underlying3 h4
  obtain ⟨x5, e5, _, _⟩ := DataW.trod_int Try.underlying3 h5
  simp only [List.cons.injEq, and_true] at e0 e1 e2 e3 e4 e5
  subst e0 e1 e2 e3 e4 e5
  exact ⟨(x0, x1, x2, x3, x4, x5), rfl⟩

theorem ws_of_six {W : World} {b off : Nat} {l : List Rw} (h : ∀ i (hi : i < l.length), Six8 W b (off + i * 6) l[i]) : ∀ j u, (rcL l)[j]? = some u → W.cell? ⟨b, off + j, none⟩ = some u := by
  intro j u hj
  have hjl : j < 6 * l.length := by rw [← rcL_length]; exact (List.getElem?_eq_some_iff.1 hj).1
  have hi : j / 6 < l.length := by omega
  obtain ⟨g0, g1, g2, g3, g4, g5⟩ := rcL_get l (j / 6) hi
  obtain ⟨d0, d1, d2, d3, d4, d5⟩ := h (j / 6) hi
  rw [← g0] at d0
  rw [← g1] at d1
  rw [← g2] at d2
  rw [← g3] at d3
  rw [← g4] at d4
  rw [← g5] at d5
  rw [← hj]
  have hcs : j % 6 = 0 ∨ j % 6 = 1 ∨ j % 6 = 2 ∨ j % 6 = 3 ∨ j % 6 = 4 ∨ j % 6 = 5 := by omega
  rcases hcs with q | q | q | q | q | q
  · rw [show j / 6 * 6 = j by omega] at d0; exact d0
  · rw [show off + j / 6 * 6 + 1 = off + j by omega, show j / 6 * 6 + 1 = j by omega] at d1; exact d1
  · rw [show off + j / 6 * 6 + 2 = off + j by omega, show j / 6 * 6 + 2 = j by omega] at d2; exact d2
  · rw [show off + j / 6 * 6 + 3 = off + j by omega, show j / 6 * 6 + 3 = j by omega] at d3; exact d3
  · rw [show off + j / 6 * 6 + 4 = off + j by omega, show j / 6 * 6 + 4 = j by omega] at d4; exact d4
  · rw [show off + j / 6 * 6 + 5 = off + j by omega, show j / 6 * 6 + 5 = j by omega] at d5; exact d5

theorem openWs1 {H : Type} {enc : TypeId × Value → H} {W : World} {v : Value} {n : Nat} {y : DataW H × List MemPlace}
    (h : DataW.trod enc Try.prog W 0 (fun _ => true) true n 23 [v] = some y) : ∃ l, Ws W v l := by
  rcases Go.Deep.open_slice Try.underlying23 h with ⟨hcs, _⟩ | ⟨a, len, cap, m, k, D, Pl, hcs, _, hl, hm, hmm, _, hx⟩
  · simp at hcs
    subst hcs
    exact ⟨[], Ws.nil W⟩
  · simp at hcs
    subst hcs
    simp only [if_true] at hmm
    rw [Try.cellsRaw] at hx
    obtain ⟨f, hf⟩ := Go.Deep.choose_lt (n := len) (p := fun i (x : Rw) => W.cell? (a.add (i * 6)) = some (.int .i64 x.1) ∧ W.cell? (a.add (i * 6 + 1)) = some (.int .i64 x.2.1) ∧ W.cell? (a.add (i * 6 + 2)) = some (.int .i64 x.2.2.1) ∧ W.cell? (a.add (i * 6 + 3)) = some (.int .i64 x.2.2.2.1) ∧ W.cell? (a.add (i * 6 + 4)) = some (.int .i64 x.2.2.2.2.1) ∧ W.cell? (a.add (i * 6 + 5)) = some (.int .i64 x.2.2.2.2.2)) fun i hi => by
      obtain ⟨cs', h1, h2⟩ := hx i (by omega)
      obtain ⟨_, hlen, h3⟩ := World.cells?_some h1
      obtain ⟨x, rfl⟩ := rawCells (by simpa using hlen) h2
      refine ⟨x, ?_⟩
      have e : ∀ j, (a.add (i * 6)).add j = a.add (i * 6 + j) := fun j => Go.Deep.add_add a (i * 6) j
      have g0 := h3 0 (by omega)
      have g1 := h3 1 (by omega)
      have g2 := h3 2 (by omega)
      have g3 := h3 3 (by omega)
      have g4 := h3 4 (by omega)
      have g5 := h3 5 (by omega)
      rw [e] at g0 g1 g2 g3 g4 g5
      exact ⟨g0, g1, g2, g3, g4, g5⟩
    refine ⟨(List.range len).map f, some a, cap, by simp, by simpa using hl, hm, fun hne => ?_⟩
    have hpos : 0 < len := by
      rcases Nat.eq_zero_or_pos len with h | h
      · subst h; simp at hne
      · exact h
    have h0 := (hf 0 hpos).1
    obtain ⟨b, off, spot⟩ := a
    have hspot : spot = none := by simpa [Addr.add] using World.cell?_spot h0
    subst hspot
    have hplain : ∀ i, (⟨b, off, none⟩ : Addr).add i = ⟨b, off + i, none⟩ := fun i => by unfold Addr.add; split <;> simp_all
    refine ⟨b, off, rfl, by have := World.block_lt_of_cell? W _ h0; simpa [Addr.add] using this, ws_of_six fun i hi => ?_⟩
    simp only [List.length_map, List.length_range] at hi
    simp only [List.getElem_map, List.getElem_range]
    have := hf i hi
    simp only [hplain, ← Nat.add_assoc] at this
    exact this

theorem open_api_Body {H : Type} {enc : TypeId × Value → H} {W : World} {base : Nat} {v : Value} {d : DataW H} {p : List MemPlace}
    (hv : Value.okWide Try.prog W .any base 25 v) (h : DataW.Trod enc Try.prog W 0 (fun _ => true) true 25 v d p) : ∃ x, Bd W v x := by
  obtain ⟨v0, v1, y0, y1, n, rfl, _, _, h0, h1⟩ := Go.Joins.open_agg2 Try.underlying25 (by kernel_rfl) (by kernel_rfl) hv h
  obtain ⟨c, hc⟩ := openBs1 h0
  obtain ⟨l, hl⟩ := openWs1 h1
  exact ⟨(c, l), _, _, rfl, hc, hl⟩

end Go.Proofs.Ytfgjlljbpcombaa
