
/- Clauses and ways that came in. -/
import Derived.Test.YtbfcdcdeohikpaaOpenT
import Derived.Test.YtbfcdcdeohikpaaLaws9
namespace Go.Proofs.Ytbfcdcdeohikpaa
set_option linter.unusedVariables false
set_option linter.unusedSimpArgs false
open Go.ChangeShapes Go.WideShapes Go.ChangeAt Go.RowKit

/-- A slice of elements that came in, if each one's cells can be told. -/
theorem openEs1 {α : Type} (E : Enc α) (dft : α) {P : Program} {H : Type} {enc : TypeId × Value → H} {W : World} {v : Value} {n : Nat} {y : DataW H × List MemPlace} (ts t : TypeId) (ht : P.underlying ts = some (.slice t)) (hcells : P.cellsOf t = E.size)
    (hel : ∀ (cs : List Value) (n : Nat) (y : DataW H × List MemPlace), cs.length = E.size → DataW.trod enc P W 0 (fun _ => true) true n t cs = some y → ∃ x, cs = E.cells x)
    (h : DataW.trod enc P W 0 (fun _ => true) true n ts [v] = some y) : ∃ l, Es E W v l := by
  haveI : Inhabited α := ⟨dft⟩
  rcases Go.Deep.open_slice ht h with ⟨hcs, _⟩ | ⟨a, len, cap, m, k, D, Pl, hcs, _, hl, hm, hmm, _, hx⟩
  · simp at hcs
    subst hcs
    exact ⟨[], Es.nil E W⟩
  · simp at hcs
    subst hcs
    simp only [if_true] at hmm
    rw [hcells] at hx
    obtain ⟨f, hf⟩ := Go.Deep.choose_lt (n := len) (p := fun i (x : α) => ∀ j u, (E.cells x)[j]? = some u → W.cell? (a.add (i * E.size + j)) = some u) fun i hi => by
      obtain ⟨cs', h1, h2⟩ := hx i (by omega)
      obtain ⟨_, hlen, h3⟩ := World.cells?_some h1
      obtain ⟨x, hxc⟩ := hel _ _ _ (by simpa using hlen) h2
      refine ⟨x, fun j u hj => ?_⟩
      have hjl : j < E.size := by rw [← E.len x]; exact (List.getElem?_eq_some_iff.1 hj).1
      have g := h3 j hjl
      rw [Go.Deep.add_add a (i * E.size) j] at g
      rw [g]
      have hx2 : cs'[j]? = some u := by
        have := congrArg (fun t => t[j]?) hxc
        rw [hj] at this
        simpa using this
      exact hx2
    refine ⟨(List.range len).map f, some a, cap, by simp, by simpa using hl, hm, fun hne => ?_⟩
    have hpos : 0 < len := by
      rcases Nat.eq_zero_or_pos len with h | h
      · subst h; simp at hne
      · exact h
    obtain ⟨u0, hu0⟩ : ∃ u, (E.cells (f 0))[0]? = some u := by
      have := E.pos
      rw [← E.len (f 0)] at this
      exact ⟨_, List.getElem?_eq_getElem this⟩
    have h0 := hf 0 hpos 0 u0 hu0
    obtain ⟨b, off, spot⟩ := a
    have hspot : spot = none := by simpa [Addr.add] using World.cell?_spot h0
    subst hspot
    have hplain : ∀ i, (⟨b, off, none⟩ : Addr).add i = ⟨b, off + i, none⟩ := fun i => by unfold Addr.add; split <;> simp_all
    have hb : b < W.heap.size := by have := World.block_lt_of_cell? W _ h0; simpa [Addr.add] using this
    have hes : Es E W (.slice (some ⟨b, off, none⟩) ((List.range len).map f).length cap) ((List.range len).map f) := by
      refine Es.of_parts (by simpa using hl) hm hb fun i hi j u hj => ?_
      simp only [List.length_map, List.length_range] at hi
      simp only [List.getElem_map, List.getElem_range] at hj
      have := hf i hi j u hj
      rw [hplain, ← Nat.add_assoc] at this
      exact this
    obtain ⟨_, _, he, _, _, h3⟩ := hes
    simp only [Value.slice.injEq] at he
    obtain ⟨rfl, _, _⟩ := he
    exact h3 hne

theorem list10 {α : Type} {cs : List α} (h : cs.length = 10) : ∃ c0 c1 c2 c3 c4 c5 c6 c7 c8 c9, cs = [c0, c1, c2, c3, c4, c5, c6, c7, c8, c9] := by
  match cs, h with
  | [c0, c1, c2, c3, c4, c5, c6, c7, c8, c9], _ => exact ⟨c0, c1, c2, c3, c4, c5, c6, c7, c8, c9, rfl⟩
theorem list7 {α : Type} {cs : List α} (h : cs.length = 7) : ∃ c0 c1 c2 c3 c4 c5 c6, cs = [c0, c1, c2, c3, c4, c5, c6] := by
  match cs, h with
  | [c0, c1, c2, c3, c4, c5, c6], _ => exact ⟨c0, c1, c2, c3, c4, c5, c6, rfl⟩
theorem Try.cellsClause : Try.prog.cellsOf 44 = 10 := by kernel_rfl
theorem Try.cellsWay : Try.prog.cellsOf 32 = 3 := by kernel_rfl

/-- The cells of a clause. -/
theorem clauseCells {H : Type} {enc : TypeId × Value → H} {W : World} (cs : List Value) (n : Nat) (y : DataW H × List MemPlace) (hl : cs.length = 10)
    (h : DataW.trod enc Try.prog W 0 (fun _ => true) true n 44 cs = some y) : ∃ x : Cl, cs = clC x := by
  obtain ⟨c0, c1, c2, c3, c4, c5, c6, c7, c8, c9, rfl⟩ := list10 hl
  obtain ⟨xs, m, _, _, _, hlen, hf⟩ := DataW.trod_struct Try.underlying44 h
  obtain ⟨y0, y1, y2, y3, y4, y5, y6, rfl⟩ := list7 (show xs.length = 7 from hlen)
  have h0 : DataW.trod enc Try.prog W 0 (fun _ => true) true m 3 [c0] = some y0 := by
    have := hf 0 _ rfl
    simpa [Try.cellsInt] using this
  have h1 : DataW.trod enc Try.prog W 0 (fun _ => true) true m 3 [c1] = some y1 := by
    have := hf 1 _ rfl
    simpa [Try.cellsInt] using this
  have h2 : DataW.trod enc Try.prog W 0 (fun _ => true) true m 3 [c2] = some y2 := by
    have := hf 2 _ rfl
    simpa [Try.cellsInt] using this
  have h3 : DataW.trod enc Try.prog W 0 (fun _ => true) true m 3 [c3] = some y3 := by
    have := hf 3 _ rfl
    simpa [Try.cellsInt] using this
  have h4 : DataW.trod enc Try.prog W 0 (fun _ => true) true m 3 [c4] = some y4 := by
    have := hf 4 _ rfl
    simpa [Try.cellsInt] using this
  have h5 : DataW.trod enc Try.prog W 0 (fun _ => true) true m 3 [c5] = some y5 := by
    have := hf 5 _ rfl
    simpa [Try.cellsInt] using this
  have h6 : DataW.trod enc Try.prog W 0 (fun _ => true) true m 42 [c6, c7, c8, c9] = some y6 := by
    have := hf 6 _ rfl
    simpa [Try.cellsInt, Try.cellsTy] using this
  obtain ⟨x0, e0, _, _⟩ := DataW.trod_int Try.underlying3 h0
  obtain ⟨x1, e1, _, _⟩ := DataW.trod_int Try.underlying3 h1
  obtain ⟨x2, e2, _, _⟩ := DataW.trod_int Try.underlying3 h2
  obtain ⟨x3, e3, _, _⟩ := DataW.trod_int Try.underlying3 h3
  obtain ⟨x4, e4, _, _⟩ := DataW.trod_int Try.underlying3 h4
  obtain ⟨x5, e5, _, _⟩ := DataW.trod_int Try.underlying3 h5
  obtain ⟨t, e6⟩ := tyCells h6
  simp only [List.cons.injEq, and_true] at e0 e1 e2 e3 e4 e5 e6
  obtain ⟨rfl, rfl, rfl, rfl⟩ := e6
  subst e0 e1 e2 e3 e4 e5
  exact ⟨⟨x0, x1, x2, x3, x4, x5, t.1, t.2.1, t.2.2.1, t.2.2.2⟩, rfl⟩

theorem open_Sapi_Clause {H : Type} {enc : TypeId × Value → H} {W : World} {base : Nat} {v : Value} {d : DataW H} {p : List MemPlace}
    (hv : Value.okWide Try.prog W .any base 22 v) (h : DataW.Trod enc Try.prog W 0 (fun _ => true) true 22 v d p) : ∃ l, Es clE9 W v l := by
  obtain ⟨a, len, cap, rfl⟩ := okWide_slice Try.underlying22 hv
  obtain ⟨fuel, hf⟩ := h
  exact openEs1 clE9 cl0 22 44 Try.underlying22 Try.cellsClause clauseCells (by simpa [Value.cells] using hf)

theorem open_law09_Way {H : Type} {enc : TypeId × Value → H} {W : World} {base : Nat} {v : Value} {d : DataW H} {p : List MemPlace}
    (hv : Value.okWide Try.prog W .any base 32 v) (h : DataW.Trod enc Try.prog W 0 (fun _ => true) true 32 v d p) : ∃ x, v = wyV x := by
  obtain ⟨cs, rfl, hsz⟩ := okWide_struct Try.underlying32 hv
  obtain ⟨fuel, hf⟩ := h
  obtain ⟨y0, y1, y2, m, _, hl, h0, h1, h2⟩ := Go.Deep.trod_struct3 Try.underlying32 hf
  have hl3 : cs.size = 3 := by have := hsz.trans Try.cellsWay; simpa [Value.cells] using this
  obtain ⟨c⟩ := cs
  match c, hl3 with
  | [c0, c1, c2], _ =>
    simp only [Value.cells, Try.cellsInt, List.drop_zero, List.drop_succ_cons, List.take_succ_cons, List.take_zero] at h0 h1 h2
    obtain ⟨x0, e0, _, _⟩ := DataW.trod_int Try.underlying3 h0
    obtain ⟨x1, e1, _, _⟩ := DataW.trod_int Try.underlying3 h1
    obtain ⟨x2, e2, _, _⟩ := DataW.trod_int Try.underlying3 h2
    simp only [List.cons.injEq, and_true] at e0 e1 e2
    subst e0 e1 e2
    exact ⟨(x0, x1, x2), rfl⟩

end Go.Proofs.Ytbfcdcdeohikpaa
