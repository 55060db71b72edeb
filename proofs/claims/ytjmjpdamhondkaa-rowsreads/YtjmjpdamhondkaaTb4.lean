
/- Tables that a call makes of its own, in memory: rows, a table under way, six tables in an array. -/
import Derived.Test.YtjmjpdamhondkaaLaws4
namespace Go.Proofs.Ytjmjpdamhondkaa
set_option linter.unusedVariables false
set_option linter.unusedSimpArgs false
open Go.RowKit Go.Maps

theorem Only.low {rb : Nat} {w wr w' : World} (h : Only rb w wr) (hb : Below w.heap.size wr w') : Only rb w w' :=
  ⟨hb.os.trans h.os, hb.tape.trans h.tape, hb.output.trans h.output, Nat.le_trans h.size hb.size, fun k hk hn => (hb.block k hk).trans (h.block k hk hn)⟩
theorem OwnV.only {w w' : World} {rb base : Nat} {e : TypeId} {v : Value} {xs : List Value} (h : OwnV w base e v xs) (ho : Only rb w w') (hr : rb < base) : OwnV w' base e v xs :=
  h.of_block fun k hk hlt => ho.block k hlt (by have := (h.block k hk).1; omega)
theorem OwnV.low {w : World} {B B' : Nat} {e : TypeId} {v : Value} {xs : List Value} (h : OwnV w B' e v xs) (hB : B ≤ B') : OwnV w B e v xs := by
  refine ⟨h.1, ?_⟩
  rcases h.2 with h | ⟨g, cap, cur, e1, e2, r⟩
  · exact .inl h
  · exact .inr ⟨g, cap, cur, e1, Nat.le_trans hB e2, r⟩

/-- Nothing below lo has turned, but for two blocks. -/
structure Fr (rb g lo : Nat) (w w' : World) : Prop where
  os : w'.os = w.os
  tape : w'.tape = w.tape
  output : w'.output = w.output
  size : w.heap.size ≤ w'.heap.size
  block : ∀ k, k < lo → k ≠ rb → k ≠ g → w'.heap[k]? = w.heap[k]?
theorem Fr.refl (rb g lo : Nat) (w : World) : Fr rb g lo w w := ⟨rfl, rfl, rfl, Nat.le_refl _, fun _ _ _ _ => rfl⟩
theorem Fr.trans {rb g lo : Nat} {a b c : World} (h : Fr rb g lo a b) (k : Fr rb g lo b c) : Fr rb g lo a c :=
  ⟨k.os.trans h.os, k.tape.trans h.tape, k.output.trans h.output, Nat.le_trans h.size k.size, fun i hi h1 h2 => (k.block i hi h1 h2).trans (h.block i hi h1 h2)⟩
theorem Fr.only {rb g lo : Nat} {w w' : World} (h : Only rb w w') (hl : lo ≤ w.heap.size) : Fr rb g lo w w' := ⟨h.os, h.tape, h.output, h.size, fun k hk h1 _ => h.block k (by omega) h1⟩
theorem Fr.low {rb g lo B : Nat} {w w' : World} (h : Below B w w') (hl : lo ≤ B) : Fr rb g lo w w' := ⟨h.os, h.tape, h.output, h.size, fun k hk _ _ => h.block k (by omega)⟩
theorem Fr.set (rb g lo : Nat) (w : World) (o : Nat) (u : Value) : Fr rb g lo w (w.setCell ⟨g, o, none⟩ u) := ⟨rfl, rfl, rfl, by simp [World.setCell], fun k _ _ hne => Below.heap_setCell _ _ _ _ hne⟩
/-- What lies below both blocks stands. -/
theorem Fr.below {rb g lo : Nat} {w w' : World} {B : Nat} (h : Fr rb g lo w w') (h1 : B ≤ rb) (h2 : B ≤ g) (h3 : B ≤ lo) : Below B w w' := ⟨h.os, h.tape, h.output, h.size, fun k hk => h.block k (by omega) (by omega) (by omega)⟩
theorem Fr.onlyR {rb g lo : Nat} {w0 w w' : World} (h0 : Only rb w0 w) (h : Fr rb g lo w w') (h2 : w0.heap.size ≤ g) (h3 : w0.heap.size ≤ lo) : Only rb w0 w' :=
  ⟨h.os.trans h0.os, h.tape.trans h0.tape, h.output.trans h0.output, Nat.le_trans h0.size h.size, fun k hk hn => (h.block k (by omega) hn (by omega)).trans (h0.block k hk hn)⟩

/-- The value's memory lies from lo on, below hi. -/
def Lo (lo hi : Nat) (v : Value) : Prop := ∀ k, v.ownBlock = some k → lo ≤ k ∧ k < hi
theorem Lo.mono {lo hi lo' hi' : Nat} {v : Value} (h : Lo lo hi v) (h1 : lo' ≤ lo) (h2 : hi ≤ hi') : Lo lo' hi' v := fun k hk => by have := h k hk; omega
theorem Sl.lo {lo hi : Nat} {w w' : World} {v : Value} {xs : List Value} (h : Sl w v xs) (hl : Lo lo hi v) (hs : w.heap.size ≤ w'.heap.size) (hk : ∀ k, lo ≤ k → k < hi → w'.heap[k]? = w.heap[k]?) : Sl w' v xs :=
  h.of_block hs fun k hv _ => hk k (hl k hv).1 (hl k hv).2

def Q1 (lo hi : Nat) (w : World) (v : Value) (l : List Int) : Prop := In1 w v l ∧ Lo lo hi v
def Q2 (lo hi : Nat) (w : World) (v : Value) (l : List (List Int)) : Prop := ∃ vs, vs.length = l.length ∧ Sl w v vs ∧ Lo lo hi v ∧ ∀ i (h : i < l.length) (g : i < vs.length), Q1 lo hi w vs[i] l[i]
theorem Q1.mono {lo hi lo' hi' : Nat} {w : World} {v : Value} {l : List Int} (h : Q1 lo hi w v l) (h1 : lo' ≤ lo) (h2 : hi ≤ hi') : Q1 lo' hi' w v l := ⟨h.1, h.2.mono h1 h2⟩
theorem Q1.keep {lo hi : Nat} {w w' : World} {v : Value} {l : List Int} (h : Q1 lo hi w v l) (hs : w.heap.size ≤ w'.heap.size) (hk : ∀ k, lo ≤ k → k < hi → w'.heap[k]? = w.heap[k]?) : Q1 lo hi w' v l := ⟨Sl.lo h.1 h.2 hs hk, h.2⟩
theorem Q2.mono {lo hi lo' hi' : Nat} {w : World} {v : Value} {l : List (List Int)} (h : Q2 lo hi w v l) (h1 : lo' ≤ lo) (h2 : hi ≤ hi') : Q2 lo' hi' w v l := by
  obtain ⟨vs, a, b, c, d⟩ := h
  exact ⟨vs, a, b, c.mono h1 h2, fun i x y => (d i x y).mono h1 h2⟩
theorem Q2.keep {lo hi : Nat} {w w' : World} {v : Value} {l : List (List Int)} (h : Q2 lo hi w v l) (hs : w.heap.size ≤ w'.heap.size) (hk : ∀ k, lo ≤ k → k < hi → w'.heap[k]? = w.heap[k]?) : Q2 lo hi w' v l := by
  obtain ⟨vs, a, b, c, d⟩ := h
  exact ⟨vs, a, b.lo c hs hk, c, fun i x y => (d i x y).keep hs hk⟩
theorem Q2.in2 {lo hi : Nat} {w : World} {v : Value} {l : List (List Int)} (h : Q2 lo hi w v l) : In2 w v l := by
  obtain ⟨vs, a, b, c, d⟩ := h
  exact ⟨vs, a, b, fun i x y => (d i x y).1⟩
theorem Q2.nil (lo hi : Nat) (w : World) : Q2 lo hi w (.slice none 0 0) [] := ⟨[], rfl, Sl.nil w, fun k hk => by simp [Value.ownBlock] at hk, fun i h => by simp at h⟩

/-- A table under way: its row of rows, and its rows, each in memory of its own. -/
structure Tb (w : World) (lo : Nat) (v : Value) (us : List Value) (rows : List (List Int)) : Prop where
  own : OwnV w lo 62 v us
  len : us.length = rows.length
  row : ∀ i (h : i < rows.length) (g : i < us.length), OwnV w lo 3 us[i] (i64s rows[i])
theorem Tb.nil (w : World) (lo : Nat) : Tb w lo (.slice none 0 0) [] [] := ⟨OwnV.nil _ _ _, rfl, fun i h => by simp at h⟩
theorem Tb.keep {w w' : World} {lo : Nat} {v : Value} {us : List Value} {rows : List (List Int)} (h : Tb w lo v us rows) (hk : ∀ k, lo ≤ k → k < w.heap.size → w'.heap[k]? = w.heap[k]?) : Tb w' lo v us rows :=
  ⟨h.own.of_block fun k hv hlt => hk k (h.own.block k hv).1 hlt, h.len, fun i x y => (h.row i x y).of_block fun k hv hlt => hk k ((h.row i x y).block k hv).1 hlt⟩
theorem other_typed {w w1 : World} {base : Nat} {e : TypeId} {v : Value} {xs : List Value} (ho : OwnV w base e v xs) (hg : w.grownBy w1 v.ownBlock) : ∀ (k : Nat) C t fr, w.heap[k]? = some (Obj.cells C t fr) → t ≠ e → w1.heap[k]? = w.heap[k]? := by
  intro k C t fr hk ht
  refine hg.block k (Array.getElem?_eq_some_iff.1 hk).1 fun ee => ?_
  obtain ⟨C', hC'⟩ := ho.typed k ee.symm
  rw [hk] at hC'
  simp only [Option.some.injEq, Obj.cells.injEq] at hC'
  exact ht hC'.2.1
theorem Tb.snoc {w w1 : World} {lo : Nat} {v v1 u : Value} {us : List Value} {rows : List (List Int)} {r : List Int} (h : Tb w lo v us rows) (hu : OwnV w lo 3 u (i64s r)) (hg : w.grownBy w1 v.ownBlock) (ho : OwnV w1 lo 62 v1 (us ++ [u])) : Tb w1 lo v1 (us ++ [u]) (rows ++ [r]) := by
  have key : ∀ {x : Value} {l : List Value}, OwnV w lo 3 x l → OwnV w1 lo 3 x l := fun hx => hx.of_block fun k hk hlt => by
    obtain ⟨C, hC⟩ := hx.typed k hk
    exact other_typed h.own hg k C _ _ hC (by decide)
  refine ⟨ho, by simp [h.len], fun i a b => ?_⟩
  simp only [List.length_append, List.length_cons, List.length_nil] at a b
  by_cases hi : i < rows.length
  · rw [List.getElem_append_left (by rw [h.len]; exact hi), List.getElem_append_left hi]
    exact key (h.row i hi (by rw [h.len]; exact hi))
  · have e1 : i = rows.length := by omega
    subst e1
    have e2 : (us ++ [u])[rows.length]'(by simp [h.len]) = u := by
      rw [List.getElem_append_right (by rw [h.len]; omega)]; simp [h.len]
    have e3 : (rows ++ [r])[rows.length]'(by simp) = r := by simp
    rw [e2, e3]; exact key hu
theorem OwnV.lo {w : World} {lo : Nat} {e : TypeId} {v : Value} {xs : List Value} (h : OwnV w lo e v xs) : Lo lo w.heap.size v := fun k hk => h.block k hk
theorem Tb.q {w : World} {lo : Nat} {v : Value} {us : List Value} {rows : List (List Int)} (h : Tb w lo v us rows) : Q2 lo w.heap.size w v rows :=
  ⟨us, h.len, h.own.sl, h.own.lo, fun i a b => ⟨(h.row i a b).sl, (h.row i a b).lo⟩⟩

/-- Six tables in the array of block g: the first so many are done, the others have nothing. -/
structure Rt (w : World) (g lo : Nat) (vs : List Value) (T : List (List (List Int))) : Prop where
  gb : w.heap[g]? = some (.cells vs.toArray 65 (0, 0))
  n6 : vs.length = 6
  le : T.length ≤ 6
  done : ∀ i (h : i < T.length) (h' : i < vs.length), Q2 lo w.heap.size w vs[i] T[i]
  rest : ∀ i, T.length ≤ i → (h : i < vs.length) → vs[i] = .slice none 0 0
  glo : g < lo
  top : lo ≤ w.heap.size

/-- One of them is under way, in memory from hi on. -/
structure Cur (w : World) (g lo hi : Nat) (vs : List Value) (T : List (List (List Int))) (v : Value) (us : List Value) (rows : List (List Int)) : Prop where
  gb : w.heap[g]? = some (.cells vs.toArray 65 (0, 0))
  n6 : vs.length = 6
  lt : T.length < 6
  done : ∀ i (h : i < T.length) (h' : i < vs.length), Q2 lo hi w vs[i] T[i]
  cur : vs[T.length]? = some v
  rest : ∀ i, T.length < i → (h : i < vs.length) → vs[i] = .slice none 0 0
  tb : Tb w hi v us rows
  glo : g < lo
  lohi : lo ≤ hi
  top : hi ≤ w.heap.size

theorem Rt.cur {w : World} {g lo : Nat} {vs : List Value} {T : List (List (List Int))} (h : Rt w g lo vs T) (hl : T.length < 6) : Cur w g lo w.heap.size vs T (.slice none 0 0) [] [] :=
  ⟨h.gb, h.n6, hl, h.done, by rw [List.getElem?_eq_getElem (by rw [h.n6]; exact hl), h.rest _ (Nat.le_refl _)], fun i hi h' => h.rest i (by omega) h', Tb.nil _ _, h.glo, h.top, Nat.le_refl _⟩

theorem Cur.keep {w w' : World} {g lo hi : Nat} {vs : List Value} {T : List (List (List Int))} {v : Value} {us : List Value} {rows : List (List Int)} (h : Cur w g lo hi vs T v us rows) (hs : w.heap.size ≤ w'.heap.size) (hk : ∀ k, g ≤ k → k < w.heap.size → w'.heap[k]? = w.heap[k]?) : Cur w' g lo hi vs T v us rows := by
  have h1 := h.glo
  have h2 := h.lohi
  have h3 := h.top
  exact ⟨(hk g (Nat.le_refl _) (by omega)).trans h.gb, h.n6, h.lt, fun i a b => (h.done i a b).keep hs fun k x y => hk k (by omega) (by omega), h.cur, h.rest, h.tb.keep fun k x y => hk k (by omega) y, h.glo, h.lohi, by omega⟩

/-- A row more: the table's row of rows has grown, and lies in the array again. -/
theorem Cur.app {w w1 : World} {g lo hi : Nat} {vs : List Value} {T : List (List (List Int))} {v v1 u : Value} {us : List Value} {rows : List (List Int)} {r : List Int} (h : Cur w g lo hi vs T v us rows) (hu : OwnV w hi 3 u (i64s r)) (hg : w.grownBy w1 v.ownBlock) (ho : OwnV w1 hi 62 v1 (us ++ [u])) :
    Cur (w1.setCell ⟨g, T.length, none⟩ v1) g lo hi (vs.set T.length v1) T v1 (us ++ [u]) (rows ++ [r]) ∧ w1.heap[g]? = some (.cells vs.toArray 65 (0, 0)) := by
  have h1 := h.glo
  have h2 := h.lohi
  have h3 := h.top
  have hgb : w1.heap[g]? = some (.cells vs.toArray 65 (0, 0)) := (other_typed h.tb.own hg g _ _ _ h.gb (by decide)).trans h.gb
  have hset : w1.setCell ⟨g, T.length, none⟩ v1 = w1.setRow g (vs.set T.length v1).toArray := by
    rw [setCell_eq_setRow w1 g _ _ _ _ _ hgb]; simp
  have hoth : ∀ j, j ≠ g → (w1.setCell ⟨g, T.length, none⟩ v1).heap[j]? = w1.heap[j]? := fun j hj => Below.heap_setCell _ _ _ _ hj
  have hsz : (w1.setCell ⟨g, T.length, none⟩ v1).heap.size = w1.heap.size := by simp [World.setCell]
  have hlow : ∀ k, k < hi → w1.heap[k]? = w.heap[k]? := fun k hk => hg.block k (by omega) fun e => by have := (h.tb.own.block k e.symm).1; omega
  have htb := (h.tb.snoc hu hg ho).keep (w' := w1.setCell ⟨g, T.length, none⟩ v1) fun k hk _ => hoth k (by omega)
  refine ⟨⟨by rw [hset]; exact setRow_heap w1 g _ _ _ _ hgb, by simp [h.n6], h.lt, fun i a b => ?_, ?_, fun i hi' h' => ?_, htb, h1, h2, by rw [hsz]; exact Nat.le_trans h3 hg.size⟩, hgb⟩
  · have hb' : i < vs.length := by simpa using b
    rw [List.getElem_set_ne (by omega)]
    exact (h.done i a hb').keep (by rw [hsz]; exact hg.size) fun k x y => (hoth k (by omega)).trans (hlow k y)
  · rw [List.getElem?_set_self (by rw [h.n6]; exact h.lt)]
  · rw [List.getElem_set_ne (by omega)]
    exact h.rest i hi' (by simpa using h')

theorem Cur.rt {w : World} {g lo hi : Nat} {vs : List Value} {T : List (List (List Int))} {v : Value} {us : List Value} {rows : List (List Int)} (h : Cur w g lo hi vs T v us rows) : Rt w g lo vs (T ++ [rows]) := by
  have h1 := h.glo
  have h2 := h.lohi
  have h3 := h.top
  have h4 := h.lt
  refine ⟨h.gb, h.n6, by simp; omega, fun i a b => ?_, fun i a b => h.rest i (by simp at a; omega) b, h.glo, by omega⟩
  simp only [List.length_append, List.length_cons, List.length_nil] at a
  by_cases hi' : i < T.length
  · rw [List.getElem_append_left hi']
    exact (h.done i hi' b).mono (Nat.le_refl _) h3
  · have e1 : i = T.length := by omega
    subst e1
    have e2 : vs[T.length] = v := by
      have := h.cur
      rw [List.getElem?_eq_getElem b] at this
      simpa using this
    have e3 : (T ++ [rows])[T.length]'(by simp) = rows := by simp
    rw [e2, e3]
    exact h.tb.q.mono h2 (Nat.le_refl _)

/-- All six are done. -/
theorem Rt.fin {w : World} {g lo : Nat} {vs : List Value} {T : List (List (List Int))} (h : Rt w g lo vs T) (h6 : T.length = 6) : In3 w (.slice (some ⟨g, 0, none⟩) 6 6) T := by
  have hlt : g < w.heap.size := (Array.getElem?_eq_some_iff.1 h.gb).1
  refine ⟨vs, by rw [h.n6, h6], ⟨some ⟨g, 0, none⟩, 6, by rw [h.n6], by rw [h.n6]; omega, by decide, fun _ => ⟨g, 0, rfl, hlt, fun i hi => ?_⟩⟩, fun i a b => (h.done i a b).in2⟩
  rw [Nat.zero_add]
  simp [World.cell?, h.gb, List.getElem?_eq_getElem hi]

theorem Rt.keep {w w' : World} {g lo : Nat} {vs : List Value} {T : List (List (List Int))} (h : Rt w g lo vs T) (hs : w.heap.size ≤ w'.heap.size) (hk : ∀ k, g ≤ k → k < w.heap.size → w'.heap[k]? = w.heap[k]?) : Rt w' g lo vs T := by
  have h1 := h.glo
  have h2 := h.top
  exact ⟨(hk g (Nat.le_refl _) (by omega)).trans h.gb, h.n6, h.le, fun i a b => ((h.done i a b).keep hs fun k x y => hk k (by omega) (by omega)).mono (Nat.le_refl _) hs, h.rest, h.glo, by omega⟩

theorem Rt.raise {w : World} {g lo lo' : Nat} {vs : List Value} (h : Rt w g lo vs []) (h1 : lo ≤ lo') (h2 : lo' ≤ w.heap.size) : Rt w g lo' vs [] :=
  ⟨h.gb, h.n6, h.le, fun i a => by simp at a, h.rest, by have := h.glo; omega, h2⟩

/-- The new array of six. -/
theorem Rt.start (w : World) (g : Nat) (hg : g = w.heap.size) : Rt (w.alloc (.cells #[.slice none 0 0, .slice none 0 0, .slice none 0 0, .slice none 0 0, .slice none 0 0, .slice none 0 0] 65)) g (g + 1) [.slice none 0 0, .slice none 0 0, .slice none 0 0, .slice none 0 0, .slice none 0 0, .slice none 0 0] [] := by
  subst hg
  refine ⟨heap_alloc_new w _, rfl, by simp, fun i h => by simp at h, fun i _ h => ?_, by omega, by simp⟩
  have h6 : i < 6 := by simpa using h
  have : i = 0 ∨ i = 1 ∨ i = 2 ∨ i = 3 ∨ i = 4 ∨ i = 5 := by omega
  rcases this with rfl | rfl | rfl | rfl | rfl | rfl <;> rfl

end Go.Proofs.Ytjmjpdamhondkaa
