
/- The splitter in memory, and what its steps are by definition. -/
import Derived.Test.YtbehcdpjpjklfaaRows
import Derived.Test.YtbehcdpjpjklfaaDelete3
import Derived.Deep.AppendLies
namespace Go.Proofs.Ytbehcdpjpjklfaa
set_option linter.unusedVariables false
set_option linter.unusedSimpArgs false
open Go.RowKit Go.Maps

/-! ### which kinds are left -/
def leftOf (met : List Nat) : List Nat := [0, 1, 2, 3].filter fun j => !met.contains j
theorem leftOf_le (met : List Nat) : (leftOf met).length ≤ 4 := List.length_filter_le _ _
theorem leftOf_nodup (met : List Nat) : (leftOf met).Nodup := List.Pairwise.filter _ (by decide : List.Nodup [0, 1, 2, 3])
theorem leftOf_lt {met : List Nat} {k : Nat} (h : k ∈ leftOf met) : k < 4 := by
  have := (List.mem_filter.1 h).1
  simp at this; omega

theorem erase_filter : ∀ (l : List Nat), l.Nodup → ∀ i (h : i < l.length), (l.filter fun j => j != l[i]) = l.eraseIdx i
  | [], _, i, h => by simp at h
  | a :: l, hn, 0, h => by
    rw [List.nodup_cons] at hn
    simp only [List.getElem_cons_zero, List.eraseIdx_cons_zero, List.filter_cons, bne_self_eq_false]
    simp only [Bool.false_eq_true, if_false]
    rw [List.filter_eq_self]
    intro b hb
    rw [bne_iff_ne]
    intro e; subst e; exact hn.1 hb
  | a :: l, hn, i + 1, h => by
    have hn' := List.nodup_cons.1 hn
    have ih := erase_filter l hn'.2 i (by simpa using h)
    simp only [List.getElem_cons_succ, List.eraseIdx_cons_succ, List.filter_cons]
    have : (a != l[i]'(by simpa using h)) = true := by
      rw [bne_iff_ne]; intro e
      exact hn'.1 (by rw [e]; exact List.getElem_mem _)
    rw [if_pos this, ih]

theorem idxT_find (t : List UInt8) : ∀ ks : List Nat, (ks.find? fun k => decide (tagB k = t)) = ks[idxT t ks]?
  | [] => rfl
  | k :: l => by
    have ih := idxT_find t l
    by_cases e : tagB k = t
    · simp [idxT, e]
    · simp [idxT, e, ih]

theorem tagOf_idx (met : List Nat) (t : List UInt8) : tagOf met t = (leftOf met)[idxT t (leftOf met)]? := by
  rw [← idxT_find]
  unfold leftOf tagOf
  rw [List.find?_filter]
  congr 1
  funext j
  cases met.contains j <;> simp

theorem leftOf_snoc (met : List Nat) (i : Nat) (h : i < (leftOf met).length) : leftOf (met ++ [(leftOf met)[i]]) = (leftOf met).eraseIdx i := by
  rw [← erase_filter (leftOf met) (leftOf_nodup met) i h]
  generalize (leftOf met)[i] = k
  unfold leftOf
  rw [List.filter_filter]
  congr 1
  funext j
  simp only [List.contains_eq_mem, List.mem_append, List.mem_singleton]
  by_cases h1 : j ∈ met <;> by_cases h2 : j = k <;> simp [h1, h2]

/-! ### in memory -/
def spanC (ps : List (Nat × Nat)) : List Value := ps.flatMap fun p => [.int .u64 (p.1 : Int), .int .u64 (p.2 : Int)]
theorem spanC_snoc (ps : List (Nat × Nat)) (p : Nat × Nat) : spanC (ps ++ [p]) = spanC ps ++ [.int .u64 (p.1 : Int), .int .u64 (p.2 : Int)] := by simp [spanC]

/-- In block sb lies a splitter; in block kb the kinds that are left; av the row of what lies ahead. -/
structure Spl (w0 w : World) (base sb kb : Nat) (iv lv ac p0 p1 p2 p3 av : Value) (s : Strm) (ks : List Nat) (ivs : List (Nat × Nat)) : Prop where
  blk : w.heap[sb]? = some (Obj.cells #[iv, lv, ac, p0, p1, p2, p3] 54 (0, 0))
  tab : TabAt w kb ks
  row : w.ownsRow base 59 2 av ivs.length (spanC ivs)
  o0 : Own w base 5 p0 s.r
  o1 : Own w base 5 p1 s.n
  o2 : Own w base 5 p2 s.b
  o3 : Own w base 5 p3 s.c
  below : Below base w0 w
  slo : base ≤ sb
  klo : base ≤ kb
  top : base ≤ w.heap.size

theorem row_typed {w : World} {base : Nat} {e : TypeId} {z : Nat} {v : Value} {n : Nat} {xs : List Value} (h : w.ownsRow base e z v n xs) : ∀ k, v.ownBlock = some k → ∃ C, w.heap[k]? = some (Obj.cells C e (0, 0)) := by
  intro k hk
  rcases h.2 with ⟨rfl, _⟩ | ⟨g, cap, cur, rfl, hg, hh, r⟩
  · simp [Value.ownBlock] at hk
  · simp [Value.ownBlock] at hk; subst hk; exact ⟨cur, hh⟩
theorem row_of_block {w w' : World} {base : Nat} {e : TypeId} {z : Nat} {v : Value} {n : Nat} {xs : List Value} (h : w.ownsRow base e z v n xs) (hb : ∀ k, v.ownBlock = some k → w'.heap[k]? = w.heap[k]?) : w'.ownsRow base e z v n xs := by
  obtain ⟨h1, h2⟩ := h
  refine ⟨h1, ?_⟩
  rcases h2 with h2 | ⟨g, cap, cur, rfl, hg, hh, r⟩
  · exact Or.inl h2
  · exact Or.inr ⟨g, cap, cur, rfl, hg, (hb g rfl).trans hh, r⟩
theorem own_of_block {w w' : World} {base : Nat} {e : TypeId} {v : Value} {xs : List UInt8} (h : Own w base e v xs) (hb : ∀ k, v.ownBlock = some k → w'.heap[k]? = w.heap[k]?) : Own w' base e v xs := row_of_block h hb

theorem ne_typed {w : World} {j k : Nat} {C C' : Array Value} {t t' : TypeId} (h : w.heap[j]? = some (Obj.cells C t (0, 0))) (h' : w.heap[k]? = some (Obj.cells C' t' (0, 0))) (hne : t ≠ t') : j ≠ k := by
  intro e; subst e
  rw [h] at h'
  simp only [Option.some.injEq, Obj.cells.injEq] at h'
  exact hne h'.2.1

theorem Spl.later {w0 w w' : World} {base sb kb : Nat} {iv lv ac p0 p1 p2 p3 av : Value} {s : Strm} {ks : List Nat} {ivs : List (Nat × Nat)} (h : Spl w0 w base sb kb iv lv ac p0 p1 p2 p3 av s ks ivs) (hb : Below w.heap.size w w') : Spl w0 w' base sb kb iv lv ac p0 p1 p2 p3 av s ks ivs := by
  have l1 := (Array.getElem?_eq_some_iff.1 h.blk).1
  exact ⟨(hb.block sb l1).trans h.blk, h.tab.of_block (hb.block kb h.tab.lt), row_of_block h.row fun k hk => hb.block k (by obtain ⟨C, hC⟩ := row_typed h.row k hk; exact (Array.getElem?_eq_some_iff.1 hC).1), h.o0.later hb, h.o1.later hb, h.o2.later hb, h.o3.later hb, h.below.trans (hb.mono h.top), h.slo, h.klo, Nat.le_trans h.top hb.size⟩

theorem Spl.cells {w0 w : World} {base sb kb : Nat} {iv lv ac p0 p1 p2 p3 av : Value} {s : Strm} {ks : List Nat} {ivs : List (Nat × Nat)} (h : Spl w0 w base sb kb iv lv ac p0 p1 p2 p3 av s ks ivs) :
    w.cell? ⟨sb, 0, none⟩ = some iv ∧ w.cell? ⟨sb, 1, none⟩ = some lv ∧ w.cell? ⟨sb, 2, none⟩ = some ac ∧ w.cell? ⟨sb, 3, none⟩ = some p0 ∧ w.cell? ⟨sb, 4, none⟩ = some p1 ∧ w.cell? ⟨sb, 5, none⟩ = some p2 ∧ w.cell? ⟨sb, 6, none⟩ = some p3 := by
  refine ⟨?_, ?_, ?_, ?_, ?_, ?_, ?_⟩ <;> simp [World.cell?, h.blk]
theorem Spl.melt {w0 w : World} {base sb kb : Nat} {iv lv ac p0 p1 p2 p3 av : Value} {s : Strm} {ks : List Nat} {ivs : List (Nat × Nat)} (h : Spl w0 w base sb kb iv lv ac p0 p1 p2 p3 av s ks ivs) (o : Nat) : w.frozen? ⟨sb, o, none⟩ = false := by
  simp [World.frozen?, h.blk]
theorem Spl.lt {w0 w : World} {base sb kb : Nat} {iv lv ac p0 p1 p2 p3 av : Value} {s : Strm} {ks : List Nat} {ivs : List (Nat × Nat)} (h : Spl w0 w base sb kb iv lv ac p0 p1 p2 p3 av s ks ivs) : sb < w.heap.size := (Array.getElem?_eq_some_iff.1 h.blk).1

/-- Nothing but the splitter's own block has turned: what else it holds is as it was. -/
theorem Spl.set {w0 w w' : World} {base sb kb : Nat} {iv lv ac p0 p1 p2 p3 lv' ac' q0 q1 q2 q3 av : Value} {s s' : Strm} {ks : List Nat} {ivs : List (Nat × Nat)} (h : Spl w0 w base sb kb iv lv ac p0 p1 p2 p3 av s ks ivs) (hs : w'.heap.size = w.heap.size) (hb : Below base w w') (ho : ∀ k, k ≠ sb → w'.heap[k]? = w.heap[k]?)
    (hblk : w'.heap[sb]? = some (Obj.cells #[iv, lv', ac', q0, q1, q2, q3] 54 (0, 0))) (h0 : Own w base 5 q0 s'.r) (h1 : Own w base 5 q1 s'.n) (h2 : Own w base 5 q2 s'.b) (h3 : Own w base 5 q3 s'.c) : Spl w0 w' base sb kb iv lv' ac' q0 q1 q2 q3 av s' ks ivs := by
  have u8 : ∀ {v : Value} {xs : List UInt8}, Own w base 5 v xs → ∀ k, v.ownBlock = some k → k ≠ sb := fun hv k hk => by
    obtain ⟨C, hC⟩ := row_typed hv k hk
    exact ne_typed hC h.blk (by decide)
  refine ⟨hblk, h.tab.of_block (ho kb ?_), row_of_block h.row fun k hk => ho k ?_, own_of_block h0 fun k hk => ho k (u8 h0 k hk), own_of_block h1 fun k hk => ho k (u8 h1 k hk), own_of_block h2 fun k hk => ho k (u8 h2 k hk), own_of_block h3 fun k hk => ho k (u8 h3 k hk), h.below.trans hb, h.slo, h.klo, by rw [hs]; exact h.top⟩
  · obtain ⟨C, hC, _⟩ := h.tab.blk
    exact ne_typed hC h.blk (by decide)
  · obtain ⟨C, hC⟩ := row_typed h.row k hk
    exact ne_typed hC h.blk (by decide)

theorem Spl.setCell {w0 w : World} {base sb kb : Nat} {iv lv ac p0 p1 p2 p3 lv' ac' q0 q1 q2 q3 av : Value} {s s' : Strm} {ks : List Nat} {ivs : List (Nat × Nat)} (h : Spl w0 w base sb kb iv lv ac p0 p1 p2 p3 av s ks ivs) (o : Nat) (x : Value)
    (hk : (#[iv, lv, ac, p0, p1, p2, p3] : Array Value).setIfInBounds o x = #[iv, lv', ac', q0, q1, q2, q3]) (h0 : Own w base 5 q0 s'.r) (h1 : Own w base 5 q1 s'.n) (h2 : Own w base 5 q2 s'.b) (h3 : Own w base 5 q3 s'.c) : Spl w0 (w.setCell ⟨sb, o, none⟩ x) base sb kb iv lv' ac' q0 q1 q2 q3 av s' ks ivs := by
  refine h.set (by simp [World.setCell]) ((Below.refl _ _).trans ⟨rfl, rfl, rfl, by simp [World.setCell], fun k hk => Below.heap_setCell _ _ _ _ (by have := h.slo; show k ≠ sb; omega)⟩) (fun k hk => Below.heap_setCell _ _ _ _ hk) ?_ h0 h1 h2 h3
  rw [setCell_eq_setRow w sb o _ _ _ _ h.blk, hk]
  exact setRow_heap w sb _ _ _ _ h.blk
theorem Spl.setL {w0 w : World} {base sb kb : Nat} {iv lv ac p0 p1 p2 p3 av : Value} {s : Strm} {ks : List Nat} {ivs : List (Nat × Nat)} (h : Spl w0 w base sb kb iv lv ac p0 p1 p2 p3 av s ks ivs) (x : Value) : Spl w0 (w.setCell ⟨sb, 1, none⟩ x) base sb kb iv x ac p0 p1 p2 p3 av s ks ivs := h.setCell 1 x (by simp) h.o0 h.o1 h.o2 h.o3
theorem Spl.setA {w0 w : World} {base sb kb : Nat} {iv lv ac p0 p1 p2 p3 av : Value} {s : Strm} {ks : List Nat} {ivs : List (Nat × Nat)} (h : Spl w0 w base sb kb iv lv ac p0 p1 p2 p3 av s ks ivs) (x : Value) : Spl w0 (w.setCell ⟨sb, 2, none⟩ x) base sb kb iv lv x p0 p1 p2 p3 av s ks ivs := h.setCell 2 x (by simp) h.o0 h.o1 h.o2 h.o3
/-- One of the four is laid. -/
theorem Spl.setP {w0 w : World} {base sb kb : Nat} {iv lv ac p0 p1 p2 p3 av : Value} {s : Strm} {ks : List Nat} {ivs : List (Nat × Nat)} (h : Spl w0 w base sb kb iv lv ac p0 p1 p2 p3 av s ks ivs) (k : Nat) (hk : k < 4) (x : Value) (l : List UInt8) (hx : Own w base 5 x l) : ∃ q0 q1 q2 q3, Spl w0 (w.setCell ⟨sb, 3 + k, none⟩ x) base sb kb iv lv ac q0 q1 q2 q3 av (s.put k l) ks ivs := by
  rcases four_cases hk with rfl | rfl | rfl | rfl
  · exact ⟨x, p1, p2, p3, h.setCell 3 x (by simp) hx h.o1 h.o2 h.o3⟩
  · exact ⟨p0, x, p2, p3, h.setCell 4 x (by simp) h.o0 hx h.o2 h.o3⟩
  · exact ⟨p0, p1, x, p3, h.setCell 5 x (by simp) h.o0 h.o1 hx h.o3⟩
  · exact ⟨p0, p1, p2, x, h.setCell 6 x (by simp) h.o0 h.o1 h.o2 hx⟩

/-- Nothing but the table has turned. -/
theorem Spl.onlyTab {w0 w w' : World} {base sb kb : Nat} {iv lv ac p0 p1 p2 p3 av : Value} {s : Strm} {ks ks' : List Nat} {ivs : List (Nat × Nat)} (h : Spl w0 w base sb kb iv lv ac p0 p1 p2 p3 av s ks ivs) (ho : Only kb w w') (ht : TabAt w' kb ks') : Spl w0 w' base sb kb iv lv ac p0 p1 p2 p3 av s ks' ivs := by
  obtain ⟨C, hC, _⟩ := h.tab.blk
  have u8 : ∀ {v : Value} {xs : List UInt8}, Own w base 5 v xs → Own w' base 5 v xs := fun hv => own_of_block hv fun k hk => by
    obtain ⟨C', hC'⟩ := row_typed hv k hk
    exact ho.block k (Array.getElem?_eq_some_iff.1 hC').1 (ne_typed hC' hC (by decide))
  refine ⟨(ho.block sb h.lt (ne_typed h.blk hC (by decide))).trans h.blk, ht, row_of_block h.row fun k hk => ?_, u8 h.o0, u8 h.o1, u8 h.o2, u8 h.o3, h.below.trans (ho.below h.klo h.top), h.slo, h.klo, Nat.le_trans h.top ho.size⟩
  obtain ⟨C', hC'⟩ := row_typed h.row k hk
  exact ho.block k (Array.getElem?_eq_some_iff.1 hC').1 (ne_typed hC' hC (by decide))

/-- One more lies ahead. -/
theorem Spl.app {w0 w w' : World} {base sb kb : Nat} {iv lv ac p0 p1 p2 p3 av av' : Value} {s : Strm} {ks : List Nat} {ivs ivs' : List (Nat × Nat)} (h : Spl w0 w base sb kb iv lv ac p0 p1 p2 p3 av s ks ivs) (hg : w.grownBy w' av.ownBlock) (ho : w'.ownsRow base 59 2 av' ivs'.length (spanC ivs')) : Spl w0 w' base sb kb iv lv ac p0 p1 p2 p3 av' s ks ivs' := by
  have key : ∀ (k : Nat) C t, w.heap[k]? = some (Obj.cells C t (0, 0)) → t ≠ 59 → w'.heap[k]? = w.heap[k]? := fun k C t hk ht => by
    refine hg.block k (Array.getElem?_eq_some_iff.1 hk).1 fun e => ?_
    obtain ⟨C', hC'⟩ := row_typed h.row k e.symm
    exact ne_typed hk hC' ht rfl
  obtain ⟨C, hC, _⟩ := h.tab.blk
  have u8 : ∀ {v : Value} {xs : List UInt8}, Own w base 5 v xs → Own w' base 5 v xs := fun hv => own_of_block hv fun k hk => by
    obtain ⟨C', hC'⟩ := row_typed hv k hk
    exact key k _ _ hC' (by decide)
  refine ⟨(key sb _ _ h.blk (by decide)).trans h.blk, h.tab.of_block (key kb _ _ hC (by decide)), ho, u8 h.o0, u8 h.o1, u8 h.o2, u8 h.o3, h.below.trans ⟨hg.os, hg.tape, hg.output, hg.size, fun k hk => hg.block k (by have := h.top; omega) fun e => ?_⟩, h.slo, h.klo, Nat.le_trans h.top hg.size⟩
  have := (World.ownsRow.lt h.row k e.symm).1
  omega

theorem own_mono {w : World} {B B' : Nat} {e : TypeId} {v : Value} {xs : List UInt8} (h : Own w B' e v xs) (hB : B ≤ B') : Own w B e v xs := by
  refine ⟨h.1, ?_⟩
  rcases h.2 with h | ⟨g, cap, cur, e1, e2, r⟩
  · exact .inl h
  · exact .inr ⟨g, cap, cur, e1, Nat.le_trans hB e2, r⟩

/-- 'append(v, x)' of one element of two cells, as one step of a region that draws. -/
theorem step_append2 {P : Program} {ops : Array Oper} {o : Oper} {a : Act} {w : World} {K : Act → World → Prop} {Q : Exit → Act → World → Prop} {E : Prop} (hg : o.guard = none) (s x : Operand) (t : TypeId)
    (ho : o.op = .call { callee := .builtin .append, args := #[s, x], argTypes := #[t, t] }) (base : Nat) (e : TypeId) (z : Value) (bytes : Nat) (ht : P.underlying t = some (.slice e)) (hinfo : (P.info? e).map (fun i => (i.zero, i.size, i.bytes)) = some (some z, 2, bytes)) (hzs : z.cells.size = 2)
    {v c0 c1 : Value} {xs : List Value} {n B : Nat} {e' : TypeId} {fr : Nat × Nat} (hs : a.eval s = v) (hx : a.eval x = .slice (some ⟨B, 0, none⟩) 1 1) (hv : w.ownsRow base e 2 v n xs) (hB : w.heap[B]? = some (.cells #[c0, c1] e' fr)) (h0 : c0.oneCell' = true) (h1 : c1.oneCell' = true) (h63 : n + 1 ≤ maxLen) (hb : (n + 1) * bytes ≤ 140737488355328) (hbase : base ≤ w.heap.size)
    (h : ∀ g cap w', w'.ownsRow base e 2 (.slice (some ⟨g, 0, none⟩) (n + 1) cap) (n + 1) (xs ++ [c0, c1]) → w.grownBy w' v.ownBlock → K (a.put o.dst (.slice (some ⟨g, 0, none⟩) (n + 1) cap)) w') : if Region.wanted o (yielded ops a.tmps) = true then Oper.wp P o a w K Q else E := by
  obtain ⟨i, hi, hz0, hz1, hz2⟩ := info_parts hinfo
  exact step_append_lies w hg s x t ho base e i z 2 bytes ht hi hz0 hz1 hz2 hzs (by omega) v n xs hs hv ⟨B, 0, none⟩ 1 1 [c0, c1] hx (by rfl) (World.news_of_block (cs := #[c0, c1]) hB) (by intro u hu; simp at hu; rcases hu with rfl | rfl <;> assumption) (by omega) h63 hb hbase _ rfl fun g cap w' k1 k2 _ _ => h g cap w' k1 k2

theorem Try.infoSpan : (Try.prog.info? 59).map (fun i => (i.zero, i.size, i.bytes)) = some (some (.agg #[.int .u64 0, .int .u64 0]), 2, 16) := by kernel_rfl

/-! ### one step, by definition -/
def stepT (bs : List UInt8) (st : SSt) (t : List UInt8) (a n : Nat) : Nat ⊕ SSt :=
  match tagOf st.met t with
  | none => .inl 2
  | some k => if a < 56 ∨ a % 4 ≠ 0 then .inl 3 else if bs.length < a + n then .inl 1 else if shares st.ivs a n = true then .inl 2
    else .inr ⟨st.s.put k (seg bs a n), st.met ++ [k], st.ivs ++ [(a, n)]⟩
theorem entry_step (bs : List UInt8) (i : Nat) (st : SSt) : entry bs i st = stepT bs st (eTag bs i) (eAt bs i) (eLen bs i) := rfl

theorem stepT_none {bs : List UInt8} {st : SSt} {t : List UInt8} {a n : Nat} (h : ¬ idxT t (leftOf st.met) < (leftOf st.met).length) : stepT bs st t a n = .inl 2 := by
  have : tagOf st.met t = none := by rw [tagOf_idx, List.getElem?_eq_none (by omega)]
  unfold stepT; rw [this]
theorem stepT_some {bs : List UInt8} {st : SSt} {t : List UInt8} {a n : Nat} (h : idxT t (leftOf st.met) < (leftOf st.met).length) : stepT bs st t a n =
    if a < 56 ∨ a % 4 ≠ 0 then .inl 3 else if bs.length < a + n then .inl 1 else if shares st.ivs a n = true then .inl 2
    else .inr ⟨st.s.put (leftOf st.met)[idxT t (leftOf st.met)] (seg bs a n), st.met ++ [(leftOf st.met)[idxT t (leftOf st.met)]], st.ivs ++ [(a, n)]⟩ := by
  have : tagOf st.met t = some (leftOf st.met)[idxT t (leftOf st.met)] := by rw [tagOf_idx, List.getElem?_eq_getElem h]
  unfold stepT; rw [this]

end Go.Proofs.Ytbehcdpjpjklfaa
