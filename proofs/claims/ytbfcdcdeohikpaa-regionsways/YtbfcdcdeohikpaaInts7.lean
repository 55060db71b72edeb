
/- Rows of numbers of a call's own: made with room, appended to; what stood there stands. -/
import Derived.Test.YtbfcdcdeohikpaaInts
import Derived.Test.YtbfcdcdeohikpaaConv
import Derived.Test.YtbfcdcdeohikpaaCells
namespace Go.Proofs.Ytbfcdcdeohikpaa
set_option linter.unusedVariables false
set_option linter.unusedSimpArgs false
open Go.RowKit

def OwnI (w : World) (base : Nat) (v : Value) (l : List Int) : Prop := OwnV w base 3 v (i64s l)
theorem i64s_append (a b : List Int) : i64s (a ++ b) = i64s a ++ i64s b := by simp [i64s]
theorem OwnI.is {w : World} {base : Nat} {v : Value} {l : List Int} (h : OwnI w base v l) : Is w v l := OwnV.sl h
theorem OwnI.later {w w' : World} {base : Nat} {v : Value} {l : List Int} (h : OwnI w base v l) (hb : Below w.heap.size w w') : OwnI w' base v l := OwnV.later h hb
theorem OwnI.of_block {w w' : World} {base : Nat} {v : Value} {l : List Int} (h : OwnI w base v l) (hb : ∀ k, v.ownBlock = some k → k < w.heap.size → w'.heap[k]? = w.heap[k]?) : OwnI w' base v l := OwnV.of_block h hb
theorem OwnI.block {w : World} {base : Nat} {v : Value} {l : List Int} (h : OwnI w base v l) : ∀ k, v.ownBlock = some k → base ≤ k ∧ k < w.heap.size := OwnV.block h
theorem OwnI.nil (w : World) (base : Nat) : OwnI w base (.slice none 0 0) [] := OwnV.nil w base 3
theorem OwnI.typed {w : World} {base : Nat} {v : Value} {l : List Int} (h : OwnI w base v l) : ∀ k, v.ownBlock = some k → ∃ C, At w k C 3 := OwnV.typed h
theorem OwnI.ne {w : World} {base g : Nat} {v : Value} {l : List Int} {C : Array Value} {t : TypeId} (ho : OwnI w base v l) (h : At w g C t) (ht : t ≠ 3) : v.ownBlock ≠ some g := by
  intro e
  obtain ⟨C', hC⟩ := ho.typed g e
  unfold At at h hC
  rw [h] at hC
  simp only [Option.some.injEq, Obj.cells.injEq] at hC
  exact ht hC.2.1
theorem At.grownI {w w' : World} {g base : Nat} {C : Array Value} {t : TypeId} {v : Value} {l : List Int} (h : At w g C t) (ho : OwnI w base v l) (ht : t ≠ 3) (hg : w.grownBy w' v.ownBlock) : At w' g C t := by
  have hl := h.lt
  have hne := ho.ne h ht
  unfold At at h ⊢
  rw [hg.block g hl (fun e => hne e.symm)]; exact h
/-- A row that isn't empty, cell by cell. -/
theorem OwnI.parts {w : World} {base : Nat} {v : Value} {l : List Int} (h : OwnI w base v l) (hne : l ≠ []) : ∃ g cap, v = .slice (some ⟨g, 0, none⟩) l.length cap ∧ l.length ≤ cap ∧ cap ≤ maxLen ∧ base ≤ g ∧ g < w.heap.size ∧ ∀ i (hi : i < l.length), w.cell? ⟨g, i, none⟩ = some (.int .i64 l[i]) := by
  have hs := OwnV.sl h
  rcases h.2 with ⟨rfl, h0⟩ | ⟨g, cap, cur, rfl, hg, hh, hn, hm, r⟩
  · rw [i64s_length] at h0
    exact absurd (List.eq_nil_of_length_eq_zero h0) hne
  · obtain ⟨a, c, e, _, _, h3⟩ := hs
    obtain ⟨b, off, ea, hb, hc⟩ := h3 (by simpa [i64s] using hne)
    cases e
    cases ea
    rw [i64s_length] at hn ⊢
    refine ⟨g, cap, rfl, hn, hm, hg, hb, fun i hi => ?_⟩
    have := hc i (by rw [i64s_length]; exact hi)
    rw [Nat.zero_add] at this
    rw [this]; simp [i64s]

theorem Try.infoInt : (Try.prog.info? 3).map (fun i => (i.zero, i.size, i.bytes)) = some (some (.int .i64 0), 1, 8) := by kernel_rfl

theorem run_make_ints (w : World) (n : Nat) (hn : n ≤ 100000) :
    ∃ C : Array Value, (Instr.makeSlice 38 (.int .i64 1) (.int .i64 ((n : Int) + 1))).run Try.prog w = .ok (.slice (some ⟨w.heap.size, 0, none⟩) 1 (n + 1)) (w.alloc (.cells C 3)) ∧ OwnI (w.alloc (.cells C 3)) w.heap.size (.slice (some ⟨w.heap.size, 0, none⟩) 1 (n + 1)) [0] := by
  obtain ⟨i, hi, hz0, hz1, hz2⟩ := info_parts Try.infoInt
  have := run_make (P := Try.prog) w 38 3 i _ Try.underlying38 hi hz0 .i64 .i64 1 ((n : Int) + 1) (by omega) (by omega) (by rw [hz2]; omega) (by omega)
  rw [hz1, show ((n : Int) + 1).toNat = n + 1 by omega] at this
  refine ⟨_, this, by simp [i64s, maxLen], .inr ⟨w.heap.size, n + 1, _, rfl, Nat.le_refl _, heap_alloc_new _ _, by simp [i64s], by unfold maxLen; omega, ?_, ?_⟩⟩
  · simp [madeCells]
  · simp [madeCells, i64s, Value.cells, List.range_succ_eq_map, List.map_cons, List.take]

/-- As run_append_at; what stood in the row stands there. -/
theorem run_append_keep {P : Program} (w : World) (base : Nat) (t tx ty e : TypeId) (i : TypeInfo) (z : Value) (ht : P.underlying t = some (.slice e)) (hi : P.info? e = some i) (hz : i.zero = some z) (hs1 : i.size = 1) (hzs : z.cells.size = 1)
    {v y : Value} {xs news : List Value} {n : Nat} (hv : OwnV w base e v xs) (hs : Src P 1 tx y n news w) (h63 : xs.length + n ≤ maxLen) (hbytes : ((xs.length + n) + (xs.length + n) / 4 + 192) * i.bytes ≤ 281474976710656) (hbase : base ≤ w.heap.size) :
    ∃ v' w', (Builtin.append_ #[t, tx] ty #[v, y]).run P w = .ok v' w' ∧ OwnV w' base e v' (xs ++ news) ∧ w.grownBy w' v.ownBlock ∧ (v'.ownBlock = v.ownBlock ∨ v'.ownBlock = some w.heap.size) ∧ (∀ g, v.ownBlock = some g → ∀ j, j < xs.length → w'.cell? ⟨g, j, none⟩ = w.cell? ⟨g, j, none⟩) := by
  obtain ⟨v', w', hr, ho, hg, hp, _⟩ := run_append_at (P := P) w base t tx ty e i z ht hi hz hs1 hzs hv hs h63 hbytes hbase
  refine ⟨v', w', hr, ho, hg, hp, fun g hvg j hj => ?_⟩
  rcases hv.2 with ⟨rfl, h0⟩ | ⟨g', cap, cur, rfl, hbg, hgg, hnc, hcm, hcs, htake⟩
  · simp [Value.ownBlock] at hvg
  · have e1 : g' = g := by simpa [Value.ownBlock] using hvg
    subst e1
    have hnl : news.length = n := by have := hs.newsLen; omega
    have hadd : (⟨g', 0, none⟩ : Addr).add j = ⟨g', j, none⟩ := by unfold Addr.add; split <;> simp_all
    have hc0 := World.ownsRow.cells (w := w) (base := base) (e := e) (size := 1) (v := .slice (some ⟨g', 0, none⟩) xs.length cap) (n := xs.length) (xs := xs) hv (g := g') rfl j xs[j] (List.getElem?_eq_getElem hj)
    by_cases hroom : xs.length + n ≤ cap
    · have hfit : xs.length * i.size + news.length ≤ cur.size := by rw [hs1, hcs, hnl]; omega
      have hst := run_storeCells_at P g' (xs.length * i.size) e news 0 cur w hgg (by simpa using hfit) hs.one
      simp only [Nat.add_zero] at hst
      have hr' : (Builtin.append_ #[t, tx] ty #[.slice (some ⟨g', 0, none⟩) xs.length cap, y]).run P w = .ok (.slice (some ⟨g', 0, none⟩) (xs.length + n) cap) (w.setRow g' (cur.toList.take (xs.length * i.size) ++ news ++ cur.toList.drop (xs.length * i.size + news.length)).toArray) := by
        have hc := hs.cells
        rw [hs1] at hst ⊢
        simp only [Nat.mul_one] at hst ⊢
        rcases hs.kind with ⟨e', hk⟩ | hk <;> simp [Builtin.append_, run_underlying ht, run_underlying hk, sizeOf, typeInfo, hi, hs1, hs.len, hc, hroom, Addr.add_lit, hst]
      rw [hr'] at hr
      simp only [Result.ok.injEq] at hr
      obtain ⟨hr1, hr2⟩ := hr
      subst hr1
      have hc1 := World.ownsRow.cells (w := w') (base := base) (e := e) (size := 1) (n := (xs ++ news).length) (xs := xs ++ news) ho (g := g') rfl j xs[j] (by rw [List.getElem?_append_left hj]; exact List.getElem?_eq_getElem hj)
      rw [hadd] at hc0 hc1
      rw [hc1, hc0]
    · have hold : (Builtin.firstCells i.size xs.length (.slice (some ⟨g', 0, none⟩) xs.length cap)).run P w.drew = .ok xs.toArray w.drew := by
        rw [hs1]
        refine run_firstCells_some w.drew 1 xs.length ⟨g', 0, none⟩ xs.length cap xs (by omega) ?_
        intro j u hj
        exact World.ownsRow.cells (w := w.drew) (base := base) (e := e) (size := 1) (v := .slice (some ⟨g', 0, none⟩) xs.length cap) (n := xs.length) (xs := xs) hv (g := g') rfl j u hj
      have h63i : ((xs.length + n : Nat) : Int) ≤ 9223372036854775807 := by simp only [maxLen] at h63; omega
      have hr' := run_append_grow_src (P := P) w t tx ty e i z ht hi hz (some ⟨g', 0, none⟩) xs.length cap xs hold y n news (by rw [hs1]; exact hs) (by omega) h63i (growslice_fits_wide (by omega) hbytes)
      rw [hr'] at hr
      simp only [Result.ok.injEq] at hr
      obtain ⟨hr1, hr2⟩ := hr
      subst hr2
      have hlt := (Array.getElem?_eq_some_iff.1 hgg).1
      exact World.cell?_of_block (heap_alloc_old w.drew _ hlt)

/-- 'append(v, x)' of one number as one step of a region that draws. -/
theorem step_append_int {ops : Array Oper} {o : Oper} {a : Act} {w : World} {K : Act → World → Prop} {Q : Exit → Act → World → Prop} {E : Prop} (hg : o.guard = none) (s x : Operand)
    (ho : o.op = .call { callee := .builtin .append, args := #[s, x], argTypes := #[38, 38] }) (base : Nat)
    {v y : Value} {l : List Int} {n : Int} (hs : a.eval s = v) (hx : a.eval x = y) (hv : OwnI w base v l) (hy : Src Try.prog 1 38 y 1 [.int .i64 n] w) (hl : l.length ≤ 100000) (hbase : base ≤ w.heap.size)
    (h : ∀ v' w', OwnI w' base v' (l ++ [n]) → w.grownBy w' v.ownBlock → (∀ g, v.ownBlock = some g → ∀ j, j < l.length → w'.cell? ⟨g, j, none⟩ = w.cell? ⟨g, j, none⟩) → K (a.put o.dst v') w') : if Region.wanted o (yielded ops a.tmps) = true then Oper.wp Try.prog o a w K Q else E := by
  have hw : Region.wanted o (yielded ops a.tmps) = true := by simp [Region.wanted, hg]
  rw [if_pos hw]
  obtain ⟨i, hi, hz0, hz1, hz2⟩ := info_parts Try.infoInt
  obtain ⟨v', w', hr, h2, h3, h4, h5⟩ := run_append_keep (P := Try.prog) w base 38 38 o.type 3 i _ Try.underlying38 hi hz0 hz1 rfl hv hy (by rw [i64s_length]; unfold maxLen; omega) (by rw [i64s_length, hz2]; omega) hbase
  unfold Oper.wp execOp
  simp only [ho, resolve, invoke, builtin, Sem.run_bind, Sem.run_pure, Result.andThen_ok, List.map_toArray, List.map_cons, List.map_nil, hs, hx, hr]
  refine h v' w' ?_ h3 (fun g hg j hj => h5 g hg j (by rw [i64s_length]; exact hj))
  unfold OwnI
  rw [i64s_append]
  exact h2

/-- The same for the walk. -/
theorem wpList_append_int {ops : Array Oper} {Q : Exit → Act → World → Prop} {a : Act} {w : World} {rest : List Oper} {o : Oper} (hw : Region.wanted o (yielded ops a.tmps) = true) (s x : Operand)
    (ho : o.op = .call { callee := .builtin .append, args := #[s, x], argTypes := #[38, 38] }) (base : Nat)
    {v y : Value} {l : List Int} {n : Int} (hs : a.eval s = v) (hx : a.eval x = y) (hv : OwnI w base v l) (hy : Src Try.prog 1 38 y 1 [.int .i64 n] w) (hl : l.length ≤ 100000) (hbase : base ≤ w.heap.size)
    (h : ∀ v' w', OwnI w' base v' (l ++ [n]) → w.grownBy w' v.ownBlock → wpList Try.prog ops Q rest (a.put o.dst v') w') : wpList Try.prog ops Q (o :: rest) a w := by
  refine wpList_want hw fun K hK => ?_
  obtain ⟨i, hi, hz0, hz1, hz2⟩ := info_parts Try.infoInt
  obtain ⟨v', w', hr, h2, h3, h4, h5⟩ := run_append_keep (P := Try.prog) w base 38 38 o.type 3 i _ Try.underlying38 hi hz0 hz1 rfl hv hy (by rw [i64s_length]; unfold maxLen; omega) (by rw [i64s_length, hz2]; omega) hbase
  unfold Oper.wp execOp
  simp only [ho, resolve, invoke, builtin, Sem.run_bind, Sem.run_pure, Result.andThen_ok, List.map_toArray, List.map_cons, List.map_nil, hs, hx, hr]
  refine hK _ _ (h v' w' ?_ h3)
  unfold OwnI
  rw [i64s_append]
  exact h2

theorem one_int (w : World) (n : Int) (g : Nat) (hg : g = w.heap.size) : Src Try.prog 1 38 (.slice (some ⟨g, 0, none⟩) 1 1) 1 [.int .i64 n] (w.alloc (Obj.cells #[.int .i64 n] 3)) :=
  one_src0 Try.underlying38 w (.int .i64 n) 3 g hg rfl

end Go.Proofs.Ytbfcdcdeohikpaa
