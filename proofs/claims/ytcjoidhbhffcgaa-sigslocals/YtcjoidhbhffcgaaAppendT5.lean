
/- Rows of types of a call's own; 'append' of types. -/
import Derived.Test.YtcjoidhbhffcgaaTBlock5
namespace Go.Proofs.Ytcjoidhbhffcgaa
set_option linter.unusedVariables false
set_option linter.unusedSimpArgs false
open Go.RowKit

/-- The same as Ts in memory of the call's own. -/
def OwnT (w : World) (base : Nat) (v : Value) (ts : List Ty) : Prop := w.ownsRow base 23 4 v ts.length (tcL ts)

theorem tcL_one (ts : List Ty) : ∀ u ∈ tcL ts, u.oneCell' = true := by
  induction ts with
  | nil => simp [tcL]
  | cons t r ih =>
    intro u hu
    simp only [tcL, List.mem_cons] at hu
    rcases hu with rfl | rfl | rfl | rfl | hu
    · rfl
    · rfl
    · rfl
    · rfl
    · exact ih u hu

theorem OwnT.ts {w : World} {base : Nat} {v : Value} {ts : List Ty} (h : OwnT w base v ts) : Ts w v ts := by
  obtain ⟨h1, h2⟩ := h
  rcases h2 with ⟨rfl, h0⟩ | ⟨g, cap, cur, rfl, hg, hh, hn, hm, hs, ht⟩
  · have : ts = [] := List.eq_nil_of_length_eq_zero h0
    subst this; exact Ts.nil w
  · refine ⟨_, cap, rfl, hn, hm, fun _ => ⟨g, 0, rfl, (Array.getElem?_eq_some_iff.1 hh).1, fun i hi => ?_⟩⟩
    obtain ⟨g0, g1, g2, g3⟩ := tcL_get ts i hi
    rw [← ht] at g0 g1 g2 g3
    rw [List.getElem?_take, if_pos (by omega)] at g0 g1 g2 g3
    simp only [World.cell?, hh, Nat.zero_add]
    refine ⟨by simpa using g0, by simpa using g1, by simpa using g2, by simpa using g3⟩
theorem OwnT.block {w : World} {base : Nat} {v : Value} {ts : List Ty} (h : OwnT w base v ts) : ∀ k, v.ownBlock = some k → base ≤ k ∧ k < w.heap.size := World.ownsRow.lt h
theorem OwnT.later {w w' : World} {base : Nat} {v : Value} {ts : List Ty} (h : OwnT w base v ts) (hb : Below w.heap.size w w') : OwnT w' base v ts := by
  obtain ⟨h1, h2⟩ := h
  refine ⟨h1, ?_⟩
  rcases h2 with h2 | ⟨g, cap, cur, hv, hg, hh, r⟩
  · exact Or.inl h2
  · exact Or.inr ⟨g, cap, cur, hv, hg, by rw [hb.block g (Array.getElem?_eq_some_iff.1 hh).1]; exact hh, r⟩
theorem OwnT.setOther {w : World} {base g o : Nat} {v u : Value} {ts : List Ty} (h : OwnT w base v ts) (hne : v.ownBlock ≠ some g) : OwnT (w.setCell ⟨g, o, none⟩ u) base v ts := by
  obtain ⟨h1, h2⟩ := h
  refine ⟨h1, ?_⟩
  rcases h2 with h2 | ⟨g', cap, cur, rfl, hg, hh, r⟩
  · exact Or.inl h2
  · refine Or.inr ⟨g', cap, cur, rfl, hg, ?_, r⟩
    rw [Below.heap_setCell _ _ _ _ (show g' ≠ g from fun e => hne (by simp [Value.ownBlock, e]))]; exact hh
theorem OwnT.nil (w : World) (base : Nat) : OwnT w base (.slice none 0 0) [] := World.ownsRow_nil w base 23 4
theorem OwnT.typed {w : World} {base : Nat} {v : Value} {ts : List Ty} (h : OwnT w base v ts) : ∀ k, v.ownBlock = some k → ∃ C, At w k C 23 := by
  intro k hk
  rcases h.2 with ⟨rfl, _⟩ | ⟨g, cap, cur, rfl, hg, hh, r⟩
  · simp [Value.ownBlock] at hk
  · simp [Value.ownBlock] at hk; subst hk; exact ⟨cur, hh⟩
theorem OwnT.empty (w : World) (base : Nat) (hb : base ≤ w.heap.size) : OwnT (w.alloc (.cells #[] 23)) base (.slice (some ⟨w.heap.size, 0, none⟩) 0 0) [] := by
  have := World.ownsRow_lit (base := base) (e := 23) (size := 4) w #[] 0 hb (Nat.zero_le _) (by simp)
  unfold OwnT
  simpa [tcL] using this
/-- A block of another element type stands while a row of types grows. -/
theorem At.grownT {w w' : World} {g base : Nat} {C : Array Value} {t : TypeId} {v : Value} {ts : List Ty} (h : At w g C t) (ho : OwnT w base v ts) (ht : t ≠ 23) (hg : w.grownBy w' v.ownBlock) : At w' g C t := by
  have hl := h.lt
  have hne : some g ≠ v.ownBlock := by
    intro e
    obtain ⟨C', hC⟩ := ho.typed g e.symm
    unfold At at h hC
    rw [h] at hC
    simp only [Option.some.injEq, Obj.cells.injEq] at hC
    exact ht hC.2.1
  unfold At at h ⊢
  rw [hg.block g hl hne]; exact h

theorem Ts.cells {w : World} {b off cap : Nat} {ts : List Ty} (h : Ts w (.slice (some ⟨b, off, none⟩) ts.length cap) ts) : ∀ j u, (tcL ts)[j]? = some u → w.cell? ⟨b, off + j, none⟩ = some u := by
  intro j u hj
  have hjl : j < 4 * ts.length := by
    rcases Nat.lt_or_ge j (4 * ts.length) with q | q
    · exact q
    · rw [List.getElem?_eq_none (by rw [tcL_length]; exact q)] at hj; simp at hj
  obtain ⟨a, c, he, _, _, h3⟩ := h
  obtain ⟨b', off', ha, _, hc⟩ := h3 (by intro e; subst e; simp at hjl)
  cases he
  cases ha
  have hi : j / 4 < ts.length := by omega
  obtain ⟨g0, g1, g2, g3⟩ := tcL_get ts (j / 4) hi
  obtain ⟨d0, d1, d2, d3⟩ := hc (j / 4) hi
  rw [← g0] at d0
  rw [← g1] at d1
  rw [← g2] at d2
  rw [← g3] at d3
  rw [← hj]
  have hcs : j % 4 = 0 ∨ j % 4 = 1 ∨ j % 4 = 2 ∨ j % 4 = 3 := by omega
  rcases hcs with q | q | q | q
  · rw [show j / 4 * 4 = j by omega] at d0; exact d0
  · rw [show off + j / 4 * 4 + 1 = off + j by omega, show j / 4 * 4 + 1 = j by omega] at d1; exact d1
  · rw [show off + j / 4 * 4 + 2 = off + j by omega, show j / 4 * 4 + 2 = j by omega] at d2; exact d2
  · rw [show off + j / 4 * 4 + 3 = off + j by omega, show j / 4 * 4 + 3 = j by omega] at d3; exact d3

theorem run_append_ts (w : World) (base : Nat) (ty : TypeId) {v y : Value} {xs ys : List Ty} (hv : OwnT w base v xs) (hy : Ts w y ys) (hb : xs.length + ys.length ≤ 4398046511104) (hbase : base ≤ w.heap.size) :
    ∃ v' w', (Builtin.append_ #[37, 37] ty #[v, y]).run Try.prog w = .ok v' w' ∧ OwnT w' base v' (xs ++ ys) ∧ w.grownBy w' v.ownBlock := by
  obtain ⟨i, hi, hz0, hz1, hz2⟩ := info_parts Try.infoTy
  obtain ⟨a, cap, rfl, h1, h2, h3⟩ := id hy
  cases a with
  | none =>
    have hys : ys = [] := by
      by_cases h : ys = []
      · exact h
      · obtain ⟨b, off, hh, _⟩ := h3 h; simp at hh
    subst hys
    refine ⟨v, w, ?_, by simpa using hv, ⟨rfl, rfl, rfl, Nat.le_refl _, fun _ _ _ => rfl⟩⟩
    rcases hv.2 with ⟨rfl, h0⟩ | ⟨g, cp, cur, rfl, _, _, hnc, _⟩
    · simp [Builtin.append_, run_underlying Try.underlying37, sizeOf, typeInfo, hi, Builtin.lenOf, Builtin.firstCells]
    · simp [Builtin.append_, run_underlying Try.underlying37, sizeOf, typeInfo, hi, Builtin.lenOf, Builtin.firstCells, hnc, storeCells]
  | some ad =>
    have hnews : ∀ j u, (tcL ys)[j]? = some u → w.cell? (ad.add j) = some u := by
      intro j u hj
      have hne : ys ≠ [] := by intro e; subst e; simp [tcL] at hj
      obtain ⟨b, off, hh, _, _⟩ := h3 hne
      simp only [Option.some.injEq] at hh
      subst hh
      have hplain : (⟨b, off, none⟩ : Addr).add j = ⟨b, off + j, none⟩ := by unfold Addr.add; split <;> simp_all
      rw [hplain]
      exact hy.cells j u hj
    obtain ⟨v', w', hr, ho, hg, _⟩ := run_append_own (P := Try.prog) w base 37 ty 23 i _ 4 32 Try.underlying37 hi hz0 hz1 hz2 rfl (by omega) v xs.length (tcL xs) hv ad ys.length cap (tcL ys) (by rw [tcL_length]; omega) hnews
      (tcL_one ys) (by unfold maxLen; omega) (by omega) hbase
    refine ⟨v', w', hr, ?_, hg⟩
    unfold OwnT
    rw [List.length_append, tcL_append]
    exact ho

/-- The law for the walk: 'append(v, y...)' of types. -/
theorem wpList_append_ts {w : World} {ops : Array Oper} {rest : List Oper} {o : Oper} {a : Act} {Q : Exit → Act → World → Prop} (hw : Region.wanted o (yielded ops a.tmps) = true) (s x : Operand)
    (ho : o.op = .call { callee := .builtin .append, args := #[s, x], argTypes := #[37, 37] }) (base : Nat)
    {v y : Value} {xs ys : List Ty} (hs : a.eval s = v) (hx : a.eval x = y) (hv : OwnT w base v xs) (hy : Ts w y ys) (hb : xs.length + ys.length ≤ 4398046511104) (hbase : base ≤ w.heap.size)
    (h : ∀ v' w', OwnT w' base v' (xs ++ ys) → w.grownBy w' v.ownBlock → wpList Try.prog ops Q rest (a.put o.dst v') w') : wpList Try.prog ops Q (o :: rest) a w := by
  refine wpList_want hw fun K hK => ?_
  obtain ⟨v', w', hr, h2, h3⟩ := run_append_ts w base o.type hv hy hb hbase
  unfold Oper.wp execOp
  simp only [ho, resolve, invoke, builtin, Sem.run_bind, Sem.run_pure, Result.andThen_ok, List.map_toArray, List.map_cons, List.map_nil, hs, hx, hr]
  exact hK _ _ (h v' w' h2 h3)

end Go.Proofs.Ytcjoidhbhffcgaa
