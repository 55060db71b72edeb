
/- Clauses (api.Raw) in memory, six numbers each: slices of them, rows of a call's own, append. -/
import Derived.Test.YtfgjlljbpcombaaCells
import Derived.Test.YtfgjlljbpcombaaConv
import Derived.Deep.QuietTactic
import Derived.BigQuiet
namespace Go.Proofs.Ytfgjlljbpcombaa
set_option linter.unusedVariables false
set_option linter.unusedSimpArgs false
open Go.RowKit

/-- A clause: kind, place and length of what is tried, of what handles, one more. -/
abbrev Rw := Int × Int × Int × Int × Int × Int
/-- The cells of clauses. -/
def rcL : List Rw → List Value
  | [] => []
  | x :: r => .int .i64 x.1 :: .int .i64 x.2.1 :: .int .i64 x.2.2.1 :: .int .i64 x.2.2.2.1 :: .int .i64 x.2.2.2.2.1 :: .int .i64 x.2.2.2.2.2 :: rcL r
theorem rcL_length (L : List Rw) : (rcL L).length = 6 * L.length := by
  induction L with
  | nil => rfl
  | cons t r ih => simp [rcL, ih]; omega
theorem rcL_append (L M : List Rw) : rcL (L ++ M) = rcL L ++ rcL M := by
  induction L with
  | nil => rfl
  | cons t r ih => simp [rcL, ih]
theorem rcL_get : ∀ (L : List Rw) (i : Nat) (h : i < L.length), (rcL L)[i * 6]? = some (.int .i64 L[i].1) ∧ (rcL L)[i * 6 + 1]? = some (.int .i64 L[i].2.1) ∧ (rcL L)[i * 6 + 2]? = some (.int .i64 L[i].2.2.1) ∧ (rcL L)[i * 6 + 3]? = some (.int .i64 L[i].2.2.2.1) ∧ (rcL L)[i * 6 + 4]? = some (.int .i64 L[i].2.2.2.2.1) ∧ (rcL L)[i * 6 + 5]? = some (.int .i64 L[i].2.2.2.2.2)
  | t :: r, 0, _ => ⟨rfl, rfl, rfl, rfl, rfl, rfl⟩
  | t :: r, i + 1, h => by
    have ih := rcL_get r i (by simpa using h)
    have e : (i + 1) * 6 = i * 6 + 1 + 1 + 1 + 1 + 1 + 1 := by omega
    simp only [rcL, e, List.getElem?_cons_succ, List.getElem_cons_succ]
    exact ih
theorem rcL_one (l : List Rw) : ∀ u ∈ rcL l, u.oneCell' = true := by
  induction l with
  | nil => simp [rcL]
  | cons t r ih =>
    intro u hu
    simp only [rcL, List.mem_cons] at hu
    rcases hu with rfl | rfl | rfl | rfl | rfl | rfl | hu
    · rfl
    · rfl
    · rfl
    · rfl
    · rfl
    · rfl
    · exact ih u hu

/-- The value is a slice of just these clauses in that world. -/
def Ws (w : World) (v : Value) (l : List Rw) : Prop :=
  ∃ a cap, v = .slice a l.length cap ∧ l.length ≤ cap ∧ cap ≤ maxLen ∧
    (l ≠ [] → ∃ b off, a = some ⟨b, off, none⟩ ∧ b < w.heap.size ∧ ∀ j u, (rcL l)[j]? = some u → w.cell? ⟨b, off + j, none⟩ = some u)

theorem Ws.nil (w : World) : Ws w (.slice none 0 0) [] := ⟨none, 0, rfl, Nat.le_refl _, Nat.zero_le _, fun h => absurd rfl h⟩
theorem Ws.len {w : World} {v : Value} {l : List Rw} (h : Ws w v l) : l.length ≤ maxLen := by
  obtain ⟨a, cap, _, h1, h2, _⟩ := h; omega
theorem Ws.shape {w : World} {v : Value} {l : List Rw} (h : Ws w v l) : ∃ a c, v = .slice a l.length c ∧ l.length ≤ c ∧ c ≤ maxLen := by
  obtain ⟨a, c, h1, h2, h3, _⟩ := h
  exact ⟨a, c, h1, h2, h3⟩
theorem Ws.of_block {w w' : World} {v : Value} {l : List Rw} (h : Ws w v l) (hs : w.heap.size ≤ w'.heap.size) (hk : ∀ k, v.ownBlock = some k → k < w.heap.size → w'.heap[k]? = w.heap[k]?) : Ws w' v l := by
  obtain ⟨a, cap, rfl, h1, h2, h3⟩ := h
  refine ⟨a, cap, rfl, h1, h2, fun hne => ?_⟩
  obtain ⟨b, off, rfl, hb, hc⟩ := h3 hne
  refine ⟨b, off, rfl, by omega, fun j u hj => ?_⟩
  rw [← hc j u hj]
  exact World.cell?_of_block (hk b rfl hb)
theorem Ws.below {w w' : World} {v : Value} {l : List Rw} {B : Nat} (h : Ws w v l) (hb : Below B w w') (hk : ∀ k, v.ownBlock = some k → k < B) : Ws w' v l :=
  h.of_block hb.size fun k hv _ => hb.block k (hk k hv)
theorem Ws.later {w w' : World} {v : Value} {l : List Rw} (h : Ws w v l) (hb : Below w.heap.size w w') : Ws w' v l :=
  h.of_block hb.size fun k _ hk => hb.block k hk
theorem Ws.drewN {w : World} {v : Value} {l : List Rw} (h : Ws w v l) (n : Nat) : Ws (w.drewN n) v l :=
  h.of_block (Nat.le_refl _) fun _ _ _ => rfl

/-- Six8 cells at a place hold this clause. -/
def Six8 (w : World) (b o : Nat) (x : Rw) : Prop := w.cell? ⟨b, o, none⟩ = some (.int .i64 x.1) ∧ w.cell? ⟨b, o + 1, none⟩ = some (.int .i64 x.2.1) ∧ w.cell? ⟨b, o + 2, none⟩ = some (.int .i64 x.2.2.1) ∧
  w.cell? ⟨b, o + 3, none⟩ = some (.int .i64 x.2.2.2.1) ∧ w.cell? ⟨b, o + 4, none⟩ = some (.int .i64 x.2.2.2.2.1) ∧ w.cell? ⟨b, o + 5, none⟩ = some (.int .i64 x.2.2.2.2.2)
theorem Six8.below {w w' : World} {b o B : Nat} {x : Rw} (h : Six8 w b o x) (hb : Below B w w') (hB : b < B) : Six8 w' b o x := by
  have e : ∀ o, w'.cell? ⟨b, o, none⟩ = w.cell? ⟨b, o, none⟩ := fun o => hb.cell (p := ⟨b, o, none⟩) hB
  unfold Six8 at h ⊢
  simp only [e]
  exact h
/-- What is known of a slice that is not empty. -/
theorem Ws.parts {w : World} {v : Value} {l : List Rw} (h : Ws w v l) (hne : l ≠ []) : ∃ b off cap, v = .slice (some ⟨b, off, none⟩) l.length cap ∧ l.length ≤ cap ∧ cap ≤ maxLen ∧ b < w.heap.size ∧ ∀ i (hi : i < l.length), Six8 w b (off + i * 6) l[i] := by
  obtain ⟨a, cap, rfl, h1, h2, h3⟩ := h
  obtain ⟨b, off, rfl, hb, hc⟩ := h3 hne
  refine ⟨b, off, cap, rfl, h1, h2, hb, fun i hi => ?_⟩
  obtain ⟨g0, g1, g2, g3, g4, g5⟩ := rcL_get l i hi
  exact ⟨hc _ _ g0, by rw [Nat.add_assoc]; exact hc _ _ g1, by rw [Nat.add_assoc]; exact hc _ _ g2, by rw [Nat.add_assoc]; exact hc _ _ g3, by rw [Nat.add_assoc]; exact hc _ _ g4, by rw [Nat.add_assoc]; exact hc _ _ g5⟩

/-- The same in memory of the call's own. -/
def OwnW (w : World) (base : Nat) (v : Value) (l : List Rw) : Prop := w.ownsRow base 52 6 v l.length (rcL l)

theorem OwnW.ws {w : World} {base : Nat} {v : Value} {l : List Rw} (h : OwnW w base v l) : Ws w v l := by
  obtain ⟨h1, h2⟩ := h
  rcases h2 with ⟨rfl, h0⟩ | ⟨g, cap, cur, rfl, hg, hh, hn, hm, hs, ht⟩
  · have : l = [] := List.eq_nil_of_length_eq_zero h0
    subst this; exact Ws.nil w
  · refine ⟨_, cap, rfl, hn, hm, fun _ => ⟨g, 0, rfl, (Array.getElem?_eq_some_iff.1 hh).1, fun j u hj => ?_⟩⟩
    have hjl : j < 6 * l.length := by rw [← rcL_length]; exact (List.getElem?_eq_some_iff.1 hj).1
    rw [← ht, List.getElem?_take, if_pos (by omega)] at hj
    simp only [World.cell?, hh, Nat.zero_add]
    simpa using hj
theorem OwnW.block {w : World} {base : Nat} {v : Value} {l : List Rw} (h : OwnW w base v l) : ∀ k, v.ownBlock = some k → base ≤ k ∧ k < w.heap.size := World.ownsRow.lt h
theorem OwnW.of_block {w w' : World} {base : Nat} {v : Value} {l : List Rw} (h : OwnW w base v l) (hb : ∀ k, v.ownBlock = some k → k < w.heap.size → w'.heap[k]? = w.heap[k]?) : OwnW w' base v l := by
  obtain ⟨h1, h2⟩ := h
  refine ⟨h1, ?_⟩
  rcases h2 with h2 | ⟨g, cap, cur, rfl, hg, hh, r⟩
  · exact Or.inl h2
  · exact Or.inr ⟨g, cap, cur, rfl, hg, by rw [hb g rfl (Array.getElem?_eq_some_iff.1 hh).1]; exact hh, r⟩
theorem OwnW.later {w w' : World} {base : Nat} {v : Value} {l : List Rw} (h : OwnW w base v l) (hb : Below w.heap.size w w') : OwnW w' base v l :=
  h.of_block fun k _ hk => hb.block k hk
theorem OwnW.nil (w : World) (base : Nat) : OwnW w base (.slice none 0 0) [] := World.ownsRow_nil w base 52 6
theorem OwnW.typed {w : World} {base : Nat} {v : Value} {l : List Rw} (h : OwnW w base v l) : ∀ k, v.ownBlock = some k → ∃ C, At w k C 52 := by
  intro k hk
  rcases h.2 with ⟨rfl, _⟩ | ⟨g, cap, cur, rfl, hg, hh, r⟩
  · simp [Value.ownBlock] at hk
  · simp [Value.ownBlock] at hk; subst hk; exact ⟨cur, hh⟩
theorem OwnW.empty (w : World) (base : Nat) (hb : base ≤ w.heap.size) : OwnW (w.alloc (.cells #[] 52)) base (.slice (some ⟨w.heap.size, 0, none⟩) 0 0) [] := by
  have := World.ownsRow_lit (base := base) (e := 52) (size := 6) w #[] 0 hb (Nat.zero_le _) (by simp)
  unfold OwnW
  simpa [rcL] using this
theorem OwnW.lit (w : World) (base : Nat) (l : List Rw) (C : Array Value) (n : Nat) (hb : base ≤ w.heap.size) (hC : C = (rcL l).toArray) (hn : n = l.length) (hm : l.length ≤ maxLen) :
    OwnW (w.alloc (.cells C 52)) base (.slice (some ⟨w.heap.size, 0, none⟩) n n) l := by
  subst hC hn
  have := World.ownsRow_lit (base := base) (e := 52) (size := 6) w (rcL l).toArray l.length hb hm (by simp [rcL_length]; omega)
  unfold OwnW
  simpa using this
/-- A block of another element type stands while a row of clauses grows. -/
theorem OwnW.ne {w : World} {base g : Nat} {v : Value} {l : List Rw} {C : Array Value} {t : TypeId} (ho : OwnW w base v l) (h : At w g C t) (ht : t ≠ 52) : v.ownBlock ≠ some g := by
  intro e
  obtain ⟨C', hC⟩ := ho.typed g e
  unfold At at h hC
  rw [h] at hC
  simp only [Option.some.injEq, Obj.cells.injEq] at hC
  exact ht hC.2.1
theorem At.grownW {w w' : World} {g base : Nat} {C : Array Value} {t : TypeId} {v : Value} {l : List Rw} (h : At w g C t) (ho : OwnW w base v l) (ht : t ≠ 52) (hg : w.grownBy w' v.ownBlock) : At w' g C t := by
  have hl := h.lt
  have hne := ho.ne h ht
  unfold At at h ⊢
  rw [hg.block g hl (fun e => hne e.symm)]; exact h

theorem Try.infoRaw : (Try.prog.info? 52).map (fun i => (i.zero, i.size, i.bytes)) = some (some (.agg #[.int .i64 0, .int .i64 0, .int .i64 0, .int .i64 0, .int .i64 0, .int .i64 0]), 6, 48) := by kernel_rfl

theorem run_append_ws (w : World) (base : Nat) (ty : TypeId) {v y : Value} {xs ys : List Rw} (hv : OwnW w base v xs) (hy : Ws w y ys) (hb : xs.length + ys.length ≤ 100000) (hbase : base ≤ w.heap.size) :
    ∃ v' w', (Builtin.append_ #[23, 23] ty #[v, y]).run Try.prog w = .ok v' w' ∧ OwnW w' base v' (xs ++ ys) ∧ w.grownBy w' v.ownBlock := by
  obtain ⟨i, hi, hz0, hz1, hz2⟩ := info_parts Try.infoRaw
  obtain ⟨a, cap, rfl, h1, h2, h3⟩ := id hy
  cases a with
  | none =>
    have hys : ys = [] := by
      by_cases h : ys = []
      · exact h
      · obtain ⟨b, off, hh, _⟩ := h3 h; simp at hh
    subst hys
    refine ⟨v, w, ?_, by simpa using hv, ⟨rfl, rfl, rfl, Nat.le_refl _, fun _ _ _ => rfl⟩⟩
    rcases hv.2 with ⟨rfl, h0⟩ | ⟨g, cp, cur, rfl, _, _, hnc, _⟩
    · simp [Builtin.append_, run_underlying Try.underlying23, sizeOf, typeInfo, hi, Builtin.lenOf, Builtin.firstCells]
    · simp [Builtin.append_, run_underlying Try.underlying23, sizeOf, typeInfo, hi, Builtin.lenOf, Builtin.firstCells, hnc, storeCells]
  | some ad =>
    have hnews : ∀ j u, (rcL ys)[j]? = some u → w.cell? (ad.add j) = some u := by
      intro j u hj
      have hne : ys ≠ [] := by intro e; subst e; simp [rcL] at hj
      obtain ⟨b, off, hh, _, hc⟩ := h3 hne
      simp only [Option.some.injEq] at hh
      subst hh
      have hplain : (⟨b, off, none⟩ : Addr).add j = ⟨b, off + j, none⟩ := by unfold Addr.add; split <;> simp_all
      rw [hplain]
      exact hc j u hj
    obtain ⟨v', w', hr, ho, hg, _⟩ := run_append_own (P := Try.prog) w base 23 ty 52 i _ 6 48 Try.underlying23 hi hz0 hz1 hz2 rfl (by omega) v xs.length (rcL xs) hv ad ys.length cap (rcL ys) (by rw [rcL_length]; omega) hnews
      (rcL_one ys) (by unfold maxLen; omega) (by omega) hbase
    refine ⟨v', w', hr, ?_, hg⟩
    unfold OwnW
    rw [List.length_append, rcL_append]
    exact ho

/-- The law for the walk: 'append(v, y...)' of clauses. -/
theorem wpList_append_ws {w : World} {ops : Array Oper} {rest : List Oper} {o : Oper} {a : Act} {Q : Exit → Act → World → Prop} (hw : Region.wanted o (yielded ops a.tmps) = true) (s x : Operand)
    (ho : o.op = .call { callee := .builtin .append, args := #[s, x], argTypes := #[23, 23] }) (base : Nat)
    {v y : Value} {xs ys : List Rw} (hs : a.eval s = v) (hx : a.eval x = y) (hv : OwnW w base v xs) (hy : Ws w y ys) (hb : xs.length + ys.length ≤ 100000) (hbase : base ≤ w.heap.size)
    (h : ∀ v' w', OwnW w' base v' (xs ++ ys) → w.grownBy w' v.ownBlock → wpList Try.prog ops Q rest (a.put o.dst v') w') : wpList Try.prog ops Q (o :: rest) a w := by
  refine wpList_want hw fun K hK => ?_
  obtain ⟨v', w', hr, h2, h3⟩ := run_append_ws w base o.type hv hy hb hbase
  unfold Oper.wp execOp
  simp only [ho, resolve, invoke, builtin, Sem.run_bind, Sem.run_pure, Result.andThen_ok, List.map_toArray, List.map_cons, List.map_nil, hs, hx, hr]
  exact hK _ _ (h v' w' h2 h3)

theorem OwnW.shape {w : World} {base : Nat} {v : Value} {l : List Rw} (h : OwnW w base v l) : ∃ a c, v = .slice a l.length c ∧ l.length ≤ c ∧ c ≤ maxLen := h.ws.shape

end Go.Proofs.Ytfgjlljbpcombaa
