
/- Instructions in memory, six cells each: slices of them, rows of a call's own, append; Same of the references. -/
import Derived.Test.YtpgkjfjooogfmaaDoorCells
import Derived.Test.YtpgkjfjooogfmaaDoorOpenT
import Derived.Test.YtpgkjfjooogfmaaDoorConv
import Derived.Test.YtpgkjfjooogfmaaDoorFits6
import Derived.Deep.QuietTactic
import Derived.BigQuiet
namespace Go.Proofs.YtpgkjfjooogfmaaDoor
set_option linter.unusedVariables false
set_option linter.unusedSimpArgs false
open Go.RowKit

/-- The cells of instructions. -/
def xcL : List Ins → List Value
  | [] => []
  | x :: r => .int .i64 x.1 :: .int .i64 x.2.1 :: .int .i64 x.2.2.1 :: .int .i64 x.2.2.2.1 :: .int .i64 x.2.2.2.2.1 :: .bool x.2.2.2.2.2 :: xcL r
theorem xcL_length (L : List Ins) : (xcL L).length = 6 * L.length := by
  induction L with
  | nil => rfl
  | cons t r ih => simp [xcL, ih]; omega
theorem xcL_append (L M : List Ins) : xcL (L ++ M) = xcL L ++ xcL M := by
  induction L with
  | nil => rfl
  | cons t r ih => simp [xcL, ih]
theorem xcL_get : ∀ (L : List Ins) (i : Nat) (h : i < L.length), (xcL L)[i * 6]? = some (.int .i64 L[i].1) ∧ (xcL L)[i * 6 + 1]? = some (.int .i64 L[i].2.1) ∧ (xcL L)[i * 6 + 2]? = some (.int .i64 L[i].2.2.1) ∧ (xcL L)[i * 6 + 3]? = some (.int .i64 L[i].2.2.2.1) ∧ (xcL L)[i * 6 + 4]? = some (.int .i64 L[i].2.2.2.2.1) ∧ (xcL L)[i * 6 + 5]? = some (.bool L[i].2.2.2.2.2)
  | t :: r, 0, _ => ⟨rfl, rfl, rfl, rfl, rfl, rfl⟩
  | t :: r, i + 1, h => by
    have ih := xcL_get r i (by simpa using h)
    have e : (i + 1) * 6 = i * 6 + 1 + 1 + 1 + 1 + 1 + 1 := by omega
    simp only [xcL, e, List.getElem?_cons_succ, List.getElem_cons_succ]
    exact ih
theorem xcL_setArg : ∀ (L : List Ins) (i : Nat) (h : i < L.length) (n : Int), (xcL L).set (i * 6 + 1) (.int .i64 n) = xcL (L.set i (L[i].1, n, L[i].2.2))
  | x :: r, 0, _, n => rfl
  | x :: r, i + 1, h, n => by
    have ih := xcL_setArg r i (by simpa using h) n
    have e : (i + 1) * 6 + 1 = (i * 6 + 1) + 1 + 1 + 1 + 1 + 1 + 1 := by omega
    rw [e]
    simp only [xcL, List.set_cons_succ, ih, List.getElem_cons_succ]
theorem xcL_one (l : List Ins) : ∀ u ∈ xcL l, u.oneCell' = true := by
  induction l with
  | nil => simp [xcL]
  | cons t r ih =>
    intro u hu
    simp only [xcL, List.mem_cons] at hu
    rcases hu with rfl | rfl | rfl | rfl | rfl | rfl | hu
    · rfl
    · rfl
    · rfl
    · rfl
    · rfl
    · rfl
    · exact ih u hu

/-- The value is a slice of just these instructions in that world. -/
def Xs (w : World) (v : Value) (l : List Ins) : Prop :=
  ∃ a cap, v = .slice a l.length cap ∧ l.length ≤ cap ∧ cap ≤ maxLen ∧
    (l ≠ [] → ∃ b off, a = some ⟨b, off, none⟩ ∧ b < w.heap.size ∧ ∀ j u, (xcL l)[j]? = some u → w.cell? ⟨b, off + j, none⟩ = some u)

theorem Xs.nil (w : World) : Xs w (.slice none 0 0) [] := ⟨none, 0, rfl, Nat.le_refl _, Nat.zero_le _, fun h => absurd rfl h⟩
theorem Xs.len {w : World} {v : Value} {l : List Ins} (h : Xs w v l) : l.length ≤ maxLen := by
  obtain ⟨a, cap, _, h1, h2, _⟩ := h; omega
theorem Xs.shape {w : World} {v : Value} {l : List Ins} (h : Xs w v l) : ∃ a c, v = .slice a l.length c ∧ l.length ≤ c ∧ c ≤ maxLen := by
  obtain ⟨a, c, h1, h2, h3, _⟩ := h
  exact ⟨a, c, h1, h2, h3⟩
theorem Xs.of_block {w w' : World} {v : Value} {l : List Ins} (h : Xs w v l) (hs : w.heap.size ≤ w'.heap.size) (hk : ∀ k, v.ownBlock = some k → k < w.heap.size → w'.heap[k]? = w.heap[k]?) : Xs w' v l := by
  obtain ⟨a, cap, rfl, h1, h2, h3⟩ := h
  refine ⟨a, cap, rfl, h1, h2, fun hne => ?_⟩
  obtain ⟨b, off, rfl, hb, hc⟩ := h3 hne
  refine ⟨b, off, rfl, by omega, fun j u hj => ?_⟩
  rw [← hc j u hj]
  exact World.cell?_of_block (hk b rfl hb)
theorem Xs.below {w w' : World} {v : Value} {l : List Ins} {B : Nat} (h : Xs w v l) (hb : Below B w w') (hk : ∀ k, v.ownBlock = some k → k < B) : Xs w' v l :=
  h.of_block hb.size fun k hv _ => hb.block k (hk k hv)
theorem Xs.later {w w' : World} {v : Value} {l : List Ins} (h : Xs w v l) (hb : Below w.heap.size w w') : Xs w' v l :=
  h.of_block hb.size fun k _ hk => hb.block k hk
theorem Xs.drewN {w : World} {v : Value} {l : List Ins} (h : Xs w v l) (n : Nat) : Xs (w.drewN n) v l :=
  h.of_block (Nat.le_refl _) fun _ _ _ => rfl

/-- Six cells at a place hold this instruction. -/
def Six (w : World) (b o : Nat) (x : Ins) : Prop := w.cell? ⟨b, o, none⟩ = some (.int .i64 x.1) ∧ w.cell? ⟨b, o + 1, none⟩ = some (.int .i64 x.2.1) ∧ w.cell? ⟨b, o + 2, none⟩ = some (.int .i64 x.2.2.1) ∧
  w.cell? ⟨b, o + 3, none⟩ = some (.int .i64 x.2.2.2.1) ∧ w.cell? ⟨b, o + 4, none⟩ = some (.int .i64 x.2.2.2.2.1) ∧ w.cell? ⟨b, o + 5, none⟩ = some (.bool x.2.2.2.2.2)
theorem Six.below {w w' : World} {b o B : Nat} {x : Ins} (h : Six w b o x) (hb : Below B w w') (hB : b < B) : Six w' b o x := by
  have e : ∀ o, w'.cell? ⟨b, o, none⟩ = w.cell? ⟨b, o, none⟩ := fun o => hb.cell (p := ⟨b, o, none⟩) hB
  unfold Six at h ⊢
  simp only [e]
  exact h
/-- What is known of a slice that is not empty. -/
theorem Xs.parts {w : World} {v : Value} {l : List Ins} (h : Xs w v l) (hne : l ≠ []) : ∃ b off cap, v = .slice (some ⟨b, off, none⟩) l.length cap ∧ l.length ≤ cap ∧ cap ≤ maxLen ∧ b < w.heap.size ∧ ∀ i (hi : i < l.length), Six w b (off + i * 6) l[i] := by
  obtain ⟨a, cap, rfl, h1, h2, h3⟩ := h
  obtain ⟨b, off, rfl, hb, hc⟩ := h3 hne
  refine ⟨b, off, cap, rfl, h1, h2, hb, fun i hi => ?_⟩
  obtain ⟨g0, g1, g2, g3, g4, g5⟩ := xcL_get l i hi
  exact ⟨hc _ _ g0, by rw [Nat.add_assoc]; exact hc _ _ g1, by rw [Nat.add_assoc]; exact hc _ _ g2, by rw [Nat.add_assoc]; exact hc _ _ g3, by rw [Nat.add_assoc]; exact hc _ _ g4, by rw [Nat.add_assoc]; exact hc _ _ g5⟩

/-- The same in memory of the call's own. -/
def OwnX (w : World) (base : Nat) (v : Value) (l : List Ins) : Prop := w.ownsRow base 45 6 v l.length (xcL l)

theorem OwnX.xs {w : World} {base : Nat} {v : Value} {l : List Ins} (h : OwnX w base v l) : Xs w v l := by
  obtain ⟨h1, h2⟩ := h
  rcases h2 with ⟨rfl, h0⟩ | ⟨g, cap, cur, rfl, hg, hh, hn, hm, hs, ht⟩
  · have : l = [] := List.eq_nil_of_length_eq_zero h0
    subst this; exact Xs.nil w
  · refine ⟨_, cap, rfl, hn, hm, fun _ => ⟨g, 0, rfl, (Array.getElem?_eq_some_iff.1 hh).1, fun j u hj => ?_⟩⟩
    have hjl : j < 6 * l.length := by rw [← xcL_length]; exact (List.getElem?_eq_some_iff.1 hj).1
    rw [← ht, List.getElem?_take, if_pos (by omega)] at hj
    simp only [World.cell?, hh, Nat.zero_add]
    simpa using hj
theorem OwnX.block {w : World} {base : Nat} {v : Value} {l : List Ins} (h : OwnX w base v l) : ∀ k, v.ownBlock = some k → base ≤ k ∧ k < w.heap.size := World.ownsRow.lt h
theorem OwnX.of_block {w w' : World} {base : Nat} {v : Value} {l : List Ins} (h : OwnX w base v l) (hb : ∀ k, v.ownBlock = some k → k < w.heap.size → w'.heap[k]? = w.heap[k]?) : OwnX w' base v l := by
  obtain ⟨h1, h2⟩ := h
  refine ⟨h1, ?_⟩
  rcases h2 with h2 | ⟨g, cap, cur, rfl, hg, hh, r⟩
  · exact Or.inl h2
  · exact Or.inr ⟨g, cap, cur, rfl, hg, by rw [hb g rfl (Array.getElem?_eq_some_iff.1 hh).1]; exact hh, r⟩
theorem OwnX.later {w w' : World} {base : Nat} {v : Value} {l : List Ins} (h : OwnX w base v l) (hb : Below w.heap.size w w') : OwnX w' base v l :=
  h.of_block fun k _ hk => hb.block k hk
theorem OwnX.nil (w : World) (base : Nat) : OwnX w base (.slice none 0 0) [] := World.ownsRow_nil w base 45 6
theorem OwnX.typed {w : World} {base : Nat} {v : Value} {l : List Ins} (h : OwnX w base v l) : ∀ k, v.ownBlock = some k → ∃ C, At w k C 45 := by
  intro k hk
  rcases h.2 with ⟨rfl, _⟩ | ⟨g, cap, cur, rfl, hg, hh, r⟩
  · simp [Value.ownBlock] at hk
  · simp [Value.ownBlock] at hk; subst hk; exact ⟨cur, hh⟩
theorem OwnX.empty (w : World) (base : Nat) (hb : base ≤ w.heap.size) : OwnX (w.alloc (.cells #[] 45)) base (.slice (some ⟨w.heap.size, 0, none⟩) 0 0) [] := by
  have := World.ownsRow_lit (base := base) (e := 45) (size := 6) w #[] 0 hb (Nat.zero_le _) (by simp)
  unfold OwnX
  simpa [xcL] using this
theorem OwnX.lit (w : World) (base : Nat) (l : List Ins) (C : Array Value) (n : Nat) (hb : base ≤ w.heap.size) (hC : C = (xcL l).toArray) (hn : n = l.length) (hm : l.length ≤ maxLen) :
    OwnX (w.alloc (.cells C 45)) base (.slice (some ⟨w.heap.size, 0, none⟩) n n) l := by
  subst hC hn
  have := World.ownsRow_lit (base := base) (e := 45) (size := 6) w (xcL l).toArray l.length hb hm (by simp [xcL_length]; omega)
  unfold OwnX
  simpa using this
/-- A block of another element type stands while a row of instructions grows. -/
theorem OwnX.ne {w : World} {base g : Nat} {v : Value} {l : List Ins} {C : Array Value} {t : TypeId} (ho : OwnX w base v l) (h : At w g C t) (ht : t ≠ 45) : v.ownBlock ≠ some g := by
  intro e
  obtain ⟨C', hC⟩ := ho.typed g e
  unfold At at h hC
  rw [h] at hC
  simp only [Option.some.injEq, Obj.cells.injEq] at hC
  exact ht hC.2.1
theorem At.grownX {w w' : World} {g base : Nat} {C : Array Value} {t : TypeId} {v : Value} {l : List Ins} (h : At w g C t) (ho : OwnX w base v l) (ht : t ≠ 45) (hg : w.grownBy w' v.ownBlock) : At w' g C t := by
  have hl := h.lt
  have hne := ho.ne h ht
  unfold At at h ⊢
  rw [hg.block g hl (fun e => hne e.symm)]; exact h

theorem Tryd.infoIns : (Tryd.prog.info? 45).map (fun i => (i.zero, i.size, i.bytes)) = some (some (.agg #[.int .i64 0, .int .i64 0, .int .i64 0, .int .i64 0, .int .i64 0, .bool false]), 6, 48) := by kernel_rfl

theorem run_append_xs (w : World) (base : Nat) (ty : TypeId) {v y : Value} {xs ys : List Ins} (hv : OwnX w base v xs) (hy : Xs w y ys) (hb : xs.length + ys.length ≤ 100000) (hbase : base ≤ w.heap.size) :
    ∃ v' w', (Builtin.append_ #[22, 22] ty #[v, y]).run Tryd.prog w = .ok v' w' ∧ OwnX w' base v' (xs ++ ys) ∧ w.grownBy w' v.ownBlock := by
  obtain ⟨i, hi, hz0, hz1, hz2⟩ := info_parts Tryd.infoIns
  obtain ⟨a, cap, rfl, h1, h2, h3⟩ := id hy
  cases a with
  | none =>
    have hys : ys = [] := by
      by_cases h : ys = []
      · exact h
      · obtain ⟨b, off, hh, _⟩ := h3 h; simp at hh
    subst hys
    refine ⟨v, w, ?_, by simpa using hv, ⟨rfl, rfl, rfl, Nat.le_refl _, fun _ _ _ => rfl⟩⟩
    rcases hv.2 with ⟨rfl, h0⟩ | ⟨g, cp, cur, rfl, _, _, hnc, _⟩
    · simp [Builtin.append_, run_underlying Tryd.underlying22, sizeOf, typeInfo, hi, Builtin.lenOf, Builtin.firstCells]
    · simp [Builtin.append_, run_underlying Tryd.underlying22, sizeOf, typeInfo, hi, Builtin.lenOf, Builtin.firstCells, hnc, storeCells]
  | some ad =>
    have hnews : ∀ j u, (xcL ys)[j]? = some u → w.cell? (ad.add j) = some u := by
      intro j u hj
      have hne : ys ≠ [] := by intro e; subst e; simp [xcL] at hj
      obtain ⟨b, off, hh, _, hc⟩ := h3 hne
      simp only [Option.some.injEq] at hh
      subst hh
      have hplain : (⟨b, off, none⟩ : Addr).add j = ⟨b, off + j, none⟩ := by unfold Addr.add; split <;> simp_all
      rw [hplain]
      exact hc j u hj
    obtain ⟨v', w', hr, ho, hg, _⟩ := run_append_own (P := Tryd.prog) w base 22 ty 45 i _ 6 48 Tryd.underlying22 hi hz0 hz1 hz2 rfl (by omega) v xs.length (xcL xs) hv ad ys.length cap (xcL ys) (by rw [xcL_length]; omega) hnews
      (xcL_one ys) (by unfold maxLen; omega) (by omega) hbase
    refine ⟨v', w', hr, ?_, hg⟩
    unfold OwnX
    rw [List.length_append, xcL_append]
    exact ho

/-- The law for the walk: 'append(v, y...)' of instructions. -/
theorem wpList_append_xs {w : World} {ops : Array Oper} {rest : List Oper} {o : Oper} {a : Act} {Q : Exit → Act → World → Prop} (hw : Region.wanted o (yielded ops a.tmps) = true) (s x : Operand)
    (ho : o.op = .call { callee := .builtin .append, args := #[s, x], argTypes := #[22, 22] }) (base : Nat)
    {v y : Value} {xs ys : List Ins} (hs : a.eval s = v) (hx : a.eval x = y) (hv : OwnX w base v xs) (hy : Xs w y ys) (hb : xs.length + ys.length ≤ 100000) (hbase : base ≤ w.heap.size)
    (h : ∀ v' w', OwnX w' base v' (xs ++ ys) → w.grownBy w' v.ownBlock → wpList Tryd.prog ops Q rest (a.put o.dst v') w') : wpList Tryd.prog ops Q (o :: rest) a w := by
  refine wpList_want hw fun K hK => ?_
  obtain ⟨v', w', hr, h2, h3⟩ := run_append_xs w base o.type hv hy hb hbase
  unfold Oper.wp execOp
  simp only [ho, resolve, invoke, builtin, Sem.run_bind, Sem.run_pure, Result.andThen_ok, List.map_toArray, List.map_cons, List.map_nil, hs, hx, hr]
  exact hK _ _ (h v' w' h2 h3)

/-- Two instructions compared. -/
theorem ne_ins (W : World) (x : Ins) : (binOp .neq 45 (.agg #[.int .i64 x.1, .int .i64 x.2.1, .int .i64 x.2.2.1, .int .i64 x.2.2.2.1, .int .i64 x.2.2.2.2.1, .bool x.2.2.2.2.2]) (.agg #[.int .i64 x.1, .int .i64 x.2.1, .int .i64 x.2.2.1, .int .i64 x.2.2.2.1, .int .i64 x.2.2.2.2.1, .bool x.2.2.2.2.2])).run Tryd.prog W = .ok (.bool false) W := by
  simp [go_sem]

theorem refSame7_none (xa xb : Option Addr) (ca cb : Nat) (w : World) :
    Calls Tryd.prog 14 #[.slice xa 0 ca, .slice xb 0 cb] w fun e w' => e = .returned (.bool true) ∧ w' = w := by
  go_enter Tryd.func14, Tryd.ntmps14
  go_wp2
  refine wp_loop_rounds 1 ?_; rw [rounds_succ]
  go_wp2
  go_ret
  exact ⟨rfl, rfl⟩

set_option maxHeartbeats 1000000 in
theorem refSame7_some {w : World} {ba oa ca bb ob cb : Nat} {l : List Ins} (hl : l.length ≤ maxLen)
    (ha : ∀ i (h : i < l.length), Six w ba (oa + i * 6) l[i]) (hb : ∀ i (h : i < l.length), Six w bb (ob + i * 6) l[i]) :
    Calls Tryd.prog 14 #[.slice (some ⟨ba, oa, none⟩) l.length ca, .slice (some ⟨bb, ob, none⟩) l.length cb] w fun e w' => e = .returned (.bool true) ∧ ∃ n, w' = w.drewN n := by
  unfold maxLen at hl
  have HA : Hid (∀ i (h : i < l.length), Six w ba (oa + i * 6) l[i]) := ha
  have HB : Hid (∀ i (h : i < l.length), Six w bb (ob + i * 6) l[i]) := hb
  clear ha hb
  go_enter Tryd.func14, Tryd.ntmps14
  go_wp2
  go_loopw [5] (fun z wr => ∃ q n : Nat, q ≤ l.length ∧ z = .int .i64 (q : Int) ∧ wr = w.drewN n) (fun z _ => l.length - (intOf z).toNat)
  case atStart => exact ⟨0, 0, Nat.zero_le _, rfl, rfl⟩
  case round =>
    obtain ⟨q, n, hq, rfl, rfl⟩ := hrel
    by_cases hql : q < l.length
    · obtain ⟨c0, c1, c2, c3, c4, c5⟩ := HA.out q hql
      obtain ⟨d0, d1, d2, d3, d4, d5⟩ := HB.out q hql
      have hne := fun W => ne_ins W l[q]
      generalize l[q] = t at *
      obtain ⟨o, m, k, i, d, r⟩ := t
      simp only at c0 c1 c2 c3 c4 c5 d0 d1 d2 d3 d4 d5 hne
      go_wp2
      go_quiet (fail)
      go_wp2
      go_roundw
      case rel => exact ⟨q + 1, n + nq, by omega, by go_num, rfl⟩
      case measure => simp [intOf]; omega
    · go_wp2
      go_ret
      exact ⟨rfl, n, rfl⟩

theorem refSame7_yes {w : World} {va vb : Value} {l : List Ins} (ha : Xs w va l) (hb : Xs w vb l) :
    Calls Tryd.prog 14 #[va, vb] w fun e w' => e = .returned (.bool true) ∧ ∃ n, w' = w.drewN n := by
  have hl := ha.len
  by_cases hne : l = []
  · subst hne
    obtain ⟨xa, ca, rfl, _, _, _⟩ := ha
    obtain ⟨xb, cb, rfl, _, _, _⟩ := hb
    refine (refSame7_none xa xb ca cb w).mono ?_
    rintro e w' ⟨rfl, rfl⟩
    exact ⟨rfl, 0, rfl⟩
  · obtain ⟨ba, oa, ca, rfl, _, _, _, ha⟩ := ha.parts hne
    obtain ⟨bb, ob, cb, rfl, _, _, _, hb⟩ := hb.parts hne
    exact refSame7_some hl ha hb

end Go.Proofs.YtpgkjfjooogfmaaDoor
