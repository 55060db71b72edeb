
/- slices.CompactFunc over links. -/
import Derived.Test.YtbfcdcdeohikpaaLinksAt9
namespace Go.Proofs.Ytbfcdcdeohikpaa
set_option linter.unusedVariables false
set_option linter.unusedSimpArgs false
open Go.RowKit
attribute [local go_sem ↓] Go.wp_at_zero Go.wp_at_succ

theorem Try.sizeLink : (Try.prog.info? 65).map (·.size) = some 4 := by kernel_rfl

set_option maxHeartbeats 1000000 in
theorem chain1_any (x y : Lk) (w : World) :
    Calls Try.prog 39 #[lkV x, lkV y] w fun e w' => e = .returned (.bool (decide (lkSp x = lkSp y))) ∧ Below w.heap.size w w' := by
  have HB0 : Hid (Below w.heap.size w ((w.alloc (.cells #[.int .i64 x.1, .int .i64 x.2.1, .int .i64 x.2.2.1, .int .i64 x.2.2.2] 65)).alloc (.cells #[.int .i64 y.1, .int .i64 y.2.1, .int .i64 y.2.2.1, .int .i64 y.2.2.2] 65))) := bbox (made_below _ _ _) _
  have heq : ∀ W : World, (binOp .eql 63 (.agg #[.int .i64 x.2.2.1, .int .i64 x.2.2.2]) (.agg #[.int .i64 y.2.2.1, .int .i64 y.2.2.2])).run Try.prog W = .ok (.bool (decide (lkSp x = lkSp y))) W := fun W => eq_sp W (lkSp x) (lkSp y)
  unfold lkV
  go_enter Try.func39, Try.ntmps39
  go_wp2
  go_ret
  exact ⟨rfl, HB0.out⟩

/-- A row of links that a call changes in place. -/
def LRow (w : World) (base g cap : Nat) (A : List Lk) : Prop := OwnE lkE w base 65 (.slice (some ⟨g, 0, none⟩) A.length cap) A
theorem LRow.at {w : World} {base g cap : Nat} {A : List Lk} (h : LRow w base g cap A) : ∃ cur, At w g cur 65 ∧ cur.size = cap * 4 ∧ A.length ≤ cap ∧ cap ≤ maxLen ∧ base ≤ g ∧ cur.toList.take (A.length * 4) = ecL lkE A := by
  rcases h.2 with ⟨h0, _⟩ | ⟨g', cap', cur, he, hbg, hh, hn, hm, hs, ht⟩
  · exact absurd h0 (by simp)
  · simp only [Value.slice.injEq, Option.some.injEq, Addr.mk.injEq] at he
    obtain ⟨⟨rfl, _, _⟩, _, rfl⟩ := he
    exact ⟨cur, hh, hs, hn, hm, hbg, ht⟩
theorem LRow.of_at {w : World} {base g cap : Nat} {A : List Lk} {cur : Array Value} (h : At w g cur 65) (hs : cur.size = cap * 4) (hn : A.length ≤ cap) (hm : cap ≤ maxLen) (hb : base ≤ g) (ht : cur.toList.take (A.length * 4) = ecL lkE A) : LRow w base g cap A :=
  ⟨by rw [ecL_length], .inr ⟨g, cap, cur, rfl, hb, h, hn, hm, hs, ht⟩⟩
theorem LRow.four {w : World} {base g cap : Nat} {A : List Lk} (h : LRow w base g cap A) (i : Nat) (hi : i < A.length) : Four9 w g (i * 4) A[i] := by
  have hne : A ≠ [] := by intro e; subst e; simp at hi
  obtain ⟨b', off', cap', e1, _, _, _, hcell⟩ := h.es.parts hne
  simp only [Value.slice.injEq, Option.some.injEq, Addr.mk.injEq] at e1
  obtain ⟨⟨rfl, rfl, _⟩, _, rfl⟩ := e1
  have := (hcell i hi).four
  have h0 : 0 + i * lkE.size = i * 4 := Nat.zero_add _
  rw [h0] at this
  exact this
theorem LRow.later {w w' : World} {base g cap : Nat} {A : List Lk} (h : LRow w base g cap A) (hb : Below w.heap.size w w') : LRow w' base g cap A := OwnE.later h hb
theorem LRow.melt {w : World} {base g cap : Nat} {A : List Lk} (h : LRow w base g cap A) : ∀ o, w.frozen? ⟨g, o, none⟩ = false := by
  obtain ⟨cur, hA, _⟩ := h.at
  exact hA.melt

theorem ecL_set4 : ∀ (A : List Lk) (i : Nat) (hi : i < A.length) (x : Lk), ((((ecL lkE A).set (i * 4) (.int .i64 x.1)).set (i * 4 + 1) (.int .i64 x.2.1)).set (i * 4 + 2) (.int .i64 x.2.2.1)).set (i * 4 + 3) (.int .i64 x.2.2.2) = ecL lkE (A.set i x)
  | a :: r, 0, _, x => by simp [ecL, lkE, lkC]
  | a :: r, i + 1, h, x => by
    have ih := ecL_set4 r i (by simpa using h) x
    have e : ∀ (b : Lk) (t : List Lk), ecL lkE (b :: t) = .int .i64 b.1 :: .int .i64 b.2.1 :: .int .i64 b.2.2.1 :: .int .i64 b.2.2.2 :: ecL lkE t := fun b t => by simp [ecL, lkE, lkC]
    have k0 : (i + 1) * 4 = i * 4 + 1 + 1 + 1 + 1 := by omega
    have k1 : (i + 1) * 4 + 1 = (i * 4 + 1) + 1 + 1 + 1 + 1 := by omega
    have k2 : (i + 1) * 4 + 2 = (i * 4 + 2) + 1 + 1 + 1 + 1 := by omega
    have k3 : (i + 1) * 4 + 3 = (i * 4 + 3) + 1 + 1 + 1 + 1 := by omega
    rw [k1, k2, k3, k0]
    simp only [e, List.set_cons_succ]
    rw [ih]

theorem LRow.set {w : World} {base g cap : Nat} {A : List Lk} (h : LRow w base g cap A) (i : Nat) (hi : i < A.length) (x : Lk) : LRow ((((w.setCell ⟨g, i * 4, none⟩ (.int .i64 x.1)).setCell ⟨g, i * 4 + 1, none⟩ (.int .i64 x.2.1)).setCell ⟨g, i * 4 + 2, none⟩ (.int .i64 x.2.2.1)).setCell ⟨g, i * 4 + 3, none⟩ (.int .i64 x.2.2.2)) base g cap (A.set i x) := by
  obtain ⟨cur, hA, hs, hn, hm, hb, ht⟩ := h.at
  have h4 := (((hA.set (i * 4) (.int .i64 x.1)).set (i * 4 + 1) (.int .i64 x.2.1)).set (i * 4 + 2) (.int .i64 x.2.2.1)).set (i * 4 + 3) (.int .i64 x.2.2.2)
  refine LRow.of_at h4 (by simpa using hs) (by simpa using hn) hm hb ?_
  rw [List.length_set]
  simp only [Array.toList_setIfInBounds, List.take_set, ht]
  exact ecL_set4 A i hi x

theorem below_set4g {base : Nat} {w w1 : World} (h : Below base w w1) {g : Nat} (hg : base ≤ g) (i : Nat) (x : Lk) : Below base w ((((w1.setCell ⟨g, i * 4, none⟩ (.int .i64 x.1)).setCell ⟨g, i * 4 + 1, none⟩ (.int .i64 x.2.1)).setCell ⟨g, i * 4 + 2, none⟩ (.int .i64 x.2.2.1)).setCell ⟨g, i * 4 + 3, none⟩ (.int .i64 x.2.2.2)) :=
  (((h.setCell hg _).setCell hg _).setCell hg _).setCell hg _

/-- 'clear' of the last elements of a row. -/
theorem run_clear_some {P : Program} (w : World) (t ty e : TypeId) (i : TypeInfo) (z : Value) (n : Nat) (zs : List Value) (ht : P.underlying t = some (.slice e)) (hi : P.info? e = some i) (hz : i.zero = some z) (hzs : (Builtin.zeroCells z.cells n).toList = zs) (h1 : ∀ v ∈ zs, v.oneCell' = true) (hn : 0 < n)
    (g o c : Nat) (cur : Array Value) (hg : At w g cur e) (ho : o + zs.length ≤ cur.size) :
    (Builtin.clear_ #[t] ty #[.slice (some ⟨g, o, none⟩) n c]).run P w = .ok (.tuple #[]) (w.setRow g (cur.toList.take o ++ zs ++ cur.toList.drop (o + zs.length)).toArray) := by
  have hst := run_storeCells_at P g o e zs 0 cur w hg (by simpa using ho) h1
  simp only [Nat.add_zero] at hst
  obtain ⟨m, rfl⟩ : ∃ m, n = m + 1 := ⟨n - 1, by omega⟩
  simp [Builtin.clear_, run_underlying ht, zeroValue, typeInfo, hi, hz, hzs, hst]

theorem zero_link (n : Nat) : ∀ v ∈ (Builtin.zeroCells (Value.agg #[.int .i64 0, .int .i64 0, .int .i64 0, .int .i64 0]).cells n).toList, v.oneCell' = true := by
  intro v hv
  have hc : (Value.agg #[.int .i64 0, .int .i64 0, .int .i64 0, .int .i64 0]).cells = #[.int .i64 0, .int .i64 0, .int .i64 0, .int .i64 0] := by rfl
  rw [hc] at hv
  simp only [Builtin.zeroCells, Array.toList_map, List.mem_map] at hv
  obtain ⟨i, _, rfl⟩ := hv
  show (#[Value.int .i64 0, .int .i64 0, .int .i64 0, .int .i64 0][i % 4]!).oneCell' = true
  have h4 : i % 4 = 0 ∨ i % 4 = 1 ∨ i % 4 = 2 ∨ i % 4 = 3 := by omega
  rcases h4 with h | h | h | h <;> rw [h] <;> rfl

end Go.Proofs.Ytbfcdcdeohikpaa
