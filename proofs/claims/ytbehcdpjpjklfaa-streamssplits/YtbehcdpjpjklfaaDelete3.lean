
/- slices.Delete of one kind out of a table of kinds. -/
import Derived.Test.YtbehcdpjpjklfaaRows
import Derived.Test.YtbehcdpjpjklfaaSpans
namespace Go.Proofs.Ytbehcdpjpjklfaa
set_option linter.unusedVariables false
set_option linter.unusedSimpArgs false
open Go.RowKit Go.Maps
attribute [local go_sem ↓] Go.wp_at_zero Go.wp_at_succ

def tabC (ks : List Nat) : List Value := ks.flatMap fun k => [.string (tagS k), pickF k]
theorem tabC_length (ks : List Nat) : (tabC ks).length = 2 * ks.length := by
  induction ks with
  | nil => rfl
  | cons k l ih =>
    have : tabC (k :: l) = [Value.string (tagS k), pickF k] ++ tabC l := rfl
    rw [this, List.length_append, ih]; simp; omega
theorem tabC_take : ∀ (ks : List Nat) (i : Nat), (tabC ks).take (2 * i) = tabC (ks.take i)
  | [], i => by simp [tabC]
  | k :: l, 0 => by simp [tabC]
  | k :: l, i + 1 => by
    have ih := tabC_take l i
    have h1 : tabC (k :: l) = Value.string (tagS k) :: pickF k :: tabC l := rfl
    have h2 : tabC ((k :: l).take (i + 1)) = Value.string (tagS k) :: pickF k :: tabC (l.take i) := rfl
    rw [h1, h2, ← ih, show 2 * (i + 1) = 2 * i + 1 + 1 by omega, List.take_succ_cons, List.take_succ_cons]
theorem tabC_drop : ∀ (ks : List Nat) (i : Nat), (tabC ks).drop (2 * i) = tabC (ks.drop i)
  | [], i => by simp [tabC]
  | k :: l, 0 => by simp [tabC]
  | k :: l, i + 1 => by
    have ih := tabC_drop l i
    have h1 : tabC (k :: l) = Value.string (tagS k) :: pickF k :: tabC l := rfl
    rw [h1, List.drop_succ_cons, ← ih, show 2 * (i + 1) = 2 * i + 1 + 1 by omega, List.drop_succ_cons, List.drop_succ_cons]
theorem tabC_append (a b : List Nat) : tabC (a ++ b) = tabC a ++ tabC b := by simp [tabC]
theorem tabC_one (ks : List Nat) : ∀ u ∈ tabC ks, u.oneCell' = true := by
  intro u hu
  simp only [tabC, List.mem_flatMap] at hu
  obtain ⟨k, _, hk⟩ := hu
  simp at hk
  rcases hk with rfl | rfl <;> rfl
theorem tabC_get : ∀ (ks : List Nat) (i : Nat) (h : i < ks.length), (tabC ks)[2 * i]? = some (.string (tagS ks[i])) ∧ (tabC ks)[2 * i + 1]? = some (pickF ks[i])
  | [], i, h => by simp at h
  | k :: l, 0, h => ⟨rfl, rfl⟩
  | k :: l, i + 1, h => by
    have ih := tabC_get l i (by simpa using h)
    have h1 : tabC (k :: l) = Value.string (tagS k) :: pickF k :: tabC l := rfl
    rw [h1, show 2 * (i + 1) = 2 * i + 1 + 1 by omega]
    simpa using ih

/-- In block kb lies a table of these kinds, with room for four. -/
structure TabAt (w : World) (kb : Nat) (ks : List Nat) : Prop where
  le : ks.length ≤ 4
  blk : ∃ C, w.heap[kb]? = some (Obj.cells C 71 (0, 0)) ∧ C.size = 8 ∧ C.toList.take (2 * ks.length) = tabC ks

theorem TabAt.tab {w : World} {kb : Nat} {ks : List Nat} (h : TabAt w kb ks) : Tab w kb ks := by
  obtain ⟨C, h1, h2, h3⟩ := h.blk
  intro i hi
  obtain ⟨k1, k2⟩ := tabC_get ks i hi
  rw [← h3, List.getElem?_take, if_pos (by omega)] at k1 k2
  simp only [World.cell?, h1]
  exact ⟨by simpa using k1, by simpa using k2⟩
theorem TabAt.lt {w : World} {kb : Nat} {ks : List Nat} (h : TabAt w kb ks) : kb < w.heap.size := by
  obtain ⟨C, h1, _⟩ := h.blk
  exact (Array.getElem?_eq_some_iff.1 h1).1
theorem TabAt.of_block {w w' : World} {kb : Nat} {ks : List Nat} (h : TabAt w kb ks) (hb : w'.heap[kb]? = w.heap[kb]?) : TabAt w' kb ks := by
  obtain ⟨C, h1, r⟩ := h.blk
  exact ⟨h.le, C, hb.trans h1, r⟩

theorem run_append_in {P : Program} (w : World) (t ty e : TypeId) (i : TypeInfo) (ht : P.underlying t = some (.slice e)) (hi : P.info? e = some i) (hs2 : i.size = 2) (g a cap n : Nat) (cur : Array Value) (hg : w.heap[g]? = some (Obj.cells cur e (0, 0))) (hcs : cur.size = cap * 2) (y : Value) (news : List Value) (hs : Src P 2 t y n news w) (hroom : a + n ≤ cap) :
    (Builtin.append_ #[t, t] ty #[.slice (some ⟨g, 0, none⟩) a cap, y]).run P w = .ok (.slice (some ⟨g, 0, none⟩) (a + n) cap) (w.setRow g (cur.toList.take (a * 2) ++ news ++ cur.toList.drop (a * 2 + news.length)).toArray) := by
  have hnl := hs.newsLen
  have hst := run_storeCells_at P g (a * 2) e news 0 cur w hg (by rw [hcs, hnl]; omega) hs.one
  simp only [Nat.add_zero] at hst
  have hc := hs.cells
  rcases hs.kind with ⟨e', hk⟩ | hk <;> simp [Builtin.append_, run_underlying ht, run_underlying hk, sizeOf, typeInfo, hi, hs2, hs.len, hc, hroom, Addr.add_lit, hst]

theorem Try.infoKind : (Try.prog.info? 71).map (fun i => (i.zero, i.size, i.bytes)) = some (some (.agg #[.string ⟨#[]⟩, .nilFunc]), 2, 24) := by kernel_rfl

theorem Try.sizeKind : (Try.prog.info? 71).map (·.size) = some 2 := by kernel_rfl

/-- An append, by the equation of its run, as one step of a region that draws. -/
theorem step_append_run {P : Program} {ops : Array Oper} {o : Oper} {a : Act} {w : World} {K : Act → World → Prop} {Q : Exit → Act → World → Prop} {E : Prop} (hg : o.guard = none) (s x : Operand) (t tx : TypeId)
    (ho : o.op = .call { callee := .builtin .append, args := #[s, x], argTypes := #[t, tx] }) {v y v' : Value} {w' : World} (hs : a.eval s = v) (hx : a.eval x = y) (hr : (Builtin.append_ #[t, tx] o.type #[v, y]).run P w = .ok v' w')
    (h : K (a.put o.dst v') w') : if Region.wanted o (yielded ops a.tmps) = true then Oper.wp P o a w K Q else E := by
  have hw : Region.wanted o (yielded ops a.tmps) = true := by simp [Region.wanted, hg]
  rw [if_pos hw]
  unfold Oper.wp execOp
  simp only [ho, resolve, invoke, builtin, Sem.run_bind, Sem.run_pure, Result.andThen_ok, List.map_toArray, List.map_cons, List.map_nil, hs, hx, hr]
  exact h

/-- 'v[l:h:m]' and its kin of a slice whose elements have two cells. -/
theorem run_slice_full {P : Program} (t e : TypeId) (ht : P.underlying t = some (.slice e)) (hs : (P.info? e).map (·.size) = some 2) (a : Option Addr) (len cap l h m : Nat) (h1 : l ≤ h) (h2 : h ≤ m) (h3 : m ≤ cap) (x y z : Int) (hx : x = l) (hy : y = h) (hz : z = m) (W : World) :
    (Instr.slice t (.slice a len cap) (some (.int .i64 x)) (some (.int .i64 y)) (some (.int .i64 z))).run P W = .ok (.slice (if m = l then a else a.map (·.add (l * 2))) (h - l) (m - l)) W := by
  subst hx hy hz
  cases hq : P.info? e with
  | none => simp [hq] at hs
  | some i =>
    have hi : i.size = 2 := by simpa [hq] using hs
    have b0 : (Instr.sliceBound (.int .i64 (m : Int)) cap .slice3Acap).run P W = .ok m W := by rw [run_sliceBound _ _ _ _ _ (by omega) (by omega)]; simp
    have b1 : (Instr.sliceBound (.int .i64 (h : Int)) m .slice3B).run P W = .ok h W := by rw [run_sliceBound _ _ _ _ _ (by omega) (by omega)]; simp
    have b2 : (Instr.sliceBound (.int .i64 (l : Int)) h .slice3C).run P W = .ok l W := by rw [run_sliceBound _ _ _ _ _ (by omega) (by omega)]; simp
    simp [Instr.slice, run_underlying ht, Instr.sliceBounds, b0, b1, b2, sizeOf, typeInfo, hq, hi]
theorem run_slice_low {P : Program} (t e : TypeId) (ht : P.underlying t = some (.slice e)) (hs : (P.info? e).map (·.size) = some 2) (a : Option Addr) (len cap l : Nat) (h1 : l ≤ len) (x : Int) (hx : x = l) (W : World) :
    (Instr.slice t (.slice a len cap) (some (.int .i64 x)) none none).run P W = .ok (.slice (if cap = l then a else a.map (·.add (l * 2))) (len - l) (cap - l)) W := by
  subst hx
  cases hq : P.info? e with
  | none => simp [hq] at hs
  | some i =>
    have hi : i.size = 2 := by simpa [hq] using hs
    have b2 : (Instr.sliceBound (.int .i64 (l : Int)) len .sliceB).run P W = .ok l W := by rw [run_sliceBound _ _ _ _ _ (by omega) (by omega)]; simp
    simp [Instr.slice, run_underlying ht, Instr.sliceBounds, b2, sizeOf, typeInfo, hq, hi]
theorem run_slice_high {P : Program} (t e : TypeId) (ht : P.underlying t = some (.slice e)) (hs : (P.info? e).map (·.size) = some 2) (b len cap h : Nat) (h1 : h ≤ cap) (x : Int) (hx : x = h) (W : World) :
    (Instr.slice t (.slice (some ⟨b, 0, none⟩) len cap) none (some (.int .i64 x)) none).run P W = .ok (.slice (some ⟨b, 0, none⟩) h cap) W := by
  subst hx
  cases hq : P.info? e with
  | none => simp [hq] at hs
  | some i =>
    have hi : i.size = 2 := by simpa [hq] using hs
    have b1 : (Instr.sliceBound (.int .i64 (h : Int)) cap .sliceAcap).run P W = .ok h W := by rw [run_sliceBound _ _ _ _ _ (by omega) (by omega)]; simp
    have : (if cap = 0 then some (⟨b, 0, none⟩ : Addr) else some ((⟨b, 0, none⟩ : Addr).add 0)) = some ⟨b, 0, none⟩ := by split <;> simp [Addr.add]
    simp [Instr.slice, run_underlying ht, Instr.sliceBounds, b1, sizeOf, typeInfo, hq, hi, Addr.add_lit]
theorem run_slice_mid {P : Program} (t e : TypeId) (ht : P.underlying t = some (.slice e)) (hs : (P.info? e).map (·.size) = some 2) (a : Option Addr) (len cap l h : Nat) (h1 : l ≤ h) (h2 : h ≤ cap) (x y : Int) (hx : x = l) (hy : y = h) (W : World) :
    (Instr.slice t (.slice a len cap) (some (.int .i64 x)) (some (.int .i64 y)) none).run P W = .ok (.slice (if cap = l then a else a.map (·.add (l * 2))) (h - l) (cap - l)) W := by
  subst hx hy
  cases hq : P.info? e with
  | none => simp [hq] at hs
  | some i =>
    have hi : i.size = 2 := by simpa [hq] using hs
    have b1 : (Instr.sliceBound (.int .i64 (h : Int)) cap .sliceAcap).run P W = .ok h W := by rw [run_sliceBound _ _ _ _ _ (by omega) (by omega)]; simp
    have b2 : (Instr.sliceBound (.int .i64 (l : Int)) h .sliceB).run P W = .ok l W := by rw [run_sliceBound _ _ _ _ _ (by omega) (by omega)]; simp
    simp [Instr.slice, run_underlying ht, Instr.sliceBounds, b1, b2, sizeOf, typeInfo, hq, hi]

/-- 'clear' of one element of two cells. -/
theorem run_clear_one {P : Program} (w : World) (t ty e : TypeId) (i : TypeInfo) (z0 z1 : Value) (ht : P.underlying t = some (.slice e)) (hi : P.info? e = some i) (hz : i.zero = some (.agg #[z0, z1])) (h0 : z0.oneCell' = true) (h1 : z1.oneCell' = true) (hc : (Value.agg #[z0, z1]).cells = #[z0, z1]) (g o c : Nat) (cur : Array Value) (hg : w.heap[g]? = some (Obj.cells cur e (0, 0))) (ho : o + 2 ≤ cur.size) :
    (Builtin.clear_ #[t] ty #[.slice (some ⟨g, o, none⟩) 1 c]).run P w = .ok (.tuple #[]) (w.setRow g (cur.toList.take o ++ [z0, z1] ++ cur.toList.drop (o + 2)).toArray) := by
  have hst := run_storeCells_at P g o e [z0, z1] 0 cur w hg (by simpa using ho) (by intro u hu; simp at hu; rcases hu with rfl | rfl <;> assumption)
  simp only [Nat.add_zero] at hst
  have hzc : (Builtin.zeroCells #[z0, z1] 1).toList = [z0, z1] := by simp [Builtin.zeroCells, List.range_succ, Array.range]
  simp [Builtin.clear_, run_underlying ht, zeroValue, typeInfo, hi, hz, hc, hzc, hst]

/-- The cells behind both. -/
theorem del_cells (ks : List Nat) (i : Nat) (hi : i < ks.length) (h4 : ks.length ≤ 4) (c : List Value) (hc8 : c.length = 8) (hc : c.take (2 * ks.length) = tabC ks) (z0 z1 : Value) :
    ∀ c1 c2, c1 = c.take (i * 2) ++ tabC (ks.drop (i + 1)) ++ c.drop (i * 2 + (tabC (ks.drop (i + 1))).length) → c2 = c1.take ((ks.length - 1) * 2) ++ [z0, z1] ++ c1.drop ((ks.length - 1) * 2 + 2) →
      c1.length = 8 ∧ c2.length = 8 ∧ c2.take (2 * (ks.length - 1)) = tabC (ks.eraseIdx i) := by
  intro c1 c2 e1 e2
  have hl := tabC_length (ks.drop (i + 1))
  rw [List.length_drop] at hl
  have l1 : c1.length = 8 := by rw [e1]; simp [hl, hc8]; omega
  have l2 : c2.length = 8 := by rw [e2]; simp [l1]; omega
  refine ⟨l1, l2, ?_⟩
  have h1 : c.take (i * 2) = tabC (ks.take i) := by
    rw [← tabC_take, ← hc, List.take_take]; congr 1; omega
  rw [e2, show 2 * (ks.length - 1) = (ks.length - 1) * 2 by omega, List.append_assoc, List.take_append_of_le_length (by simp [l1]; omega), List.take_take, Nat.min_self, e1, List.take_append_of_le_length (by simp [hl, hc8]; omega), h1, ← tabC_append, ← List.eraseIdx_eq_take_drop_succ, List.take_of_length_le]
  rw [tabC_length, List.length_eraseIdx, if_pos hi]; omega

theorem only_row (w : World) (g : Nat) (C : Array Value) : Only g w (w.setRow g C) := ⟨rfl, rfl, rfl, by simp, fun k _ hk => setRow_other w g k _ hk⟩

set_option maxRecDepth 100000 in
set_option maxHeartbeats 1000000 in
theorem delete_run {w : World} {kb : Nat} {ks : List Nat} (h : TabAt w kb ks) (i m : Nat) (hm : ks.length = m + 1) (hi : i < m + 1) :
    Calls Try.prog 44 #[.slice (some ⟨kb, 0, none⟩) (m + 1) 4, .int .i64 (i : Int), .int .i64 ((i : Int) + 1)] w fun e w' =>
      e = .returned (.slice (some ⟨kb, 0, none⟩) m 4) ∧ TabAt w' kb (ks.eraseIdx i) ∧ Only kb w w' := by
  obtain ⟨i0, hi0, hz0, hz1, hz2⟩ := info_parts Try.infoKind
  have h4 := h.le
  obtain ⟨C, hC, hC8, hCt⟩ := h.blk
  obtain ⟨c1, hc1⟩ : ∃ c1, c1 = C.toList.take (i * 2) ++ tabC (ks.drop (i + 1)) ++ C.toList.drop (i * 2 + (tabC (ks.drop (i + 1))).length) := ⟨_, rfl⟩
  obtain ⟨c2, hc2⟩ : ∃ c2, c2 = c1.take (m * 2) ++ [.string ⟨#[]⟩, .nilFunc] ++ c1.drop (m * 2 + 2) := ⟨_, rfl⟩
  obtain ⟨d1, d2, d3⟩ := del_cells ks i (by omega) h4 C.toList (by simpa using hC8) hCt (.string ⟨#[]⟩) .nilFunc c1 c2 hc1 (by rw [hm]; exact hc2)
  rw [hm] at d3
  -- the cells that are moved to the left
  have hsrc : Src Try.prog 2 49 (.slice (if 4 = i + 1 then some ⟨kb, 0, none⟩ else (some (⟨kb, 0, none⟩ : Addr)).map (·.add ((i + 1) * 2))) (m + 1 - (i + 1)) (4 - (i + 1))) (m + 1 - (i + 1)) (tabC (ks.drop (i + 1))) w.drew := by
    have hone : ∀ u ∈ tabC (ks.drop (i + 1)), u.oneCell' = true := tabC_one _
    have hl : (tabC (ks.drop (i + 1))).length = (m + 1 - (i + 1)) * 2 := by rw [tabC_length, List.length_drop]; omega
    by_cases e : 4 = i + 1
    · rw [if_pos e]
      refine Src.ofSlice w.drew Try.underlying49 _ _ _ _ hl (fun j u hj => ?_) hone
      rw [List.getElem?_eq_none (by rw [hl]; omega)] at hj
      simp at hj
    · rw [if_neg e]
      refine Src.ofSlice w.drew Try.underlying49 _ _ _ _ hl (fun j u hj => ?_) hone
      rw [← tabC_drop, List.getElem?_drop, ← hCt, List.getElem?_take] at hj
      split at hj
      · simp only [Addr.add_lit]
        show w.cell? _ = some u
        simp only [World.cell?, hC]
        rw [show 0 + (i + 1) * 2 + j = 2 * (i + 1) + j by omega]
        simpa using hj
      · simp at hj
  have hap := fun ty => run_append_in (P := Try.prog) w.drew 49 ty 71 i0 Try.underlying49 hi0 hz1 kb i 4 (m + 1 - (i + 1)) C hC hC8 _ _ hsrc (by omega)
  rw [← hc1] at hap
  have hg1 := setRow_heap w.drew kb C c1.toArray _ _ hC
  generalize hW1 : w.drew.setRow kb c1.toArray = W1 at *
  have hcl := fun ty => run_clear_one (P := Try.prog) W1 49 ty 71 i0 (.string ⟨#[]⟩) .nilFunc Try.underlying49 hi0 hz0 rfl rfl (by rfl) kb (m * 2) (4 - m) _ hg1 (by simp [d1]; omega)
  rw [show c1.toArray.toList = c1 from rfl, ← hc2] at hcl
  have hg2 := setRow_heap W1 kb _ c2.toArray _ _ hg1
  have HF : Hid (TabAt (W1.setRow kb c2.toArray) kb (ks.eraseIdx i) ∧ Only kb w (W1.setRow kb c2.toArray)) := by
    refine ⟨⟨by rw [List.length_eraseIdx, if_pos (by omega)]; omega, c2.toArray, hg2, by simpa using d2, ?_⟩, ?_⟩
    · rw [List.length_eraseIdx, if_pos (by omega), hm]; exact d3
    · rw [← hW1]
      exact (((Only.refl kb w).drewN 1).trans (only_row _ _ _)).trans (only_row _ _ _)
  have em : i + (m + 1 - (i + 1)) = m := by omega
  rw [em] at hap
  have HAP : Hid (∀ ty, (Builtin.append_ #[49, 49] ty #[.slice (some ⟨kb, 0, none⟩) i 4, .slice (if 4 = i + 1 then some ⟨kb, 0, none⟩ else (some (⟨kb, 0, none⟩ : Addr)).map (·.add ((i + 1) * 2))) (m + 1 - (i + 1)) (4 - (i + 1))]).run Try.prog w.drew = .ok (.slice (some ⟨kb, 0, none⟩) m 4) W1) := hap
  have s1 := run_slice_full 49 71 Try.underlying49 Try.sizeKind (some ⟨kb, 0, none⟩) (m + 1) 4 i (i + 1) (m + 1) (by omega) (by omega) (by omega) (i : Int) ((i : Int) + 1) ((m : Int) + 1) rfl (by simp) (by simp)
  have s2 := run_slice_high 49 71 Try.underlying49 Try.sizeKind kb (m + 1) 4 i (by omega) (i : Int) rfl
  have s3 := run_slice_low 49 71 Try.underlying49 Try.sizeKind (some ⟨kb, 0, none⟩) (m + 1) 4 (i + 1) (by omega) ((i : Int) + 1) (by simp)
  have s4 := run_slice_mid 49 71 Try.underlying49 Try.sizeKind (some ⟨kb, 0, none⟩) m 4 m (m + 1) (by omega) (by omega) (m : Int) ((m : Int) + 1) rfl (by simp)
  rw [if_neg (by omega : ¬ 4 = m), show m + 1 - m = 1 by omega, Option.map_some, Addr.add_lit, Nat.zero_add] at s4
  generalize hA : (if 4 = i + 1 then some (⟨kb, 0, none⟩ : Addr) else (some (⟨kb, 0, none⟩ : Addr)).map (·.add ((i + 1) * 2))) = A at *
  generalize (if m + 1 = i then some (⟨kb, 0, none⟩ : Addr) else (some (⟨kb, 0, none⟩ : Addr)).map (·.add (i * 2))) = A1 at *
  clear hap hsrc hg1 hg2 hW1 hc1 hc2 d1 d2 d3 hC hC8 hCt h em hA hz2
  have hne : ((i : Int) == (i : Int) + 1) = false := by rw [beq_eq_false_iff_ne]; omega
  go_enter Try.func44, Try.ntmps44
  go_wp2_with fail
  go_region_held3 (fun _ => True) (trivial) ((refine step_append_run rfl (.tmp 22) (.tmp 25) 49 49 rfl (by simp [Act.eval, Act.put]) (by simp [Act.eval, Act.put]) (HAP.out _) ?_))
  go_wp2_with fail
  go_ret
  exact ⟨rfl, HF.out⟩

theorem delete_any {w : World} {kb : Nat} {ks : List Nat} (h : TabAt w kb ks) (i : Nat) (hi : i < ks.length) :
    Calls Try.prog 44 #[.slice (some ⟨kb, 0, none⟩) ks.length 4, .int .i64 (i : Int), .int .i64 ((i : Int) + 1)] w fun e w' =>
      e = .returned (.slice (some ⟨kb, 0, none⟩) (ks.length - 1) 4) ∧ TabAt w' kb (ks.eraseIdx i) ∧ Only kb w w' := by
  obtain ⟨m, hm⟩ : ∃ m, ks.length = m + 1 := ⟨ks.length - 1, by omega⟩
  have := delete_run h i m hm (by omega)
  rw [hm]
  exact this

end Go.Proofs.Ytbehcdpjpjklfaa
