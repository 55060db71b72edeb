
/- A region that draws its order, by what holds of it whatever came up so far. No program is named here. -/
import Derived.Test.YtfgjlljbpcombaaApd
import Derived.Orders
namespace Go.Proofs.Ytfgjlljbpcombaa
set_option linter.unusedVariables false
set_option linter.unusedSimpArgs false
open Go.RowKit

theorem count_set : ∀ (l : List Bool) (i : Nat), l[i]? = some false → (l.set i true).count false + 1 = l.count false
  | [], i, h => by simp at h
  | b :: l, 0, h => by
    simp only [List.getElem?_cons_zero, Option.some.injEq] at h
    subst h
    simp
  | b :: l, i + 1, h => by
    simp only [List.getElem?_cons_succ] at h
    have ih := count_set l i h
    simp only [List.set_cons_succ, List.count_cons]
    omega

/-- Each operation waits for earlier ones alone. -/
def lowEdges (md : Region.Mode) (ops : Array Oper) : Bool := (List.range ops.size).all fun i => match ops[i]? with
  | some o => o.after.all fun e => !Region.binds md e || decide (e.on < i)
  | none => true

theorem ready_none {md : Region.Mode} {ops : Array Oper} {listed : Array Bool} (hlow : lowEdges md ops = true) (hs : listed.size = ops.size) (h : Region.ready md ops listed = []) : ∀ i, i < ops.size → listed.getD i false = true := by
  intro i
  induction i using Nat.strongRecOn with
  | _ i ih =>
    intro hi
    by_cases hg : listed.getD i false = true
    · exact hg
    · exfalso
      have hlt : i < listed.size := by omega
      have hf : listed.getD i true = false := by
        simp [Array.getD, hlt] at hg ⊢; exact hg
      have : i ∈ Region.ready md ops listed := by
        rw [mem_ready]
        refine ⟨hf, ops[i], Array.getElem?_eq_getElem hi, fun e he hb => ih e.on ?_ ?_⟩
        · unfold lowEdges at hlow
          rw [List.all_eq_true] at hlow
          have := hlow i (List.mem_range.2 hi)
          rw [Array.getElem?_eq_getElem hi] at this
          simp only [Array.all_eq_true_iff_forall_mem] at this
          have := this e he
          simp only [hb, Bool.not_true, Bool.false_or, decide_eq_true_eq] at this
          exact this
        · unfold lowEdges at hlow
          rw [List.all_eq_true] at hlow
          have := hlow i (List.mem_range.2 hi)
          rw [Array.getElem?_eq_getElem hi] at this
          simp only [Array.all_eq_true_iff_forall_mem] at this
          have := this e he
          simp only [hb, Bool.not_true, Bool.false_or, decide_eq_true_eq] at this
          omega
      rw [h] at this
      cases this

/-- What holds whatever came up so far, and is kept by each operation that may come up, holds in the end. -/
theorem wpAny_inv {P : Program} {ops : Array Oper} {Q : Exit → Act → World → Prop} {md : Region.Mode} (I : Array Bool → Act → World → Prop) (hlow : lowEdges md ops = true)
    (hstep : ∀ listed a w i o, listed.size = ops.size → I listed a w → ops[i]? = some o → listed.getD i true = false → (∀ e ∈ o.after, Region.binds md e = true → listed.getD e.on false = true) → wpOp P ops Q i (fun a' w' => I (listed.setIfInBounds i true) a' w') a w)
    (hend : ∀ listed a w, I listed a w → (∀ i, i < ops.size → listed.getD i false = true) → Q .normal a w) :
    ∀ fuel listed a w, listed.size = ops.size → I listed a w → listed.toList.count false ≤ fuel → wpAny P md ops Q fuel listed a w
  | 0, listed, a, w, hs, hI, hc => by
    have hall : ∀ i, i < ops.size → listed.getD i false = true := fun i hi => by
      have hlt : i < listed.size := by omega
      by_cases hg : listed[i] = true
      · simp [Array.getD, hlt, hg]
      · exfalso
        have : false ∈ listed.toList := by
          have h1 : listed[i] = false := by simpa using hg
          rw [← h1]; simp
        have := List.count_pos_iff.2 this
        omega
    refine ⟨?_, hend listed a w hI hall⟩
    cases hr : Region.ready md ops listed with
    | nil => rfl
    | cons i l =>
      exfalso
      have hi : i ∈ Region.ready md ops listed := by rw [hr]; simp
      obtain ⟨h1, o, ho, _⟩ := mem_ready.1 hi
      have hlt : i < ops.size := (Array.getElem?_eq_some_iff.1 ho).1
      have := hall i hlt
      have hlt' : i < listed.size := by omega
      simp [Array.getD, hlt'] at h1 this
      rw [h1] at this; cases this
  | fuel + 1, listed, a, w, hs, hI, hc => by
    refine ⟨fun hr => hend listed a w hI (ready_none hlow hs hr), fun i hi => ?_⟩
    obtain ⟨h1, o, ho, haft⟩ := mem_ready.1 hi
    have hlt : i < ops.size := (Array.getElem?_eq_some_iff.1 ho).1
    refine wpOp_mono (fun a' w' h => wpAny_inv I hlow hstep hend fuel _ a' w' (by simp [hs]) h ?_) (hstep listed a w i o hs hI ho h1 haft)
    have hlt' : i < listed.size := by omega
    have hl : listed.toList[i]? = some false := by
      simp [Array.getD, hlt'] at h1
      simp [hlt', h1]
    have := count_set listed.toList i hl
    rw [Array.toList_setIfInBounds]
    omega

/-- The beginning. -/
theorem wp_region_inv {P : Program} {id : Nat} {ops : Array Oper} {Q : Exit → Act → World → Prop} {a : Act} {w : World} (hm : P.follows .mixedOrders = true) (I : Array Bool → Act → World → Prop) (hlow : lowEdges .any ops = true)
    (hstep : ∀ listed a w i o, listed.size = ops.size → I listed a w → ops[i]? = some o → listed.getD i true = false → (∀ e ∈ o.after, Region.binds .any e = true → listed.getD e.on false = true) → wpOp P ops Q i (fun a' w' => I (listed.setIfInBounds i true) a' w') a w)
    (hend : ∀ listed a w, I listed a w → (∀ i, i < ops.size → listed.getD i false = true) → Q .normal a w) (h0 : I (Array.replicate ops.size false) a w.drew) : (Code.region id ops true).wp P Q a w :=
  wp_region_any hm (wpAny_inv I hlow hstep hend ops.size _ a _ (by simp) h0 (by simp))

/-- An operation by its run. -/
theorem wpOp_run {P : Program} {ops : Array Oper} {Q : Exit → Act → World → Prop} {i : Nat} {o : Oper} {K : Act → World → Prop} {a : Act} {w w' : World} {v : Value} (ho : ops[i]? = some o) (hg : o.guard = none) (hr : (execOp a.eval o).run P w = .ok (.value v) w') (h : K (a.put o.dst v) w') : wpOp P ops Q i K a w := by
  unfold wpOp
  simp only [ho, Region.wanted, hg, if_true]
  refine .inl ?_
  unfold Oper.wp
  rw [hr]; exact h
theorem wpOp_skip {P : Program} {ops : Array Oper} {Q : Exit → Act → World → Prop} {i : Nat} {o : Oper} {K : Act → World → Prop} {a : Act} {w w' : World} (ho : ops[i]? = some o) (hg : o.guard = none) (hr : (execOp a.eval o).run P w = .ok .skip w') (h : K (a.put o.dst undef) w') : wpOp P ops Q i K a w := by
  unfold wpOp
  simp only [ho, Region.wanted, hg, if_true]
  refine .inl ?_
  unfold Oper.wp
  rw [hr]; exact h

theorem eval_put_same {a : Act} {d : Nat} {v : Value} (h : d < a.tmps.size) : (a.put (some d) v).tmps.getD d undef = v := by
  simp [Act.put, Array.getD, h]
theorem eval_put_ne {a : Act} {d t : Nat} {v : Value} (h : d ≠ t) : (a.put (some d) v).tmps.getD t undef = a.tmps.getD t undef := by
  simp only [Act.put, Array.getD]
  by_cases ht : t < a.tmps.size
  · simp [ht, Array.getElem_setIfInBounds, h]
  · simp [ht]
theorem size_put {a : Act} {d : Nat} {v : Value} : (a.put (some d) v).tmps.size = a.tmps.size := by simp [Act.put]

/-- 'append([]byte{}, y...)': nothing that was there turns. -/
theorem run_append_none {P : Program} (w : World) (t ty e : TypeId) (i : TypeInfo) (z : Value) (ht : P.underlying t = some (.slice e)) (hi : P.info? e = some i) (hz : i.zero = some z) (hs1 : i.size = 1) (hzs : z.cells.size = 1) (hby : i.bytes = 1) (g : Nat) {y : Value} {ys : List UInt8} (hy : Bs w y ys) (hl : ys.length ≤ 1000000000) :
    ∃ x c w', (Builtin.append_ #[t, t] ty #[.slice (some ⟨g, 0, none⟩) 0 0, y]).run P w = .ok (.slice x ys.length c) w' ∧ Bs w' (.slice x ys.length c) ys ∧ Below w.heap.size w w' ∧ (ys ≠ [] → ∀ k, (Value.slice x ys.length c).ownBlock = some k → w.heap.size ≤ k) := by
  have hs := hy.src (P := P) (tx := t) (e' := e) ht
  by_cases hn : ys = []
  · subst hn
    refine ⟨some ⟨g, 0, none⟩, 0, w, ?_, ⟨_, _, rfl, Nat.le_refl _, Nat.zero_le _, fun h => absurd rfl h⟩, Below.refl _ _, fun h => absurd rfl h⟩
    have hc := hs.cells
    have hlen := hs.len
    simp only [List.length_nil, u8s, List.map_nil] at hc hlen
    rcases hs.kind with ⟨e', hk⟩ | hk <;> simp [Builtin.append_, run_underlying ht, run_underlying hk, sizeOf, typeInfo, hi, hs1, hlen, hc, storeCells]
  · have hpos : 0 < ys.length := by
      cases ys with
      | nil => exact absurd rfl hn
      | cons _ _ => simp
    have hold : (Builtin.firstCells i.size 0 (.slice (some ⟨g, 0, none⟩) 0 0)).run P w.drew = .ok ([] : List Value).toArray w.drew := run_firstCells_some w.drew i.size 0 ⟨g, 0, none⟩ 0 0 [] (by simp) (by intro j u hj; simp at hj)
    have hr := run_append_grow_src (P := P) w t t ty e i z ht hi hz (some ⟨g, 0, none⟩) 0 0 [] hold y ys.length (u8s ys) (by rw [hs1]; exact hs) (by omega) (by omega) (growslice_fits_wide (by omega) (by rw [hby]; simp; omega))
    have hge := grownCap_ge w (0 + ys.length) 0 e
    have hcm : grownCap w (0 + ys.length) 0 e ≤ maxLen := grownCap_le_maxLen w (0 + ys.length) 0 e (by unfold maxLen; omega)
    rw [Nat.zero_add] at hr hge hcm
    refine ⟨_, _, _, hr, ?_, ⟨rfl, rfl, rfl, by simp, fun k hk => heap_alloc_old w.drew _ hk⟩, fun _ k hk => by simp [Value.ownBlock] at hk; omega⟩
    refine ⟨_, _, rfl, hge, hcm, fun _ => ⟨_, _, rfl, by simp, fun j hj => ?_⟩⟩
    have := heap_alloc_new w.drew (Obj.cells (([] ++ u8s ys).toArray ++ Builtin.zeroCells z.cells (grownCap w ys.length 0 e - ys.length)) e)
    simp only [World.cell?]
    rw [show w.drew.heap.size = w.heap.size from rfl] at this
    rw [this]
    have hj' : j < (u8s ys).length := by rw [u8s_length]; exact hj
    simp only [List.nil_append, Nat.zero_add]
    rw [Array.getElem?_append_left (by simpa using hj')]
    simpa using u8s_get ys j hj

end Go.Proofs.Ytfgjlljbpcombaa
