
/- append onto a slice of bytes of the call's own, whatever the source, guarded or not. -/
import Derived.Test.YtbfcdcdeohikpaaMem
namespace Go.Proofs.Ytbfcdcdeohikpaa
set_option linter.unusedVariables false
set_option linter.unusedSimpArgs false
open Go.RowKit

/-- A slice of just these bytes in memory that was made from block base on. -/
def Own (w : World) (base : Nat) (e : TypeId) (v : Value) (xs : List UInt8) : Prop := w.ownsRow base e 1 v xs.length (u8s xs)

theorem Own.bs {w : World} {base : Nat} {e : TypeId} {v : Value} {xs : List UInt8} (h : Own w base e v xs) : Bs w v xs := by
  obtain ⟨h1, h2⟩ := h
  rcases h2 with ⟨rfl, h0⟩ | ⟨g, cap, cur, rfl, hg, hh, hn, hm, hs, ht⟩
  · have : xs = [] := List.eq_nil_of_length_eq_zero h0
    subst this; exact Bs.nil w
  · refine ⟨_, cap, rfl, hn, hm, fun _ => ⟨g, 0, rfl, (Array.getElem?_eq_some_iff.1 hh).1, fun i hi => ?_⟩⟩
    have : (cur.toList.take (xs.length * 1))[i]? = some (.int .u8 (xs[i].toNat : Int)) := by rw [ht]; exact u8s_get xs i hi
    simp only [World.cell?, hh]
    rw [List.getElem?_take, if_pos (by omega)] at this
    simpa using this

theorem Own.block {w : World} {base : Nat} {e : TypeId} {v : Value} {xs : List UInt8} (h : Own w base e v xs) : ∀ k, v.ownBlock = some k → base ≤ k ∧ k < w.heap.size := World.ownsRow.lt h

theorem Own.later {w w' : World} {base : Nat} {e : TypeId} {v : Value} {xs : List UInt8} (h : Own w base e v xs) (hb : Below w.heap.size w w') : Own w' base e v xs := by
  obtain ⟨h1, h2⟩ := h
  refine ⟨h1, ?_⟩
  rcases h2 with h2 | ⟨g, cap, cur, hv, hg, hh, r⟩
  · exact Or.inl h2
  · exact Or.inr ⟨g, cap, cur, hv, hg, by rw [hb.block g (Array.getElem?_eq_some_iff.1 hh).1]; exact hh, r⟩

theorem Own.nil (w : World) (base : Nat) (e : TypeId) : Own w base e (.slice none 0 0) [] := World.ownsRow_nil w base e 1

theorem Own.lit (w : World) (base : Nat) (e : TypeId) (xs : List UInt8) (C : Array Value) (n : Nat) (hb : base ≤ w.heap.size) (hC : C = (u8s xs).toArray) (hn : n = xs.length) (hm : xs.length ≤ maxLen) :
    Own (w.alloc (.cells C e)) base e (.slice (some ⟨w.heap.size, 0, none⟩) n n) xs := by
  subst hC hn
  have := World.ownsRow_lit (base := base) (e := e) (size := 1) w (u8s xs).toArray xs.length hb hm (by simp [u8s_length])
  unfold Own
  simpa using this

theorem run_append_bs {P : Program} (w : World) (base : Nat) (t ty e : TypeId) (ht : P.underlying t = some (.slice e)) (hinfo : (P.info? e).map (fun i => (i.zero, i.size, i.bytes)) = some (some (.int .u8 0), 1, 1))
    {v y : Value} {xs ys : List UInt8} (hv : Own w base e v xs) (hy : Bs w y ys) (hb : xs.length + ys.length ≤ 140737488355328) (hbase : base ≤ w.heap.size) :
    ∃ v' w', (Builtin.append_ #[t, t] ty #[v, y]).run P w = .ok v' w' ∧ Own w' base e v' (xs ++ ys) ∧ w.grownBy w' v.ownBlock := by
  obtain ⟨i, hi, hz0, hz1, hz2⟩ := info_parts hinfo
  obtain ⟨a, cap, rfl, h1, h2, h3⟩ := hy
  cases a with
  | none =>
    have hys : ys = [] := by
      by_cases h : ys = []
      · exact h
      · obtain ⟨b, off, hh, _⟩ := h3 h; simp at hh
    subst hys
    refine ⟨v, w, ?_, by simpa using hv, ⟨rfl, rfl, rfl, Nat.le_refl _, fun _ _ _ => rfl⟩⟩
    rcases hv.2 with ⟨rfl, h0⟩ | ⟨g, cp, cur, rfl, _, _, hnc, _⟩
    · simp [Builtin.append_, run_underlying ht, sizeOf, typeInfo, hi, Builtin.lenOf, Builtin.firstCells]
    · simp [Builtin.append_, run_underlying ht, sizeOf, typeInfo, hi, Builtin.lenOf, Builtin.firstCells, hnc, storeCells]
  | some ad =>
    have hnews : ∀ j u, (u8s ys)[j]? = some u → w.cell? (ad.add j) = some u := by
      intro j u hj
      have hjl : j < ys.length := by
        rcases Nat.lt_or_ge j ys.length with h | h
        · exact h
        · rw [List.getElem?_eq_none (by simpa [u8s] using h)] at hj; simp at hj
      obtain ⟨b, off, hh, _, hc⟩ := h3 (by intro e; subst e; simp at hjl)
      simp only [Option.some.injEq] at hh
      subst hh
      rw [u8s_get ys j hjl] at hj
      have hplain : (⟨b, off, none⟩ : Addr).add j = ⟨b, off + j, none⟩ := by unfold Addr.add; split <;> simp_all
      rw [hplain, hc j hjl]; exact hj
    obtain ⟨v', w', hr, ho, hg, _⟩ := run_append_own (P := P) w base t ty e i (.int .u8 0) 1 1 ht hi hz0 hz1 hz2 rfl (by omega) v xs.length (u8s xs) hv ad ys.length cap (u8s ys) (by simp [u8s_length]) hnews
      (fun u hu => by simp [u8s] at hu; obtain ⟨x, _, rfl⟩ := hu; rfl) (by unfold maxLen; omega) (by omega) hbase
    refine ⟨v', w', hr, ?_, hg⟩
    unfold Own
    rw [List.length_append, u8s_append]
    exact ho

theorem wpList_want {P : Program} {ops : Array Oper} {Q : Exit → Act → World → Prop} {a : Act} {w : World} {rest : List Oper} {o : Oper} (hw : Region.wanted o (yielded ops a.tmps) = true)
    (h : ∀ K : Act → World → Prop, (∀ a w, wpList P ops Q rest a w → K a w) → o.wp P a w K Q) : wpList P ops Q (o :: rest) a w :=
  wpList_step fun K hK => by rw [if_pos hw]; exact h K hK

/-- The law for the walk: 'append(v, y...)'. -/
theorem wpList_append_bs {P : Program} {w : World} {ops : Array Oper} {rest : List Oper} {o : Oper} {a : Act} {Q : Exit → Act → World → Prop} (hw : Region.wanted o (yielded ops a.tmps) = true) (s x : Operand) (t : TypeId)
    (ho : o.op = .call { callee := .builtin .append, args := #[s, x], argTypes := #[t, t] }) (base : Nat) (e : TypeId) (ht : P.underlying t = some (.slice e)) (hinfo : (P.info? e).map (fun i => (i.zero, i.size, i.bytes)) = some (some (.int .u8 0), 1, 1))
    {v y : Value} {xs ys : List UInt8} (hs : a.eval s = v) (hx : a.eval x = y) (hv : Own w base e v xs) (hy : Bs w y ys) (hb : xs.length + ys.length ≤ 140737488355328) (hbase : base ≤ w.heap.size)
    (h : ∀ v' w', Own w' base e v' (xs ++ ys) → w.grownBy w' v.ownBlock → wpList P ops Q rest (a.put o.dst v') w') : wpList P ops Q (o :: rest) a w := by
  refine wpList_want hw fun K hK => ?_
  obtain ⟨v', w', hr, h2, h3⟩ := run_append_bs (P := P) w base t o.type e ht hinfo hv hy hb hbase
  unfold Oper.wp execOp
  simp only [ho, resolve, invoke, builtin, Sem.run_bind, Sem.run_pure, Result.andThen_ok, List.map_toArray, List.map_cons, List.map_nil, hs, hx, hr]
  exact hK _ _ (h v' w' h2 h3)

/-- The copy that 'append([]byte{}, b...)' makes. -/
theorem copied {w1 w2 : World} {e : TypeId} {v2 : Value} {o : Obj} {bs : List UInt8} (ho : Own w2 w1.heap.size e v2 ([] ++ bs)) (hg : (w1.alloc o).grownBy w2 (Value.slice (some ⟨w1.heap.size, 0, none⟩) 0 0).ownBlock) :
    Bs w2 v2 bs ∧ Below w1.heap.size w1 w2 ∧ (∀ k, v2.ownBlock = some k → w1.heap.size ≤ k) ∧ w1.heap.size < w2.heap.size := by
  refine ⟨by simpa using ho.bs, ((Below.refl _ _).alloc (Nat.le_refl _) o).trans ⟨hg.os, hg.tape, hg.output, hg.size, fun k hk => hg.block k (by simp; omega) ?_⟩, fun k hk => (ho.block k hk).1, ?_⟩
  · intro e; simp [Value.ownBlock] at e; omega
  · have := hg.size; simp at this; omega

theorem bs_take {w : World} {bs : List UInt8} {b off cap : Nat} (n : Nat) (hn : n ≤ bs.length) (h : Bs w (.slice (some ⟨b, off, none⟩) bs.length cap) bs) : Bs w (.slice (some ⟨b, off, none⟩) n cap) (bs.take n) := by
  obtain ⟨a, c, he, h1, h2, h3⟩ := h
  simp only [Value.slice.injEq] at he
  obtain ⟨rfl, _, rfl⟩ := he
  have hl : (bs.take n).length = n := by simp; omega
  refine ⟨_, cap, by rw [hl], by omega, h2, fun hne => ?_⟩
  obtain ⟨b', off', he, hb, hc⟩ := h3 (by intro e; subst e; simp at hne)
  exact ⟨b', off', he, hb, fun i hi => by rw [hl] at hi; rw [hc i (by omega)]; simp⟩

/-- The bytes at a place, so many. -/
def seg (bs : List UInt8) (at_ n : Nat) : List UInt8 := (bs.drop at_).take n
theorem seg_length (bs : List UInt8) (at_ n : Nat) (h : at_ + n ≤ bs.length) : (seg bs at_ n).length = n := by simp [seg]; omega

/-- 'v[lo:hi]' of a slice of bytes. -/
theorem slice_bs {P : Program} {w : World} {a : Option Addr} {cap : Nat} {bs : List UInt8} (hv : Bs w (.slice a bs.length cap) bs) (lo n : Nat) (h : lo + n ≤ bs.length) (t e : TypeId) (ht : P.underlying t = some (.slice e)) (hs : (P.info? e).map (·.size) = some 1) :
    ∃ a' cap', (∀ (W : World) (k1 k2 : IntKind), (Instr.slice t (.slice a bs.length cap) (some (.int k1 (lo : Int))) (some (.int k2 ((lo : Int) + (n : Int)))) none).run P W = .ok (.slice a' n cap') W) ∧ Bs w (.slice a' n cap') (seg bs lo n) ∧
      (∀ k, (Value.slice a' n cap').ownBlock = some k → (Value.slice a bs.length cap).ownBlock = some k) := by
  obtain ⟨a0, c0, he, h1, h2, h3⟩ := hv
  simp only [Value.slice.injEq] at he
  obtain ⟨rfl, _, rfl⟩ := he
  have hl := seg_length bs lo n h
  refine ⟨if cap = lo then a else a.map (·.add lo), cap - lo, ?_, ⟨_, _, by rw [hl], by omega, by omega, ?_⟩, ?_⟩
  · intro W k1 k2
    cases hq : P.info? e with
    | none => simp [hq] at hs
    | some i =>
      have hi : i.size = 1 := by simpa [hq] using hs
      have e1 : ((lo : Int) + (n : Int)).toNat = lo + n := by omega
      have b1 : (Instr.sliceBound (.int k2 ((lo : Int) + (n : Int))) cap .sliceAcap).run P W = .ok (lo + n) W := by rw [run_sliceBound _ _ _ _ _ (by omega) (by omega), e1]
      have b2 : (Instr.sliceBound (.int k1 (lo : Int)) (lo + n) .sliceB).run P W = .ok lo W := by rw [run_sliceBound _ _ _ _ _ (by omega) (by omega)]; simp
      simp [Instr.slice, run_underlying ht, Instr.sliceBounds, b1, b2, sizeOf, typeInfo, hq, hi]
  · intro hne
    have hn : 0 < n := by
      rcases Nat.eq_zero_or_pos n with h0 | h0
      · subst h0; simp [seg] at hne
      · exact h0
    obtain ⟨b, off, rfl, hb, hc⟩ := h3 (by intro e; subst e; simp at h; omega)
    have hplain : (⟨b, off, none⟩ : Addr).add lo = ⟨b, off + lo, none⟩ := by unfold Addr.add; split <;> simp_all
    refine ⟨b, off + lo, by rw [if_neg (by omega)]; simp [hplain], hb, fun i hi => ?_⟩
    rw [hl] at hi
    rw [Nat.add_assoc, hc (lo + i) (by omega)]
    simp [seg]
  · intro k hk
    split at hk
    · cases a with
      | none => simp [Value.ownBlock] at hk
      | some x => simpa [Value.ownBlock] using hk
    · cases a with
      | none => simp [Value.ownBlock] at hk
      | some x =>
        simp [Value.ownBlock] at hk ⊢
        rw [← hk]; unfold Addr.add; split <;> rfl

end Go.Proofs.Ytbfcdcdeohikpaa
