
/- The pool that the references make, in memory. -/
import Derived.Test.YtlcfbnbbdpgjiaaRows
import Derived.Test.YtlcfbnbbdpgjiaaNames
import Derived.Deep.RegionLaw
import Derived.Lib.BytesEntry
namespace Go.Proofs.Ytlcfbnbbdpgjiaa
set_option linter.unusedVariables false
set_option linter.unusedSimpArgs false
open Go.RowKit Go.Maps

/-- In block pb lies a pool of the references: its bytes, its places; in block r what is handed back in the end. -/
structure Rf (w0 w : World) (base r pb : Nat) (cb ca bv av : Value) (B : List UInt8) (ats : List Int) : Prop where
  blk : w.heap[pb]? = some (Obj.cells #[cb, ca, .int .i64 0] 33 (0, 0))
  res : w.heap[r]? = some (Obj.cells #[.slice none 0 0, .slice none 0 0, .int .i64 0] 33 (0, 0))
  ne : r ≠ pb
  ownB : OwnV w base 5 bv (u8s B)
  ownA : OwnV w base 3 av (i64s ats)
  below : Below base w0 w
  plo : base ≤ pb
  rlo : base ≤ r
  top : base ≤ w.heap.size

theorem Rf.cells {w0 w : World} {base r pb : Nat} {cb ca bv av : Value} {B : List UInt8} {ats : List Int} (h : Rf w0 w base r pb cb ca bv av B ats) :
    w.cell? ⟨pb, 0, none⟩ = some cb ∧ w.cell? ⟨pb, 1, none⟩ = some ca ∧ w.cell? ⟨pb, 2, none⟩ = some (.int .i64 0) ∧ w.frozen? ⟨pb, 0, none⟩ = false ∧ w.frozen? ⟨pb, 1, none⟩ = false := by
  refine ⟨by simp [World.cell?, h.blk], by simp [World.cell?, h.blk], by simp [World.cell?, h.blk], by simp [World.frozen?, h.blk], by simp [World.frozen?, h.blk]⟩
theorem Rf.rcells {w0 w : World} {base r pb : Nat} {cb ca bv av : Value} {B : List UInt8} {ats : List Int} (h : Rf w0 w base r pb cb ca bv av B ats) :
    w.cell? ⟨r, 0, none⟩ = some (.slice none 0 0) ∧ w.cell? ⟨r, 1, none⟩ = some (.slice none 0 0) ∧ w.cell? ⟨r, 2, none⟩ = some (.int .i64 0) ∧ w.frozen? ⟨r, 0, none⟩ = false ∧ w.frozen? ⟨r, 1, none⟩ = false ∧ w.frozen? ⟨r, 2, none⟩ = false := by
  refine ⟨by simp [World.cell?, h.res], by simp [World.cell?, h.res], by simp [World.cell?, h.res], by simp [World.frozen?, h.res], by simp [World.frozen?, h.res], by simp [World.frozen?, h.res]⟩
theorem Rf.shapes {w0 w : World} {base r pb : Nat} {cb ca bv av : Value} {B : List UInt8} {ats : List Int} (h : Rf w0 w base r pb cb ca bv av B ats) : (∃ a c, bv = .slice a B.length c ∧ c ≤ maxLen) ∧ ∃ a c, av = .slice a ats.length c ∧ ats.length ≤ c ∧ c ≤ maxLen ∧ (ats ≠ [] → ∃ b, a = some ⟨b, 0, none⟩ ∧ ∀ i (g : i < ats.length), w.cell? ⟨b, i, none⟩ = some (.int .i64 ats[i])) := by
  refine ⟨?_, ?_⟩
  · obtain ⟨a, c, e, _, h2, _⟩ := h.ownB.own.bs
    exact ⟨a, c, e, h2⟩
  · rcases h.ownA.2 with ⟨e, h0⟩ | ⟨g, cap, cur, e, hg, hh, hn, hm, hs, ht⟩
    · rw [i64s_length] at h0
      refine ⟨none, 0, by rw [e, h0], by omega, Nat.zero_le _, fun hne => absurd (List.eq_nil_of_length_eq_zero h0) hne⟩
    · rw [i64s_length] at e hn ht
      refine ⟨some ⟨g, 0, none⟩, cap, e, hn, hm, fun _ => ⟨g, rfl, fun i gi => ?_⟩⟩
      have : (cur.toList.take (ats.length * 1))[i]? = some (.int .i64 ats[i]) := by rw [ht]; simp [i64s, List.getElem?_eq_getElem gi]
      simp only [World.cell?, hh]
      rw [List.getElem?_take, if_pos (by omega)] at this
      simpa using this

theorem Rf.other {w w1 : World} {base : Nat} {e : TypeId} {v : Value} {xs : List Value} (ho : OwnV w base e v xs) (hg : w.grownBy w1 v.ownBlock) : ∀ (k : Nat) C t fr, w.heap[k]? = some (Obj.cells C t fr) → t ≠ e → w1.heap[k]? = w.heap[k]? := by
  intro k C t fr hk ht
  refine hg.block k (Array.getElem?_eq_some_iff.1 hk).1 fun ee => ?_
  obtain ⟨C', hC'⟩ := ho.typed k ee.symm
  rw [hk] at hC'
  simp only [Option.some.injEq, Obj.cells.injEq] at hC'
  exact ht hC'.2.1

theorem Rf.appB {w0 w w1 : World} {base r pb : Nat} {cb ca bv av v1 : Value} {B ys : List UInt8} {ats : List Int} (h : Rf w0 w base r pb cb ca bv av B ats) (hg : w.grownBy w1 bv.ownBlock) (ho : OwnV w1 base 5 v1 (u8s B ++ u8s ys)) : Rf w0 w1 base r pb cb ca v1 av (B ++ ys) ats := by
  have hoth := Rf.other h.ownB hg
  refine ⟨(hoth pb _ _ _ h.blk (by decide)).trans h.blk, (hoth r _ _ _ h.res (by decide)).trans h.res, h.ne, by rw [u8s_append]; exact ho, h.ownA.of_block fun k hk hlt => ?_, below_grown h.below h.ownB h.top hg, h.plo, h.rlo, Nat.le_trans h.top hg.size⟩
  obtain ⟨C, hC⟩ := h.ownA.typed k hk
  exact hoth k C _ _ hC (by decide)
theorem Rf.appA {w0 w w1 : World} {base r pb : Nat} {cb ca bv av v1 : Value} {B : List UInt8} {ats : List Int} {a : Int} (h : Rf w0 w base r pb cb ca bv av B ats) (hg : w.grownBy w1 av.ownBlock) (ho : OwnV w1 base 3 v1 (i64s ats ++ [.int .i64 a])) : Rf w0 w1 base r pb cb ca bv v1 B (ats ++ [a]) := by
  have hoth := Rf.other h.ownA hg
  refine ⟨(hoth pb _ _ _ h.blk (by decide)).trans h.blk, (hoth r _ _ _ h.res (by decide)).trans h.res, h.ne, h.ownB.of_block fun k hk hlt => ?_, by simpa [i64s] using ho, below_grown h.below h.ownA h.top hg, h.plo, h.rlo, Nat.le_trans h.top hg.size⟩
  obtain ⟨C, hC⟩ := h.ownB.typed k hk
  exact hoth k C _ _ hC (by decide)

theorem Rf.set {w0 w : World} {base r pb : Nat} {cb ca cb' ca' bv av : Value} {B : List UInt8} {ats : List Int} (h : Rf w0 w base r pb cb ca bv av B ats) (k : Nat) (x : Value) (hk : (#[cb, ca, .int .i64 0] : Array Value).setIfInBounds k x = #[cb', ca', .int .i64 0]) : Rf w0 (w.setCell ⟨pb, k, none⟩ x) base r pb cb' ca' bv av B ats := by
  have hset : w.setCell ⟨pb, k, none⟩ x = w.setRow pb #[cb', ca', .int .i64 0] := by
    rw [setCell_eq_setRow w pb k _ _ _ _ h.blk, hk]
  have hoth : ∀ j, j ≠ pb → (w.setCell ⟨pb, k, none⟩ x).heap[j]? = w.heap[j]? := fun j hj => Below.heap_setCell _ _ _ _ hj
  have hsz : (w.setCell ⟨pb, k, none⟩ x).heap.size = w.heap.size := by simp [World.setCell]
  have hother : ∀ (j : Nat) C t fr, w.heap[j]? = some (Obj.cells C t fr) → t ≠ 33 → (w.setCell ⟨pb, k, none⟩ x).heap[j]? = w.heap[j]? := by
    intro j C t fr hj ht
    refine hoth j fun e => ?_
    subst e
    rw [h.blk] at hj
    simp only [Option.some.injEq, Obj.cells.injEq] at hj
    exact ht hj.2.1.symm
  refine ⟨by rw [hset]; exact setRow_heap w pb _ _ _ _ h.blk, (hoth r h.ne).trans h.res, h.ne, h.ownB.of_block fun j hj _ => ?_, h.ownA.of_block fun j hj _ => ?_, h.below.trans ⟨rfl, rfl, rfl, by omega, fun j hj => hoth j (by have := h.plo; omega)⟩, h.plo, h.rlo, by rw [hsz]; exact h.top⟩
  · obtain ⟨C, hC⟩ := h.ownB.typed j hj
    exact hother j C _ _ hC (by decide)
  · obtain ⟨C, hC⟩ := h.ownA.typed j hj
    exact hother j C _ _ hC (by decide)
theorem Rf.setB {w0 w : World} {base r pb : Nat} {cb ca bv av : Value} {B : List UInt8} {ats : List Int} (h : Rf w0 w base r pb cb ca bv av B ats) : Rf w0 (w.setCell ⟨pb, 0, none⟩ bv) base r pb bv ca bv av B ats := h.set 0 bv (by simp)
theorem Rf.setA {w0 w : World} {base r pb : Nat} {cb ca bv av : Value} {B : List UInt8} {ats : List Int} (h : Rf w0 w base r pb cb ca bv av B ats) : Rf w0 (w.setCell ⟨pb, 1, none⟩ av) base r pb cb av bv av B ats := h.set 1 av (by simp)

theorem Rf.later {w0 w w' : World} {base r pb : Nat} {cb ca bv av : Value} {B : List UInt8} {ats : List Int} (h : Rf w0 w base r pb cb ca bv av B ats) (hb : Below w.heap.size w w') : Rf w0 w' base r pb cb ca bv av B ats := by
  have l1 := (Array.getElem?_eq_some_iff.1 h.blk).1
  have l2 := (Array.getElem?_eq_some_iff.1 h.res).1
  exact ⟨(hb.block pb l1).trans h.blk, (hb.block r l2).trans h.res, h.ne, h.ownB.later hb, h.ownA.later hb, h.below.trans (hb.mono h.top), h.plo, h.rlo, Nat.le_trans h.top hb.size⟩
theorem Rf.drewN {w0 w : World} {base r pb : Nat} {cb ca bv av : Value} {B : List UInt8} {ats : List Int} (h : Rf w0 w base r pb cb ca bv av B ats) (n : Nat) : Rf w0 (w.drewN n) base r pb cb ca bv av B ats := h.later (Below.drewN (Below.refl _ _) n)

/-- What is handed back is laid into its own block. -/
theorem Rf.finish {w0 w : World} {base r pb : Nat} {cb ca bv av : Value} {B : List UInt8} {ats : List Int} (h : Rf w0 w base r pb cb ca bv av B ats) (x y z : Value) (W : World) (hW : W = ((w.setCell ⟨r, 0, none⟩ x).setCell ⟨r, 1, none⟩ y).setCell ⟨r, 2, none⟩ z) :
    Below base w0 W ∧ Bs W bv B ∧ Is W av ats ∧ W.cell? ⟨r, 0, none⟩ = some x ∧ W.cell? ⟨r, 1, none⟩ = some y ∧ W.cell? ⟨r, 2, none⟩ = some z := by
  have e1 : w.setCell ⟨r, 0, none⟩ x = w.setRow r #[x, .slice none 0 0, .int .i64 0] := by rw [setCell_eq_setRow w r 0 _ _ _ _ h.res]; simp
  have h1 : (w.setRow r #[x, .slice none 0 0, .int .i64 0]).heap[r]? = some (Obj.cells #[x, .slice none 0 0, .int .i64 0] 33 (0, 0)) := setRow_heap w r _ _ _ _ h.res
  have e2 : (w.setCell ⟨r, 0, none⟩ x).setCell ⟨r, 1, none⟩ y = (w.setRow r #[x, .slice none 0 0, .int .i64 0]).setRow r #[x, y, .int .i64 0] := by rw [e1, setCell_eq_setRow _ r 1 _ _ _ _ h1]; simp
  have h2 : ((w.setRow r #[x, .slice none 0 0, .int .i64 0]).setRow r #[x, y, .int .i64 0]).heap[r]? = some (Obj.cells #[x, y, .int .i64 0] 33 (0, 0)) := setRow_heap _ r _ _ _ _ h1
  have e3 : W = ((w.setRow r #[x, .slice none 0 0, .int .i64 0]).setRow r #[x, y, .int .i64 0]).setRow r #[x, y, z] := by rw [hW, e2, setCell_eq_setRow _ r 2 _ _ _ _ h2]; simp
  have h3 : W.heap[r]? = some (Obj.cells #[x, y, z] 33 (0, 0)) := by rw [e3]; exact setRow_heap _ r _ _ _ _ h2
  have hk : ∀ k, k ≠ r → W.heap[k]? = w.heap[k]? := fun k hk => by
    rw [hW, Below.heap_setCell _ _ _ _ hk, Below.heap_setCell _ _ _ _ hk, Below.heap_setCell _ _ _ _ hk]
  have hsz : W.heap.size = w.heap.size := by rw [hW]; simp [World.setCell]
  have hother : ∀ (j : Nat) C t fr, w.heap[j]? = some (Obj.cells C t fr) → t ≠ 33 → W.heap[j]? = w.heap[j]? := by
    intro j C t fr hj ht
    refine hk j fun e => ?_
    subst e
    rw [h.res] at hj
    simp only [Option.some.injEq, Obj.cells.injEq] at hj
    exact ht hj.2.1.symm
  refine ⟨h.below.trans ⟨by rw [hW]; rfl, by rw [hW]; rfl, by rw [hW]; rfl, by omega, fun k hk' => hk k (by have := h.rlo; omega)⟩, (h.ownB.of_block fun j hj _ => ?_).own.bs, (h.ownA.of_block fun j hj _ => ?_).sl, by simp [World.cell?, h3], by simp [World.cell?, h3], by simp [World.cell?, h3]⟩
  · obtain ⟨C, hC⟩ := h.ownB.typed j hj
    exact hother j C _ _ hC (by decide)
  · obtain ⟨C, hC⟩ := h.ownA.typed j hj
    exact hother j C _ _ hC (by decide)

/-- An append as one step of a region that draws. -/
theorem step_append_at {P : Program} {ops : Array Oper} {o : Oper} {a : Act} {w : World} {K : Act → World → Prop} {Q : Exit → Act → World → Prop} {E : Prop} (hg : o.guard = none) (s x : Operand) (t tx : TypeId)
    (ho : o.op = .call { callee := .builtin .append, args := #[s, x], argTypes := #[t, tx] }) (base : Nat) (e : TypeId) (z : Value) (bytes : Nat) (ht : P.underlying t = some (.slice e)) (hinfo : (P.info? e).map (fun i => (i.zero, i.size, i.bytes)) = some (some z, 1, bytes)) (hzs : z.cells.size = 1)
    {v y : Value} {xs news : List Value} {n : Nat} (hs : a.eval s = v) (hx : a.eval x = y) (hv : OwnV w base e v xs) (hy : Src P 1 tx y n news w) (h63 : xs.length + n ≤ maxLen) (hb : ((xs.length + n) + (xs.length + n) / 4 + 192) * bytes ≤ 281474976710656) (hbase : base ≤ w.heap.size)
    (h : ∀ v' w', OwnV w' base e v' (xs ++ news) → w.grownBy w' v.ownBlock → K (a.put o.dst v') w') : if Region.wanted o (yielded ops a.tmps) = true then Oper.wp P o a w K Q else E := by
  have hw : Region.wanted o (yielded ops a.tmps) = true := by simp [Region.wanted, hg]
  rw [if_pos hw]
  obtain ⟨i, hi, hz0, hz1, hz2⟩ := info_parts hinfo
  subst hz2
  obtain ⟨v', w', hr, h2, h3, h4, h5⟩ := run_append_at (P := P) w base t tx o.type e i z ht hi hz0 hz1 hzs hv hy h63 hb hbase
  unfold Oper.wp execOp
  simp only [ho, resolve, invoke, builtin, Sem.run_bind, Sem.run_pure, Result.andThen_ok, List.map_toArray, List.map_cons, List.map_nil, hs, hx, hr]
  exact h v' w' h2 h3

theorem toList_eq (s : ByteArray) : s.toList = s.data.toList := Lib.toList_data s
theorem str_eq (s t : ByteArray) : (s.toList == t.toList) = decide (s.data.toList = t.data.toList) := by
  rw [toList_eq, toList_eq]
  generalize s.data.toList = a
  generalize t.data.toList = b
  by_cases h : a = b <;> simp [h]

end Go.Proofs.Ytlcfbnbbdpgjiaa
