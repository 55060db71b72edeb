
/- copied of layer 8's statements: a body of its own. -/
import Derived.Test.YtfgjlljbpcombaaRows
import Derived.Test.YtfgjlljbpcombaaLaws8
import Derived.Test.YtfgjlljbpcombaaOrders3
import Derived.Test.YtfgjlljbpcombaaBody8
namespace Go.Proofs.Ytfgjlljbpcombaa
set_option linter.unusedVariables false
set_option linter.unusedSimpArgs false
open Go.RowKit Go.Maps

theorem Ws.src {w : World} {y : Value} {l : List Rw} (h : Ws w y l) : Src Try.prog 6 23 y l.length (rcL l) w := by
  obtain ⟨a, cap, rfl, g1, g2, g3⟩ := h
  cases a with
  | none =>
    have hl : l = [] := by
      by_cases h : l = []
      · exact h
      · obtain ⟨b, off, hh, _⟩ := g3 h; simp at hh
    subst hl
    exact Src.ofNil w Try.underlying23 cap
  | some ad =>
    refine Src.ofSlice w Try.underlying23 ad l.length cap (rcL l) (by rw [rcL_length]; omega) ?_ (rcL_one l)
    intro j u hj
    have hne : l ≠ [] := by intro e; subst e; simp [rcL] at hj
    obtain ⟨b, off, hh, _, hc⟩ := g3 hne
    simp only [Option.some.injEq] at hh
    subst hh
    have hplain : (⟨b, off, none⟩ : Addr).add j = ⟨b, off + j, none⟩ := by unfold Addr.add; split <;> simp_all
    rw [hplain]
    exact hc j u hj

/-- append onto an empty slice of clauses. -/
theorem run_append_none8 (w : World) (ty : TypeId) (g : Nat) {y : Value} {l : List Rw} (hy : Ws w y l) (hl : l.length ≤ 100000) :
    ∃ x c w', (Builtin.append_ #[23, 23] ty #[.slice (some ⟨g, 0, none⟩) 0 0, y]).run Try.prog w = .ok (.slice x l.length c) w' ∧ Ws w' (.slice x l.length c) l ∧ Below w.heap.size w w' ∧ (l ≠ [] → ∀ k, (Value.slice x l.length c).ownBlock = some k → w.heap.size ≤ k) := by
  obtain ⟨i, hi, hz0, hz1, hz2⟩ := info_parts Try.infoRaw
  have hs := hy.src
  by_cases hn : l = []
  · subst hn
    refine ⟨some ⟨g, 0, none⟩, 0, w, ?_, ⟨_, _, rfl, Nat.le_refl _, Nat.zero_le _, fun h => absurd rfl h⟩, Below.refl _ _, fun h => absurd rfl h⟩
    have hc := hs.cells
    have hlen := hs.len
    simp only [List.length_nil, rcL] at hc hlen
    simp [Builtin.append_, run_underlying Try.underlying23, sizeOf, typeInfo, hi, hz1, hlen, hc, storeCells]
  · have hpos : 0 < l.length := List.length_pos_iff.2 hn
    have hold : (Builtin.firstCells i.size 0 (.slice (some ⟨g, 0, none⟩) 0 0)).run Try.prog w.drew = .ok ([] : List Value).toArray w.drew := run_firstCells_some w.drew i.size 0 ⟨g, 0, none⟩ 0 0 [] (by simp) (by intro j u hj; simp at hj)
    have hr := run_append_grow_src (P := Try.prog) w 23 23 ty 52 i _ Try.underlying23 hi hz0 (some ⟨g, 0, none⟩) 0 0 [] hold y l.length (rcL l) (by rw [hz1]; exact hs) (by omega) (by omega) (growslice_fits_wide (by omega) (by rw [hz2]; simp; omega))
    have hge := grownCap_ge w (0 + l.length) 0 52
    have hcm : grownCap w (0 + l.length) 0 52 ≤ maxLen := grownCap_le_maxLen w (0 + l.length) 0 52 (by unfold maxLen; omega)
    rw [Nat.zero_add] at hr hge hcm
    refine ⟨_, _, _, hr, ?_, ⟨rfl, rfl, rfl, by simp, fun k hk => heap_alloc_old w.drew _ hk⟩, fun _ k hk => by simp [Value.ownBlock] at hk; omega⟩
    refine ⟨_, _, rfl, hge, hcm, fun _ => ⟨_, _, rfl, by simp, fun j u hj => ?_⟩⟩
    have hj' := (List.getElem?_eq_some_iff.1 hj).1
    have h := fun C => heap_alloc_new w.drew (Obj.cells C 52)
    simp only [World.cell?]
    rw [show w.drew.heap.size = w.heap.size from rfl] at h
    rw [h]
    simp only [List.nil_append, Nat.zero_add]
    rw [Array.getElem?_append_left (by simpa using hj')]
    simpa using hj

/-- What the k-th part's r-th step has left. -/
def CF8 (bx top : Nat) (p0 p1 : Value) (c : List UInt8) (l : List Rw) (k r : Nat) (u : Value) (w : World) : Prop :=
  match r with
  | 0 => ∃ g, u = .slice (some ⟨g, 0, none⟩) 0 0
  | 1 => u = .pointer (some ⟨bx, k, none⟩)
  | 2 => u = if k = 0 then p0 else p1
  | _ => if k = 0 then ∃ x d, u = .slice x c.length d ∧ Bs w u c ∧ (c ≠ [] → ∀ j, u.ownBlock = some j → top ≤ j) else ∃ x d, u = .slice x l.length d ∧ Ws w u l ∧ (l ≠ [] → ∀ j, u.ownBlock = some j → top ≤ j)
theorem CF8.keep {bx top : Nat} {p0 p1 : Value} {c : List UInt8} {l : List Rw} {k r : Nat} {u : Value} {w w' : World} (h : CF8 bx top p0 p1 c l k r u w) (hb : ∀ v, Bs w v c → (c ≠ [] → ∀ j, v.ownBlock = some j → top ≤ j) → Bs w' v c) (hw : ∀ v, Ws w v l → (l ≠ [] → ∀ j, v.ownBlock = some j → top ≤ j) → Ws w' v l) : CF8 bx top p0 p1 c l k r u w' := by
  match r with
  | 0 => exact h
  | 1 => exact h
  | 2 => exact h
  | _ + 3 =>
    unfold CF8 at h ⊢
    by_cases hk : k = 0
    · simp only [hk, if_true] at h ⊢
      obtain ⟨x, d, h1, h2, h3⟩ := h
      exact ⟨x, d, h1, hb _ h2 h3, h3⟩
    · simp only [hk, if_false] at h ⊢
      obtain ⟨x, d, h1, h2, h3⟩ := h
      exact ⟨x, d, h1, hw _ h2 h3, h3⟩
theorem CF8.later {bx top : Nat} {p0 p1 : Value} {c : List UInt8} {l : List Rw} {k r : Nat} {u : Value} {w w' : World} (h : CF8 bx top p0 p1 c l k r u w) (hb : Below w.heap.size w w') : CF8 bx top p0 p1 c l k r u w' :=
  h.keep (fun v hv _ => hv.later hb) (fun v hv _ => hv.later hb)
theorem CF8.only {bx top g : Nat} {p0 p1 : Value} {c : List UInt8} {l : List Rw} {k r : Nat} {u : Value} {w w' : World} (h : CF8 bx top p0 p1 c l k r u w) (ho : Onp [g] w w') (hg : g < top) : CF8 bx top p0 p1 c l k r u w' := by
  refine h.keep (fun v hv hf => hv.onp ho fun hne j hj => ?_) (fun v hv hf => ?_)
  · have := hf hne j hj
    simp
    omega
  · by_cases hl : l = []
    · subst hl
      obtain ⟨a, cap, rfl, h1, h2, h3⟩ := hv
      exact ⟨a, cap, rfl, h1, h2, fun hne => absurd rfl hne⟩
    · refine hv.onp ho fun j hj => ?_
      have := hf hl j hj
      simp
      omega

theorem getD_set8 {l : Array Bool} {i j : Nat} (hi : i < l.size) : (l.setIfInBounds i true).getD j false = if i = j then true else l.getD j false := by
  by_cases e : i = j
  · subst e; simp [Array.getD, hi]
  · rw [if_neg e]; exact getD_set_ne false e

/-- What holds while both are copied, in whatever order. -/
structure Cp8 (w0 : World) (top : Nat) (W2 : World) (p0 p1 : Value) (c : List UInt8) (l : List Rw) (listed : Array Bool) (a : Act) (w : World) : Prop where
  sz : a.tmps.size = 12
  df : a.defers = []
  t1 : a.tmps.getD 1 undef = .pointer (some ⟨w0.heap.size, 0, none⟩)
  t2 : a.tmps.getD 2 undef = .pointer (some ⟨w0.heap.size + 1, 0, none⟩)
  c9 : listed.getD 9 false = true → ∀ j, j < 9 → listed.getD j false = true
  c8 : listed.getD 8 false = true → listed.getD 3 false = true ∧ listed.getD 7 false = true
  bel : listed.getD 9 false = false → Below top W2 w
  each : ∀ k r, k < 2 → r < 4 → listed.getD (4 * k + r) false = true → CF8 w0.heap.size top p0 p1 c l k r (a.tmps.getD (4 * k + r + 3) undef) w
  bd : listed.getD 8 false = true → a.tmps.getD 11 undef = .agg #[a.tmps.getD 6 undef, a.tmps.getD 10 undef]
  fin : listed.getD 9 false = true → Below w0.heap.size w0 w ∧ w.cell? ⟨w0.heap.size + 1, 0, none⟩ = some (a.tmps.getD 6 undef) ∧ w.cell? ⟨w0.heap.size + 1, 1, none⟩ = some (a.tmps.getD 10 undef)

theorem Cp8.open9 {w0 : World} {top : Nat} {W2 : World} {p0 p1 : Value} {c : List UInt8} {l : List Rw} {listed : Array Bool} {a : Act} {w : World} (h : Cp8 w0 top W2 p0 p1 c l listed a w) (hsz : listed.size = 10) {i : Nat} (hi : i < 9) (hun : listed.getD i true = false) : listed.getD 9 false = false := by
  cases h17 : listed.getD 9 false with
  | false => rfl
  | true =>
    have := h.c9 h17 i hi
    have hlt : i < listed.size := by omega
    simp [Array.getD, hlt] at this hun
    rw [this] at hun; cases hun

theorem Cp8.step {w0 : World} {top : Nat} {W2 : World} {p0 p1 : Value} {c : List UInt8} {l : List Rw} {listed : Array Bool} {a : Act} {w w' : World} (h : Cp8 w0 top W2 p0 p1 c l listed a w) (hsz : listed.size = 10) {i : Nat} (hi : i < 9) (hun : listed.getD i true = false) (v : Value) (htop : top ≤ w.heap.size) (hb : Below w.heap.size w w')
    (hnew : ∀ k r, k < 2 → r < 4 → i = 4 * k + r → CF8 w0.heap.size top p0 p1 c l k r v w') (h16 : i = 8 → listed.getD 3 false = true ∧ listed.getD 7 false = true) (hbd : i = 8 → v = .agg #[a.tmps.getD 6 undef, a.tmps.getD 10 undef]) : Cp8 w0 top W2 p0 p1 c l (listed.setIfInBounds i true) (a.put (some (i + 3)) v) w' := by
  have h17 := h.open9 hsz hi hun
  have hlt : i < listed.size := by omega
  have h17' : (listed.setIfInBounds i true).getD 9 false = false := by rw [getD_set8 hlt, if_neg (by omega)]; exact h17
  have hne : ∀ t, t ≠ i + 3 → (a.put (some (i + 3)) v).tmps.getD t undef = a.tmps.getD t undef := fun t ht => eval_put_ne (Ne.symm ht)
  have hsame : (a.put (some (i + 3)) v).tmps.getD (i + 3) undef = v := eval_put_same (by rw [h.sz]; omega)
  refine ⟨by rw [size_put]; exact h.sz, by simp [Act.put, h.df], by rw [hne 1 (by omega)]; exact h.t1, by rw [hne 2 (by omega)]; exact h.t2, fun e => (by rw [h17'] at e; cases e), fun hl => ?_, fun _ => (h.bel h17).trans (hb.mono htop), fun k r hk hr hl => ?_, fun hl => ?_, fun e => (by rw [h17'] at e; cases e)⟩
  · rw [getD_set8 hlt] at hl
    have key : listed.getD 3 false = true ∧ listed.getD 7 false = true := by
      by_cases e : i = 8
      · exact h16 e
      · rw [if_neg e] at hl; exact h.c8 hl
    refine ⟨?_, ?_⟩ <;> rw [getD_set8 hlt] <;> split <;> first | rfl | exact key.1 | exact key.2
  · rw [getD_set8 hlt] at hl
    by_cases e : i = 4 * k + r
    · subst e; rw [hsame]; exact hnew k r hk hr rfl
    · rw [if_neg e] at hl
      rw [hne _ (by omega)]
      exact (h.each k r hk hr hl).later hb
  · rw [getD_set8 hlt] at hl
    by_cases e : i = 8
    · subst e
      rw [hsame, hne 6 (by omega), hne 10 (by omega)]
      exact hbd rfl
    · rw [if_neg e] at hl
      obtain ⟨k1, k2⟩ := h.c8 hl
      have hnl : ∀ j, listed.getD j false = true → i ≠ j := fun j hj e' => by
        subst e'
        simp [Array.getD, hlt] at hj hun
        rw [hj] at hun; cases hun
      have n1 := hnl 3 k1
      have n2 := hnl 7 k2
      rw [hne 11 (by omega), hne 6 (by omega), hne 10 (by omega)]
      exact h.bd hl

theorem run_op8_slice {o : Oper} {a : Act} {w : World} (hop : o.op = .buildSlice 22 0 #[]) : (execOp a.eval o).run Try.prog w = .ok (.value (.slice (some ⟨w.heap.size, 0, none⟩) 0 0)) (w.alloc (Obj.cells #[] 5)) := by
  unfold execOp
  simp [hop, go_sem]
theorem run_op8_sliceR {o : Oper} {a : Act} {w : World} (hop : o.op = .buildSlice 23 0 #[]) : (execOp a.eval o).run Try.prog w = .ok (.value (.slice (some ⟨w.heap.size, 0, none⟩) 0 0)) (w.alloc (Obj.cells #[] 52)) := by
  unfold execOp
  simp [hop, go_sem]
theorem run_op8_field {o : Oper} {a : Act} {w : World} {b k : Nat} (hk : k < 2) (hop : o.op = .fieldAddr 25 (.tmp 1) k) (h1 : a.tmps.getD 1 undef = .pointer (some ⟨b, 0, none⟩)) : (execOp a.eval o).run Try.prog w = .ok (.value (.pointer (some ⟨b, k, none⟩))) w := by
  unfold execOp
  rcases (show k = 0 ∨ k = 1 by omega) with rfl | rfl <;> simp [hop, go_sem, Act.eval, h1]
theorem run_op8_load {o : Oper} {a : Act} {w : World} {d b k l c : Nat} {x : Option Addr} (hop : o.op = .load 22 (.tmp d)) (h1 : a.tmps.getD d undef = .pointer (some ⟨b, k, none⟩)) (hc : w.cell? ⟨b, k, none⟩ = some (.slice x l c)) : (execOp a.eval o).run Try.prog w = .ok (.value (.slice x l c)) w := by
  unfold execOp
  simp [hop, go_sem, Act.eval, h1, hc]
theorem run_op8_loadR {o : Oper} {a : Act} {w : World} {d b k l c : Nat} {x : Option Addr} (hop : o.op = .load 23 (.tmp d)) (h1 : a.tmps.getD d undef = .pointer (some ⟨b, k, none⟩)) (hc : w.cell? ⟨b, k, none⟩ = some (.slice x l c)) : (execOp a.eval o).run Try.prog w = .ok (.value (.slice x l c)) w := by
  unfold execOp
  simp [hop, go_sem, Act.eval, h1, hc]
theorem run_op8_append {o : Oper} {a : Act} {w w' : World} {d d' : Nat} {t : TypeId} {x y v : Value} (hop : o.op = .call { callee := .builtin .append, args := #[.tmp d, .tmp d'], argTypes := #[t, t] }) (h1 : a.tmps.getD d undef = x) (h2 : a.tmps.getD d' undef = y) (hr : (Builtin.append_ #[t, t] o.type #[x, y]).run Try.prog w = .ok v w') : (execOp a.eval o).run Try.prog w = .ok (.value v) w' := by
  unfold execOp
  simp only [hop, resolve, invoke, builtin, Sem.run_bind, Sem.run_pure, Result.andThen_ok, List.map_toArray, List.map_cons, List.map_nil, Act.eval, h1, h2, hr]
theorem run_op8_build {o : Oper} {a : Act} {w : World} {x0 x1 : Option Addr} {l0 l1 c0 c1 : Nat} (hop : o.op = .build 25 #[(0, .tmp 6), (1, .tmp 10)]) (h0 : a.tmps.getD 6 undef = .slice x0 l0 c0) (h1 : a.tmps.getD 10 undef = .slice x1 l1 c1) : (execOp a.eval o).run Try.prog w = .ok (.value (.agg #[.slice x0 l0 c0, .slice x1 l1 c1])) w := by
  have h0' : a.tmps[6]?.getD undef = .slice x0 l0 c0 := by rw [← h0]; simp
  have h1' : a.tmps[10]?.getD undef = .slice x1 l1 c1 := by rw [← h1]; simp
  unfold execOp
  simp [hop, go_sem, Act.eval, h0', h1']
theorem run_op8_store {o : Oper} {a : Act} {w : World} {g : Nat} {x0 x1 : Option Addr} {l0 l1 c0 c1 : Nat} (hop : o.op = .store 25 (.tmp 2) (.tmp 11)) (h2 : a.tmps.getD 2 undef = .pointer (some ⟨g, 0, none⟩)) (h11 : a.tmps.getD 11 undef = .agg #[.slice x0 l0 c0, .slice x1 l1 c1]) {y0 y1 : Value} {t : TypeId} (hg : At w g #[y0, y1] t) : (execOp a.eval o).run Try.prog w = .ok .skip ((w.setCell ⟨g, 0, none⟩ (.slice x0 l0 c0)).setCell ⟨g, 1, none⟩ (.slice x1 l1 c1)) := by
  have k0 : w.cell? ⟨g, 0, none⟩ = some y0 := hg.cell 0
  have k1 : w.cell? ⟨g, 1, none⟩ = some y1 := hg.cell 1
  have z0 : w.frozen? ⟨g, 0, none⟩ = false := hg.melt 0
  have z1 : w.frozen? ⟨g, 1, none⟩ = false := hg.melt 1
  unfold execOp
  simp [hop, go_sem, Act.eval, h2, h11, k0, k1, z0, z1]

set_option maxHeartbeats 2000000 in
theorem copied8_any {cv lv : Value} {c : List UInt8} {l : List Rw} {w : World} (hc : Bs w cv c) (hl : Ws w lv l) (hcl : c.length ≤ 4000) (hll : l.length ≤ 4000) :
    Calls Try.prog 10 #[.agg #[cv, lv]] w fun e w' => ∃ x0 x1 y0 y1, e = .returned (.agg #[.slice x0 c.length y0, .slice x1 l.length y1]) ∧ Bs w' (.slice x0 c.length y0) c ∧ Ws w' (.slice x1 l.length y1) l ∧ Below w.heap.size w w' := by
  have HC := hc
  have HW := hl
  obtain ⟨a0, c0, rfl, -⟩ := hc
  obtain ⟨a1, c1, rfl, -⟩ := hl
  obtain ⟨i0, hi0, hz0, hz1, hz2⟩ := info_parts Try.infoU8
  have hb2 : Below w.heap.size w ((w.alloc (Obj.cells #[.slice a0 c.length c0, .slice a1 l.length c1] 25)).alloc (Obj.cells #[.slice none 0 0, .slice none 0 0] 25)) := ((Below.refl _ _).alloc (Nat.le_refl _) _).alloc (by simp) _
  have hs2 : ((w.alloc (Obj.cells #[.slice a0 c.length c0, .slice a1 l.length c1] 25)).alloc (Obj.cells #[.slice none 0 0, .slice none 0 0] 25)).heap.size = w.heap.size + 2 := by simp
  have hg1 : At ((w.alloc (Obj.cells #[.slice a0 c.length c0, .slice a1 l.length c1] 25)).alloc (Obj.cells #[.slice none 0 0, .slice none 0 0] 25)) w.heap.size #[.slice a0 c.length c0, .slice a1 l.length c1] 25 := (At.made _ _ _).next _
  have hg2 : At ((w.alloc (Obj.cells #[.slice a0 c.length c0, .slice a1 l.length c1] 25)).alloc (Obj.cells #[.slice none 0 0, .slice none 0 0] 25)) (w.heap.size + 1) #[.slice none 0 0, .slice none 0 0] 25 := by
    have := At.made (w.alloc (Obj.cells #[.slice a0 c.length c0, .slice a1 l.length c1] 25)) #[.slice none 0 0, .slice none 0 0] 25
    rw [World.size_alloc] at this
    exact this
  have hcell : ∀ W, Below (w.heap.size + 2) ((w.alloc (Obj.cells #[.slice a0 c.length c0, .slice a1 l.length c1] 25)).alloc (Obj.cells #[.slice none 0 0, .slice none 0 0] 25)) W → W.cell? ⟨w.heap.size, 0, none⟩ = some (.slice a0 c.length c0) ∧ W.cell? ⟨w.heap.size, 1, none⟩ = some (.slice a1 l.length c1) := fun W hW => ⟨(hg1.below hW (by omega)).cell 0, (hg1.below hW (by omega)).cell 1⟩
  have hBs : ∀ W, Below (w.heap.size + 2) ((w.alloc (Obj.cells #[.slice a0 c.length c0, .slice a1 l.length c1] 25)).alloc (Obj.cells #[.slice none 0 0, .slice none 0 0] 25)) W → Bs W (.slice a0 c.length c0) c := fun W hW => HC.later (hb2.trans (hW.mono (by omega)))
  have hWs : ∀ W, Below (w.heap.size + 2) ((w.alloc (Obj.cells #[.slice a0 c.length c0, .slice a1 l.length c1] 25)).alloc (Obj.cells #[.slice none 0 0, .slice none 0 0] 25)) W → Ws W (.slice a1 l.length c1) l := fun W hW => HW.later (hb2.trans (hW.mono (by omega)))
  have HK : Hid (∀ {listed : Array Bool} {a : Act} {W : World}, Cp8 w (w.heap.size + 2) ((w.alloc (Obj.cells #[.slice a0 c.length c0, .slice a1 l.length c1] 25)).alloc (Obj.cells #[.slice none 0 0, .slice none 0 0] 25)) (.slice a0 c.length c0) (.slice a1 l.length c1) c l listed a W → (∀ i, i < 10 → listed.getD i false = true) → ∃ x0 x1 y0 y1, Bs W (.slice x0 c.length y0) c ∧ Ws W (.slice x1 l.length y1) l ∧ Below w.heap.size w W ∧ W.cell? ⟨w.heap.size + 1, 0, none⟩ = some (.slice x0 c.length y0) ∧ W.cell? ⟨w.heap.size + 1, 1, none⟩ = some (.slice x1 l.length y1)) := fun {listed a W} hI hall => by
    obtain ⟨x0, y0, f0, b0, -⟩ := hI.each 0 3 (by omega) (by omega) (hall 3 (by omega))
    obtain ⟨x1, y1, f1, b1, -⟩ := hI.each 1 3 (by omega) (by omega) (hall 7 (by omega))
    obtain ⟨g0, g1, g2⟩ := hI.fin (hall 9 (by omega))
    rw [f0] at b0
    rw [f1] at b1
    exact ⟨x0, x1, y0, y1, b0, b1, g0, by rw [g1]; exact congrArg some f0, by rw [g2]; exact congrArg some f1⟩
  go_enter Try.func10, Try.ntmps10
  go_wp2_with fail
  rename_i K hKK
  refine wp_region_inv (by kernel_rfl) (Cp8 w (w.heap.size + 2) ((w.alloc (Obj.cells #[.slice a0 c.length c0, .slice a1 l.length c1] 25)).alloc (Obj.cells #[.slice none 0 0, .slice none 0 0] 25)) (.slice a0 c.length c0) (.slice a1 l.length c1) c l) (by decide +kernel) ?_ ?_ ?_
  · intro listed a W i o hsz hI ho hun haft
    have hi : i < 10 := (Array.getElem?_eq_some_iff.1 ho).1
    have hW : ∀ i, i < 9 → listed.getD i true = false → Below (w.heap.size + 2) ((w.alloc (Obj.cells #[.slice a0 c.length c0, .slice a1 l.length c1] 25)).alloc (Obj.cells #[.slice none 0 0, .slice none 0 0] 25)) W ∧ w.heap.size + 2 ≤ W.heap.size := fun i hi hun => by
      have := hI.bel (hI.open9 hsz hi hun)
      exact ⟨this, by have := this.size; rw [hs2] at this; exact this⟩
    have hcs : i = 0 ∨ i = 1 ∨ i = 2 ∨ i = 3 ∨ i = 4 ∨ i = 5 ∨ i = 6 ∨ i = 7 ∨ i = 8 ∨ i = 9 := by omega
    rcases hcs with rfl | rfl | rfl | rfl | rfl | rfl | rfl | rfl | rfl | rfl
    · obtain ⟨hop, hdst, hg⟩ : o.op = .buildSlice 22 0 #[] ∧ o.dst = some 3 ∧ o.guard = none := by cases ho; exact ⟨rfl, rfl, rfl⟩
      refine wpOp_run ho hg (run_op8_slice hop) ?_
      rw [hdst]
      exact hI.step hsz (i := 0) (by omega) hun _ (hW 0 (by omega) hun).2 ((Below.refl _ _).alloc (Nat.le_refl _) _) (fun k' r' hk' hr' e => by
        obtain ⟨rfl, rfl⟩ : k' = 0 ∧ r' = 0 := by omega
        exact ⟨_, rfl⟩) (fun e => by omega) (fun e => by omega)
    · obtain ⟨hop, hdst, hg⟩ : o.op = .fieldAddr 25 (.tmp 1) 0 ∧ o.dst = some 4 ∧ o.guard = none := by cases ho; exact ⟨rfl, rfl, rfl⟩
      refine wpOp_run ho hg (run_op8_field (by omega) hop hI.t1) ?_
      rw [hdst]
      exact hI.step hsz (i := 1) (by omega) hun _ (hW 1 (by omega) hun).2 (Below.refl _ _) (fun k' r' hk' hr' e => by
        obtain ⟨rfl, rfl⟩ : k' = 0 ∧ r' = 1 := by omega
        exact rfl) (fun e => by omega) (fun e => by omega)
    · obtain ⟨hop, hdst, hg⟩ : o.op = .load 22 (.tmp 4) ∧ o.dst = some 5 ∧ o.guard = none := by cases ho; exact ⟨rfl, rfl, rfl⟩
      have e1 : listed.getD 1 false = true := haft ⟨1, .data⟩ (by cases ho; simp) rfl
      have f1 : a.tmps.getD 4 undef = .pointer (some ⟨w.heap.size, 0, none⟩) := hI.each 0 1 (by omega) (by omega) e1
      refine wpOp_run ho hg (run_op8_load hop f1 (hcell W (hW 2 (by omega) hun).1).1) ?_
      rw [hdst]
      exact hI.step hsz (i := 2) (by omega) hun _ (hW 2 (by omega) hun).2 (Below.refl _ _) (fun k' r' hk' hr' e => by
        obtain ⟨rfl, rfl⟩ : k' = 0 ∧ r' = 2 := by omega
        exact rfl) (fun e => by omega) (fun e => by omega)
    · obtain ⟨hop, hdst, hg⟩ : o.op = .call { callee := .builtin .append, args := #[.tmp 3, .tmp 5], argTypes := #[22, 22] } ∧ o.dst = some 6 ∧ o.guard = none := by cases ho; exact ⟨rfl, rfl, rfl⟩
      have e1 : listed.getD 0 false = true := haft ⟨0, .data⟩ (by cases ho; simp) rfl
      have e2 : listed.getD 2 false = true := haft ⟨2, .data⟩ (by cases ho; simp) rfl
      obtain ⟨g, f1⟩ : ∃ g, a.tmps.getD 3 undef = .slice (some ⟨g, 0, none⟩) 0 0 := hI.each 0 0 (by omega) (by omega) e1
      have f2 : a.tmps.getD 5 undef = .slice a0 c.length c0 := hI.each 0 2 (by omega) (by omega) e2
      obtain ⟨x, d, w', hr, hb, hbel, hfr⟩ := run_append_none (P := Try.prog) W 22 o.type 5 i0 _ Try.underlying22 hi0 hz0 hz1 rfl hz2 g (hBs W (hW 3 (by omega) hun).1) (by omega)
      refine wpOp_run ho hg (run_op8_append hop f1 f2 hr) ?_
      rw [hdst]
      exact hI.step hsz (i := 3) (by omega) hun _ (hW 3 (by omega) hun).2 hbel (fun k' r' hk' hr' e => by
        obtain ⟨rfl, rfl⟩ : k' = 0 ∧ r' = 3 := by omega
        exact ⟨x, d, rfl, hb, fun hne j hj => by have := hfr hne j hj; have := (hW 3 (by omega) hun).2; omega⟩) (fun e => by omega) (fun e => by omega)
    · obtain ⟨hop, hdst, hg⟩ : o.op = .buildSlice 23 0 #[] ∧ o.dst = some 7 ∧ o.guard = none := by cases ho; exact ⟨rfl, rfl, rfl⟩
      refine wpOp_run ho hg (run_op8_sliceR hop) ?_
      rw [hdst]
      exact hI.step hsz (i := 4) (by omega) hun _ (hW 4 (by omega) hun).2 ((Below.refl _ _).alloc (Nat.le_refl _) _) (fun k' r' hk' hr' e => by
        obtain ⟨rfl, rfl⟩ : k' = 1 ∧ r' = 0 := by omega
        exact ⟨_, rfl⟩) (fun e => by omega) (fun e => by omega)
    · obtain ⟨hop, hdst, hg⟩ : o.op = .fieldAddr 25 (.tmp 1) 1 ∧ o.dst = some 8 ∧ o.guard = none := by cases ho; exact ⟨rfl, rfl, rfl⟩
      refine wpOp_run ho hg (run_op8_field (by omega) hop hI.t1) ?_
      rw [hdst]
      exact hI.step hsz (i := 5) (by omega) hun _ (hW 5 (by omega) hun).2 (Below.refl _ _) (fun k' r' hk' hr' e => by
        obtain ⟨rfl, rfl⟩ : k' = 1 ∧ r' = 1 := by omega
        exact rfl) (fun e => by omega) (fun e => by omega)
    · obtain ⟨hop, hdst, hg⟩ : o.op = .load 23 (.tmp 8) ∧ o.dst = some 9 ∧ o.guard = none := by cases ho; exact ⟨rfl, rfl, rfl⟩
      have e1 : listed.getD 5 false = true := haft ⟨5, .data⟩ (by cases ho; simp) rfl
      have f1 : a.tmps.getD 8 undef = .pointer (some ⟨w.heap.size, 1, none⟩) := hI.each 1 1 (by omega) (by omega) e1
      refine wpOp_run ho hg (run_op8_loadR hop f1 (hcell W (hW 6 (by omega) hun).1).2) ?_
      rw [hdst]
      exact hI.step hsz (i := 6) (by omega) hun _ (hW 6 (by omega) hun).2 (Below.refl _ _) (fun k' r' hk' hr' e => by
        obtain ⟨rfl, rfl⟩ : k' = 1 ∧ r' = 2 := by omega
        exact rfl) (fun e => by omega) (fun e => by omega)
    · obtain ⟨hop, hdst, hg⟩ : o.op = .call { callee := .builtin .append, args := #[.tmp 7, .tmp 9], argTypes := #[23, 23] } ∧ o.dst = some 10 ∧ o.guard = none := by cases ho; exact ⟨rfl, rfl, rfl⟩
      have e1 : listed.getD 4 false = true := haft ⟨4, .data⟩ (by cases ho; simp) rfl
      have e2 : listed.getD 6 false = true := haft ⟨6, .data⟩ (by cases ho; simp) rfl
      obtain ⟨g, f1⟩ : ∃ g, a.tmps.getD 7 undef = .slice (some ⟨g, 0, none⟩) 0 0 := hI.each 1 0 (by omega) (by omega) e1
      have f2 : a.tmps.getD 9 undef = .slice a1 l.length c1 := hI.each 1 2 (by omega) (by omega) e2
      obtain ⟨x, d, w', hr, hb, hbel, hfr⟩ := run_append_none8 W o.type g (hWs W (hW 7 (by omega) hun).1) (by omega)
      refine wpOp_run ho hg (run_op8_append hop f1 f2 hr) ?_
      rw [hdst]
      exact hI.step hsz (i := 7) (by omega) hun _ (hW 7 (by omega) hun).2 hbel (fun k' r' hk' hr' e => by
        obtain ⟨rfl, rfl⟩ : k' = 1 ∧ r' = 3 := by omega
        exact ⟨x, d, rfl, hb, fun hne j hj => by have := hfr hne j hj; have := (hW 7 (by omega) hun).2; omega⟩) (fun e => by omega) (fun e => by omega)
    · obtain ⟨hop, hdst, hg⟩ : o.op = .build 25 #[(0, .tmp 6), (1, .tmp 10)] ∧ o.dst = some 11 ∧ o.guard = none := by cases ho; exact ⟨rfl, rfl, rfl⟩
      have e0 : listed.getD 3 false = true := haft ⟨3, .data⟩ (by cases ho; simp) rfl
      have e1 : listed.getD 7 false = true := haft ⟨7, .data⟩ (by cases ho; simp) rfl
      obtain ⟨x0, y0, f0, -⟩ := hI.each 0 3 (by omega) (by omega) e0
      obtain ⟨x1, y1, f1, -⟩ := hI.each 1 3 (by omega) (by omega) e1
      refine wpOp_run ho hg (run_op8_build hop f0 f1) ?_
      rw [hdst]
      exact hI.step hsz (i := 8) (by omega) hun _ (hW 8 (by omega) hun).2 (Below.refl _ _) (fun k' r' hk' hr' e => by omega) (fun _ => ⟨e0, e1⟩) (fun _ => by rw [← f0, ← f1])
    · obtain ⟨hop, hdst, hg⟩ : o.op = .store 25 (.tmp 2) (.tmp 11) ∧ o.dst = none ∧ o.guard = none := by cases ho; exact ⟨rfl, rfl, rfl⟩
      have hall : ∀ j, j < 9 → listed.getD j false = true := fun j hj => by
        have hcs : j = 0 ∨ j = 1 ∨ j = 2 ∨ j = 3 ∨ j = 4 ∨ j = 5 ∨ j = 6 ∨ j = 7 ∨ j = 8 := by omega
        rcases hcs with rfl | rfl | rfl | rfl | rfl | rfl | rfl | rfl | rfl
        all_goals exact haft ⟨_, .phase⟩ (by cases ho; simp) rfl
      have hlt : 9 < listed.size := by rw [hsz]; exact (by decide : 9 < 10)
      have hf9 : listed.getD 9 false = false := by simp [Array.getD, hlt] at hun ⊢; exact hun
      have hB := hI.bel hf9
      have hBs' := hB.size
      rw [hs2] at hBs'
      have hres := hg2.below hB (by omega)
      obtain ⟨x0, y0, f0, -⟩ := hI.each 0 3 (by omega) (by omega) (hall 3 (by omega))
      obtain ⟨x1, y1, f1, -⟩ := hI.each 1 3 (by omega) (by omega) (hall 7 (by omega))
      have h11 : a.tmps.getD 11 undef = .agg #[.slice x0 c.length y0, .slice x1 l.length y1] := by
        rw [hI.bd (hall 8 (by omega)), ← f0, ← f1]
      refine wpOp_skip ho hg (run_op8_store hop hI.t2 h11 hres) ?_
      rw [hdst]
      have q0 : Onp [w.heap.size + 1] W ((W.setCell ⟨w.heap.size + 1, 0, none⟩ (.slice x0 c.length y0)).setCell ⟨w.heap.size + 1, 1, none⟩ (.slice x1 l.length y1)) := ((Onp.refl _ _).setCell (by simp) _ _).setCell (by simp) _ _
      have q1 := ((hres.set 0 (.slice x0 c.length y0)).set 1 (.slice x1 l.length y1)).cell
      have hset : ∀ j, j < 9 → (listed.setIfInBounds 9 true).getD j false = true := fun j hj => by rw [getD_set8 hlt, if_neg (by omega)]; exact hall j hj
      refine ⟨hI.sz, hI.df, hI.t1, hI.t2, fun _ => hset, fun _ => ⟨hset 3 (by omega), hset 7 (by omega)⟩, fun e => (by rw [getD_set8 hlt, if_pos rfl] at e; cases e), fun k r hk hr _ => (hI.each k r hk hr (hall _ (by omega))).only q0 (by omega), fun _ => hI.bd (hall 8 (by omega)), fun _ => ⟨((hb2.trans (hB.mono (by omega))).setCell (by show w.heap.size ≤ w.heap.size + 1; omega) _).setCell (by show w.heap.size ≤ w.heap.size + 1; omega) _, ?_, ?_⟩⟩
      · rw [q1]; exact congrArg some f0.symm
      · rw [q1]; exact congrArg some f1.symm
  · intro listed a W hI hall
    obtain ⟨x0, x1, y0, y1, g0, g1, g2, g3, g4⟩ := HK.out hI hall
    refine hKK a W ?_
    have ht2' : a.tmps[2]?.getD undef = .pointer (some ⟨w.heap.size + 1, 0, none⟩) := by rw [← hI.t2]; simp
    refine wp_ret ?_
    exact bodyPost_ret (v := .agg #[.slice x0 c.length y0, .slice x1 l.length y1]) (by simp [results, Try.results10, go_sem, ht2', hI.t2, g3, g4]) hI.df ⟨x0, x1, y0, y1, rfl, g0, g1, g2⟩
  · have hno : ∀ j, (Array.replicate 10 false).getD j false = false := fun j => by
      simp only [Array.getD]
      split <;> simp
    refine ⟨rfl, rfl, rfl, rfl, fun e => ?_, fun e => ?_, fun _ => Below.drewN (Below.refl _ _) 1, fun k r _ _ e => ?_, fun e => ?_, fun e => ?_⟩
    all_goals (have := hno; simp only [List.size_toArray, List.length_cons, List.length_nil, Nat.zero_add, Nat.reduceAdd] at e; rw [hno] at e; cases e)

end Go.Proofs.Ytfgjlljbpcombaa
