
/- copied of the statements. -/
import Derived.Test.YtbehcdpjpjklfaaRows
import Derived.Test.YtbehcdpjpjklfaaParts
import Derived.Test.YtbehcdpjpjklfaaOrders3
import Derived.Test.YtbehcdpjpjklfaaSplit3
namespace Go.Proofs.Ytbehcdpjpjklfaa
set_option linter.unusedVariables false
set_option linter.unusedSimpArgs false
open Go.RowKit Go.Maps

/-- What the k-th stream's r-th step has left. -/
def CF (bx top : Nat) (p0 p1 p2 p3 : Value) (s : Strm) (k r : Nat) (u : Value) (w : World) : Prop :=
  match r with
  | 0 => ∃ g, u = .slice (some ⟨g, 0, none⟩) 0 0
  | 1 => u = .pointer (some ⟨bx, k, none⟩)
  | 2 => u = pickV k p0 p1 p2 p3
  | _ => ∃ x c, u = .slice x (s.part k).length c ∧ Bs w u (s.part k) ∧ (s.part k ≠ [] → ∀ j, u.ownBlock = some j → top ≤ j)
theorem CF.later {bx top : Nat} {p0 p1 p2 p3 : Value} {s : Strm} {k r : Nat} {u : Value} {w w' : World} (h : CF bx top p0 p1 p2 p3 s k r u w) (hb : Below w.heap.size w w') : CF bx top p0 p1 p2 p3 s k r u w' := by
  match r with
  | 0 => exact h
  | 1 => exact h
  | 2 => exact h
  | _ + 3 =>
    obtain ⟨x, c, h1, h2, h3⟩ := h
    exact ⟨x, c, h1, h2.later hb, h3⟩

theorem CF.only {bx top g : Nat} {p0 p1 p2 p3 : Value} {s : Strm} {k r : Nat} {u : Value} {w w' : World} (h : CF bx top p0 p1 p2 p3 s k r u w) (ho : Only g w w') (hg : g < top) : CF bx top p0 p1 p2 p3 s k r u w' := by
  match r with
  | 0 => exact h
  | 1 => exact h
  | 2 => exact h
  | _ + 3 =>
    obtain ⟨x, c, h1, h2, h3⟩ := h
    exact ⟨x, c, h1, h2.only ho fun hne e => by have := h3 hne _ e; omega, h3⟩

theorem getD_set {l : Array Bool} {i j : Nat} (hi : i < l.size) : (l.setIfInBounds i true).getD j false = if i = j then true else l.getD j false := by
  by_cases e : i = j
  · subst e; simp [Array.getD, hi]
  · rw [if_neg e]; exact getD_set_ne false e

/-- What holds while the four are copied, in whatever order. -/
structure Cp (w0 : World) (top : Nat) (W2 : World) (p0 p1 p2 p3 : Value) (s : Strm) (listed : Array Bool) (a : Act) (w : World) : Prop where
  sz : a.tmps.size = 20
  df : a.defers = []
  t1 : a.tmps.getD 1 undef = .pointer (some ⟨w0.heap.size, 0, none⟩)
  t2 : a.tmps.getD 2 undef = .pointer (some ⟨w0.heap.size + 1, 0, none⟩)
  c17 : listed.getD 17 false = true → ∀ j, j < 17 → listed.getD j false = true
  c16 : listed.getD 16 false = true → listed.getD 3 false = true ∧ listed.getD 7 false = true ∧ listed.getD 11 false = true ∧ listed.getD 15 false = true
  bel : listed.getD 17 false = false → Below top W2 w
  each : ∀ k r, k < 4 → r < 4 → listed.getD (4 * k + r) false = true → CF w0.heap.size top p0 p1 p2 p3 s k r (a.tmps.getD (4 * k + r + 3) undef) w
  bd : listed.getD 16 false = true → a.tmps.getD 19 undef = .agg #[a.tmps.getD 6 undef, a.tmps.getD 10 undef, a.tmps.getD 14 undef, a.tmps.getD 18 undef]
  fin : listed.getD 17 false = true → Below w0.heap.size w0 w ∧ w.cell? ⟨w0.heap.size + 1, 0, none⟩ = some (a.tmps.getD 6 undef) ∧ w.cell? ⟨w0.heap.size + 1, 1, none⟩ = some (a.tmps.getD 10 undef) ∧ w.cell? ⟨w0.heap.size + 1, 2, none⟩ = some (a.tmps.getD 14 undef) ∧ w.cell? ⟨w0.heap.size + 1, 3, none⟩ = some (a.tmps.getD 18 undef)

theorem Cp.open17 {w0 : World} {top : Nat} {W2 : World} {p0 p1 p2 p3 : Value} {s : Strm} {listed : Array Bool} {a : Act} {w : World} (h : Cp w0 top W2 p0 p1 p2 p3 s listed a w) (hsz : listed.size = 18) {i : Nat} (hi : i < 17) (hun : listed.getD i true = false) : listed.getD 17 false = false := by
  cases h17 : listed.getD 17 false with
  | false => rfl
  | true =>
    have := h.c17 h17 i hi
    have hlt : i < listed.size := by omega
    simp [Array.getD, hlt] at this hun
    rw [this] at hun; cases hun

theorem Cp.step {w0 : World} {top : Nat} {W2 : World} {p0 p1 p2 p3 : Value} {s : Strm} {listed : Array Bool} {a : Act} {w w' : World} (h : Cp w0 top W2 p0 p1 p2 p3 s listed a w) (hsz : listed.size = 18) {i : Nat} (hi : i < 17) (hun : listed.getD i true = false) (v : Value) (htop : top ≤ w.heap.size) (hb : Below w.heap.size w w')
    (hnew : ∀ k r, k < 4 → r < 4 → i = 4 * k + r → CF w0.heap.size top p0 p1 p2 p3 s k r v w') (h16 : i = 16 → listed.getD 3 false = true ∧ listed.getD 7 false = true ∧ listed.getD 11 false = true ∧ listed.getD 15 false = true) (hbd : i = 16 → v = .agg #[a.tmps.getD 6 undef, a.tmps.getD 10 undef, a.tmps.getD 14 undef, a.tmps.getD 18 undef]) : Cp w0 top W2 p0 p1 p2 p3 s (listed.setIfInBounds i true) (a.put (some (i + 3)) v) w' := by
  have h17 := h.open17 hsz hi hun
  have hlt : i < listed.size := by omega
  have h17' : (listed.setIfInBounds i true).getD 17 false = false := by rw [getD_set hlt, if_neg (by omega)]; exact h17
  have hne : ∀ t, t ≠ i + 3 → (a.put (some (i + 3)) v).tmps.getD t undef = a.tmps.getD t undef := fun t ht => eval_put_ne (Ne.symm ht)
  have hsame : (a.put (some (i + 3)) v).tmps.getD (i + 3) undef = v := eval_put_same (by rw [h.sz]; omega)
  refine ⟨by rw [size_put]; exact h.sz, by simp [Act.put, h.df], by rw [hne 1 (by omega)]; exact h.t1, by rw [hne 2 (by omega)]; exact h.t2, fun e => (by rw [h17'] at e; cases e), fun hl => ?_, fun _ => (h.bel h17).trans (hb.mono htop), fun k r hk hr hl => ?_, fun hl => ?_, fun e => (by rw [h17'] at e; cases e)⟩
  · rw [getD_set hlt] at hl
    have key : listed.getD 3 false = true ∧ listed.getD 7 false = true ∧ listed.getD 11 false = true ∧ listed.getD 15 false = true := by
      by_cases e : i = 16
      · exact h16 e
      · rw [if_neg e] at hl; exact h.c16 hl
    refine ⟨?_, ?_, ?_, ?_⟩ <;> rw [getD_set hlt] <;> split <;> first | rfl | exact key.1 | exact key.2.1 | exact key.2.2.1 | exact key.2.2.2
  · rw [getD_set hlt] at hl
    by_cases e : i = 4 * k + r
    · subst e; rw [hsame]; exact hnew k r hk hr rfl
    · rw [if_neg e] at hl
      rw [hne _ (by omega)]
      exact (h.each k r hk hr hl).later hb
  · rw [getD_set hlt] at hl
    by_cases e : i = 16
    · subst e
      rw [hsame, hne 6 (by omega), hne 10 (by omega), hne 14 (by omega), hne 18 (by omega)]
      exact hbd rfl
    · rw [if_neg e] at hl
      obtain ⟨k1, k2, k3, k4⟩ := h.c16 hl
      have hnl : ∀ j, listed.getD j false = true → i ≠ j := fun j hj e' => by
        subst e'
        simp [Array.getD, hlt] at hj hun
        rw [hj] at hun; cases hun
      have n1 := hnl 3 k1
      have n2 := hnl 7 k2
      have n3 := hnl 11 k3
      have n4 := hnl 15 k4
      rw [hne 19 (by omega), hne 6 (by omega), hne 10 (by omega), hne 14 (by omega), hne 18 (by omega)]
      exact h.bd hl

theorem run_op_slice {o : Oper} {a : Act} {w : World} (hop : o.op = .buildSlice 22 0 #[]) : (execOp a.eval o).run Try.prog w = .ok (.value (.slice (some ⟨w.heap.size, 0, none⟩) 0 0)) (w.alloc (Obj.cells #[] 5)) := by
  unfold execOp
  simp [hop, go_sem]
theorem run_op_field {o : Oper} {a : Act} {w : World} {b k : Nat} (hk : k < 4) (hop : o.op = .fieldAddr 25 (.tmp 1) k) (h1 : a.tmps.getD 1 undef = .pointer (some ⟨b, 0, none⟩)) : (execOp a.eval o).run Try.prog w = .ok (.value (.pointer (some ⟨b, k, none⟩))) w := by
  unfold execOp
  rcases four_cases hk with rfl | rfl | rfl | rfl <;> simp [hop, go_sem, Act.eval, h1]
theorem run_op_load {o : Oper} {a : Act} {w : World} {d b k l c : Nat} {x : Option Addr} (hop : o.op = .load 22 (.tmp d)) (h1 : a.tmps.getD d undef = .pointer (some ⟨b, k, none⟩)) (hc : w.cell? ⟨b, k, none⟩ = some (.slice x l c)) : (execOp a.eval o).run Try.prog w = .ok (.value (.slice x l c)) w := by
  unfold execOp
  simp [hop, go_sem, Act.eval, h1, hc]
theorem run_op_append {o : Oper} {a : Act} {w w' : World} {d d' : Nat} {x y v : Value} (hop : o.op = .call { callee := .builtin .append, args := #[.tmp d, .tmp d'], argTypes := #[22, 22] }) (h1 : a.tmps.getD d undef = x) (h2 : a.tmps.getD d' undef = y) (hr : (Builtin.append_ #[22, 22] o.type #[x, y]).run Try.prog w = .ok v w') : (execOp a.eval o).run Try.prog w = .ok (.value v) w' := by
  unfold execOp
  simp only [hop, resolve, invoke, builtin, Sem.run_bind, Sem.run_pure, Result.andThen_ok, List.map_toArray, List.map_cons, List.map_nil, Act.eval, h1, h2, hr]
theorem run_op_build {o : Oper} {a : Act} {w : World} {x0 x1 x2 x3 : Option Addr} {l0 l1 l2 l3 c0 c1 c2 c3 : Nat} (hop : o.op = .build 25 #[(0, .tmp 6), (1, .tmp 10), (2, .tmp 14), (3, .tmp 18)]) (h0 : a.tmps.getD 6 undef = .slice x0 l0 c0) (h1 : a.tmps.getD 10 undef = .slice x1 l1 c1) (h2 : a.tmps.getD 14 undef = .slice x2 l2 c2) (h3 : a.tmps.getD 18 undef = .slice x3 l3 c3) : (execOp a.eval o).run Try.prog w = .ok (.value (.agg #[.slice x0 l0 c0, .slice x1 l1 c1, .slice x2 l2 c2, .slice x3 l3 c3])) w := by
  have h0' : a.tmps[6]?.getD undef = .slice x0 l0 c0 := by rw [← h0]; simp
  have h1' : a.tmps[10]?.getD undef = .slice x1 l1 c1 := by rw [← h1]; simp
  have h2' : a.tmps[14]?.getD undef = .slice x2 l2 c2 := by rw [← h2]; simp
  have h3' : a.tmps[18]?.getD undef = .slice x3 l3 c3 := by rw [← h3]; simp
  unfold execOp
  simp [hop, go_sem, Act.eval, h0', h1', h2', h3']
theorem run_op_store {o : Oper} {a : Act} {w : World} {g : Nat} {x0 x1 x2 x3 : Option Addr} {l0 l1 l2 l3 c0 c1 c2 c3 : Nat} (hop : o.op = .store 25 (.tmp 2) (.tmp 19)) (h2 : a.tmps.getD 2 undef = .pointer (some ⟨g, 0, none⟩)) (h19 : a.tmps.getD 19 undef = .agg #[.slice x0 l0 c0, .slice x1 l1 c1, .slice x2 l2 c2, .slice x3 l3 c3]) {y0 y1 y2 y3 : Value} {t : TypeId} (hg : w.heap[g]? = some (Obj.cells #[y0, y1, y2, y3] t (0, 0))) : (execOp a.eval o).run Try.prog w = .ok .skip ((((w.setCell ⟨g, 0, none⟩ (.slice x0 l0 c0)).setCell ⟨g, 1, none⟩ (.slice x1 l1 c1)).setCell ⟨g, 2, none⟩ (.slice x2 l2 c2)).setCell ⟨g, 3, none⟩ (.slice x3 l3 c3)) := by
  have k0 : w.cell? ⟨g, 0, none⟩ = some y0 := by simp [World.cell?, hg]
  have k1 : w.cell? ⟨g, 1, none⟩ = some y1 := by simp [World.cell?, hg]
  have k2 : w.cell? ⟨g, 2, none⟩ = some y2 := by simp [World.cell?, hg]
  have k3 : w.cell? ⟨g, 3, none⟩ = some y3 := by simp [World.cell?, hg]
  have z0 : w.frozen? ⟨g, 0, none⟩ = false := by simp [World.frozen?, hg]
  have z1 : w.frozen? ⟨g, 1, none⟩ = false := by simp [World.frozen?, hg]
  have z2 : w.frozen? ⟨g, 2, none⟩ = false := by simp [World.frozen?, hg]
  have z3 : w.frozen? ⟨g, 3, none⟩ = false := by simp [World.frozen?, hg]
  unfold execOp
  simp [hop, go_sem, Act.eval, h2, h19, k0, k1, k2, k3, z0, z1, z2, z3]

theorem copied_any {v : Value} {s : Strm} {w : World} (hv : Sv w v s) (hl : ∀ k, (s.part k).length ≤ 4000) :
    Calls Try.prog 15 #[v] w fun e w' => ∃ x0 x1 x2 x3 y0 y1 y2 y3, e = .returned (.agg #[.slice x0 s.r.length y0, .slice x1 s.n.length y1, .slice x2 s.b.length y2, .slice x3 s.c.length y3]) ∧ Sv w' (.agg #[.slice x0 s.r.length y0, .slice x1 s.n.length y1, .slice x2 s.b.length y2, .slice x3 s.c.length y3]) s ∧ Below w.heap.size w w' := by
  obtain ⟨p0, p1, p2, p3, rfl, h0, h1, h2, h3⟩ := hv
  have HP : ∀ k, Bs w (pickV k p0 p1 p2 p3) (s.part k) := fun k => pickV_bs h0 h1 h2 h3 k
  obtain ⟨a0, c0, rfl, -⟩ := h0
  obtain ⟨a1, c1, rfl, -⟩ := h1
  obtain ⟨a2, c2, rfl, -⟩ := h2
  obtain ⟨a3, c3, rfl, -⟩ := h3
  have HL := hl
  clear hl
  obtain ⟨i0, hi0, hz0, hz1, hz2⟩ := info_parts Try.infoU8
  have hb2 : Below w.heap.size w ((w.alloc (Obj.cells #[.slice a0 s.r.length c0, .slice a1 s.n.length c1, .slice a2 s.b.length c2, .slice a3 s.c.length c3] 25)).alloc (Obj.cells #[.slice none 0 0, .slice none 0 0, .slice none 0 0, .slice none 0 0] 25)) := ((Below.refl _ _).alloc (Nat.le_refl _) _).alloc (by simp) _
  have hs2 : ((w.alloc (Obj.cells #[.slice a0 s.r.length c0, .slice a1 s.n.length c1, .slice a2 s.b.length c2, .slice a3 s.c.length c3] 25)).alloc (Obj.cells #[.slice none 0 0, .slice none 0 0, .slice none 0 0, .slice none 0 0] 25)).heap.size = w.heap.size + 2 := by simp
  have hg1 : ((w.alloc (Obj.cells #[.slice a0 s.r.length c0, .slice a1 s.n.length c1, .slice a2 s.b.length c2, .slice a3 s.c.length c3] 25)).alloc (Obj.cells #[.slice none 0 0, .slice none 0 0, .slice none 0 0, .slice none 0 0] 25)).heap[w.heap.size]? = some (Obj.cells #[.slice a0 s.r.length c0, .slice a1 s.n.length c1, .slice a2 s.b.length c2, .slice a3 s.c.length c3] 25 (0, 0)) := by
    rw [heap_alloc_old _ _ (by simp)]; exact heap_alloc_new w _
  have hg2 : ((w.alloc (Obj.cells #[.slice a0 s.r.length c0, .slice a1 s.n.length c1, .slice a2 s.b.length c2, .slice a3 s.c.length c3] 25)).alloc (Obj.cells #[.slice none 0 0, .slice none 0 0, .slice none 0 0, .slice none 0 0] 25)).heap[w.heap.size + 1]? = some (Obj.cells #[.slice none 0 0, .slice none 0 0, .slice none 0 0, .slice none 0 0] 25 (0, 0)) := by
    have := heap_alloc_new (w.alloc (Obj.cells #[.slice a0 s.r.length c0, .slice a1 s.n.length c1, .slice a2 s.b.length c2, .slice a3 s.c.length c3] 25)) (Obj.cells #[.slice none 0 0, .slice none 0 0, .slice none 0 0, .slice none 0 0] 25)
    simpa using this
  have hcell : ∀ W, Below (w.heap.size + 2) ((w.alloc (Obj.cells #[.slice a0 s.r.length c0, .slice a1 s.n.length c1, .slice a2 s.b.length c2, .slice a3 s.c.length c3] 25)).alloc (Obj.cells #[.slice none 0 0, .slice none 0 0, .slice none 0 0, .slice none 0 0] 25)) W → W.cell? ⟨w.heap.size, 0, none⟩ = some (.slice a0 s.r.length c0) ∧ W.cell? ⟨w.heap.size, 1, none⟩ = some (.slice a1 s.n.length c1) ∧ W.cell? ⟨w.heap.size, 2, none⟩ = some (.slice a2 s.b.length c2) ∧ W.cell? ⟨w.heap.size, 3, none⟩ = some (.slice a3 s.c.length c3) := fun W hW => by
    have := (hW.block w.heap.size (by omega)).trans hg1
    refine ⟨?_, ?_, ?_, ?_⟩ <;> simp [World.cell?, this]
  have hBs : ∀ k W, Below (w.heap.size + 2) ((w.alloc (Obj.cells #[.slice a0 s.r.length c0, .slice a1 s.n.length c1, .slice a2 s.b.length c2, .slice a3 s.c.length c3] 25)).alloc (Obj.cells #[.slice none 0 0, .slice none 0 0, .slice none 0 0, .slice none 0 0] 25)) W → Bs W (pickV k (.slice a0 s.r.length c0) (.slice a1 s.n.length c1) (.slice a2 s.b.length c2) (.slice a3 s.c.length c3)) (s.part k) := fun k W hW => (HP k).later (hb2.trans (hW.mono (by omega)))
  have HK : Hid (∀ {listed : Array Bool} {a : Act} {W : World}, Cp w (w.heap.size + 2) ((w.alloc (Obj.cells #[.slice a0 s.r.length c0, .slice a1 s.n.length c1, .slice a2 s.b.length c2, .slice a3 s.c.length c3] 25)).alloc (Obj.cells #[.slice none 0 0, .slice none 0 0, .slice none 0 0, .slice none 0 0] 25)) (.slice a0 s.r.length c0) (.slice a1 s.n.length c1) (.slice a2 s.b.length c2) (.slice a3 s.c.length c3) s listed a W → (∀ i, i < 18 → listed.getD i false = true) → ∃ x0 x1 x2 x3 y0 y1 y2 y3, Sv W (.agg #[.slice x0 s.r.length y0, .slice x1 s.n.length y1, .slice x2 s.b.length y2, .slice x3 s.c.length y3]) s ∧ Below w.heap.size w W ∧ W.cell? ⟨w.heap.size + 1, 0, none⟩ = some (.slice x0 s.r.length y0) ∧ W.cell? ⟨w.heap.size + 1, 1, none⟩ = some (.slice x1 s.n.length y1) ∧ W.cell? ⟨w.heap.size + 1, 2, none⟩ = some (.slice x2 s.b.length y2) ∧ W.cell? ⟨w.heap.size + 1, 3, none⟩ = some (.slice x3 s.c.length y3)) := fun {listed a W} hI hall => by
    obtain ⟨x0, y0, f0, b0, -⟩ := hI.each 0 3 (by omega) (by omega) (hall 3 (by omega))
    obtain ⟨x1, y1, f1, b1, -⟩ := hI.each 1 3 (by omega) (by omega) (hall 7 (by omega))
    obtain ⟨x2, y2, f2, b2, -⟩ := hI.each 2 3 (by omega) (by omega) (hall 11 (by omega))
    obtain ⟨x3, y3, f3, b3, -⟩ := hI.each 3 3 (by omega) (by omega) (hall 15 (by omega))
    obtain ⟨g0, g1, g2, g3, g4⟩ := hI.fin (hall 17 (by omega))
    rw [f0] at b0
    rw [f1] at b1
    rw [f2] at b2
    rw [f3] at b3
    exact ⟨x0, x1, x2, x3, y0, y1, y2, y3, ⟨_, _, _, _, rfl, b0, b1, b2, b3⟩, g0, by rw [g1]; exact congrArg some f0, by rw [g2]; exact congrArg some f1, by rw [g3]; exact congrArg some f2, by rw [g4]; exact congrArg some f3⟩
  go_enter Try.func15, Try.ntmps15
  go_wp2_with fail
  rename_i K hKK
  refine wp_region_inv (by kernel_rfl) (Cp w (w.heap.size + 2) ((w.alloc (Obj.cells #[.slice a0 s.r.length c0, .slice a1 s.n.length c1, .slice a2 s.b.length c2, .slice a3 s.c.length c3] 25)).alloc (Obj.cells #[.slice none 0 0, .slice none 0 0, .slice none 0 0, .slice none 0 0] 25)) (.slice a0 s.r.length c0) (.slice a1 s.n.length c1) (.slice a2 s.b.length c2) (.slice a3 s.c.length c3) s) (by decide +kernel) ?_ ?_ ?_
  · intro listed a W i o hsz hI ho hun haft
    have hi : i < 18 := (Array.getElem?_eq_some_iff.1 ho).1
    have hW : ∀ i, i < 17 → listed.getD i true = false → Below (w.heap.size + 2) ((w.alloc (Obj.cells #[.slice a0 s.r.length c0, .slice a1 s.n.length c1, .slice a2 s.b.length c2, .slice a3 s.c.length c3] 25)).alloc (Obj.cells #[.slice none 0 0, .slice none 0 0, .slice none 0 0, .slice none 0 0] 25)) W ∧ w.heap.size + 2 ≤ W.heap.size := fun i hi hun => by
      have := hI.bel (hI.open17 hsz hi hun)
      exact ⟨this, by have := this.size; rw [hs2] at this; exact this⟩
    have hcs : i = 0 ∨ i = 1 ∨ i = 2 ∨ i = 3 ∨ i = 4 ∨ i = 5 ∨ i = 6 ∨ i = 7 ∨ i = 8 ∨ i = 9 ∨ i = 10 ∨ i = 11 ∨ i = 12 ∨ i = 13 ∨ i = 14 ∨ i = 15 ∨ i = 16 ∨ i = 17 := by omega
    rcases hcs with rfl | rfl | rfl | rfl | rfl | rfl | rfl | rfl | rfl | rfl | rfl | rfl | rfl | rfl | rfl | rfl | rfl | rfl
    · obtain ⟨hop, hdst, hg⟩ : o.op = .buildSlice 22 0 #[] ∧ o.dst = some 3 ∧ o.guard = none := by cases ho; exact ⟨rfl, rfl, rfl⟩
      refine wpOp_run ho hg (run_op_slice hop) ?_
      rw [hdst]
      exact hI.step hsz (i := 0) (by omega) hun _ (hW 0 (by omega) hun).2 ((Below.refl _ _).alloc (Nat.le_refl _) _) (fun k' r' hk' hr' e => by
        obtain ⟨rfl, rfl⟩ : k' = 0 ∧ r' = 0 := by omega
        exact ⟨_, rfl⟩) (fun e => by omega) (fun e => by omega)
    · obtain ⟨hop, hdst, hg⟩ : o.op = .fieldAddr 25 (.tmp 1) 0 ∧ o.dst = some 4 ∧ o.guard = none := by cases ho; exact ⟨rfl, rfl, rfl⟩
      refine wpOp_run ho hg (run_op_field (by omega) hop hI.t1) ?_
      rw [hdst]
      exact hI.step hsz (i := 1) (by omega) hun _ (hW 1 (by omega) hun).2 (Below.refl _ _) (fun k' r' hk' hr' e => by
        obtain ⟨rfl, rfl⟩ : k' = 0 ∧ r' = 1 := by omega
        exact rfl) (fun e => by omega) (fun e => by omega)
    · obtain ⟨hop, hdst, hg⟩ : o.op = .load 22 (.tmp 4) ∧ o.dst = some 5 ∧ o.guard = none := by cases ho; exact ⟨rfl, rfl, rfl⟩
      have e1 : listed.getD 1 false = true := haft ⟨1, .data⟩ (by cases ho; simp) rfl
      have f1 : a.tmps.getD 4 undef = .pointer (some ⟨w.heap.size, 0, none⟩) := hI.each 0 1 (by omega) (by omega) e1
      refine wpOp_run ho hg (run_op_load hop f1 (hcell W (hW 2 (by omega) hun).1).1) ?_
      rw [hdst]
      exact hI.step hsz (i := 2) (by omega) hun _ (hW 2 (by omega) hun).2 (Below.refl _ _) (fun k' r' hk' hr' e => by
        obtain ⟨rfl, rfl⟩ : k' = 0 ∧ r' = 2 := by omega
        exact rfl) (fun e => by omega) (fun e => by omega)
    · obtain ⟨hop, hdst, hg⟩ : o.op = .call { callee := .builtin .append, args := #[.tmp 3, .tmp 5], argTypes := #[22, 22] } ∧ o.dst = some 6 ∧ o.guard = none := by cases ho; exact ⟨rfl, rfl, rfl⟩
      have e1 : listed.getD 0 false = true := haft ⟨0, .data⟩ (by cases ho; simp) rfl
      have e2 : listed.getD 2 false = true := haft ⟨2, .data⟩ (by cases ho; simp) rfl
      obtain ⟨g, f1⟩ : ∃ g, a.tmps.getD 3 undef = .slice (some ⟨g, 0, none⟩) 0 0 := hI.each 0 0 (by omega) (by omega) e1
      have f2 : a.tmps.getD 5 undef = .slice a0 s.r.length c0 := hI.each 0 2 (by omega) (by omega) e2
      obtain ⟨x, c, w', hr, hb, hbel, hfr⟩ := run_append_none (P := Try.prog) W 22 o.type 5 i0 _ Try.underlying22 hi0 hz0 hz1 rfl hz2 g (hBs 0 W (hW 3 (by omega) hun).1) (by have := HL 0; omega)
      refine wpOp_run ho hg (run_op_append hop f1 f2 hr) ?_
      rw [hdst]
      exact hI.step hsz (i := 3) (by omega) hun _ (hW 3 (by omega) hun).2 hbel (fun k' r' hk' hr' e => by
        obtain ⟨rfl, rfl⟩ : k' = 0 ∧ r' = 3 := by omega
        exact ⟨x, c, rfl, hb, fun hne j hj => by have := hfr hne j hj; have := (hW 3 (by omega) hun).2; omega⟩) (fun e => by omega) (fun e => by omega)
    · obtain ⟨hop, hdst, hg⟩ : o.op = .buildSlice 22 0 #[] ∧ o.dst = some 7 ∧ o.guard = none := by cases ho; exact ⟨rfl, rfl, rfl⟩
      refine wpOp_run ho hg (run_op_slice hop) ?_
      rw [hdst]
      exact hI.step hsz (i := 4) (by omega) hun _ (hW 4 (by omega) hun).2 ((Below.refl _ _).alloc (Nat.le_refl _) _) (fun k' r' hk' hr' e => by
        obtain ⟨rfl, rfl⟩ : k' = 1 ∧ r' = 0 := by omega
        exact ⟨_, rfl⟩) (fun e => by omega) (fun e => by omega)
    · obtain ⟨hop, hdst, hg⟩ : o.op = .fieldAddr 25 (.tmp 1) 1 ∧ o.dst = some 8 ∧ o.guard = none := by cases ho; exact ⟨rfl, rfl, rfl⟩
      refine wpOp_run ho hg (run_op_field (by omega) hop hI.t1) ?_
      rw [hdst]
      exact hI.step hsz (i := 5) (by omega) hun _ (hW 5 (by omega) hun).2 (Below.refl _ _) (fun k' r' hk' hr' e => by
        obtain ⟨rfl, rfl⟩ : k' = 1 ∧ r' = 1 := by omega
        exact rfl) (fun e => by omega) (fun e => by omega)
    · obtain ⟨hop, hdst, hg⟩ : o.op = .load 22 (.tmp 8) ∧ o.dst = some 9 ∧ o.guard = none := by cases ho; exact ⟨rfl, rfl, rfl⟩
      have e1 : listed.getD 5 false = true := haft ⟨5, .data⟩ (by cases ho; simp) rfl
      have f1 : a.tmps.getD 8 undef = .pointer (some ⟨w.heap.size, 1, none⟩) := hI.each 1 1 (by omega) (by omega) e1
      refine wpOp_run ho hg (run_op_load hop f1 (hcell W (hW 6 (by omega) hun).1).2.1) ?_
      rw [hdst]
      exact hI.step hsz (i := 6) (by omega) hun _ (hW 6 (by omega) hun).2 (Below.refl _ _) (fun k' r' hk' hr' e => by
        obtain ⟨rfl, rfl⟩ : k' = 1 ∧ r' = 2 := by omega
        exact rfl) (fun e => by omega) (fun e => by omega)
    · obtain ⟨hop, hdst, hg⟩ : o.op = .call { callee := .builtin .append, args := #[.tmp 7, .tmp 9], argTypes := #[22, 22] } ∧ o.dst = some 10 ∧ o.guard = none := by cases ho; exact ⟨rfl, rfl, rfl⟩
      have e1 : listed.getD 4 false = true := haft ⟨4, .data⟩ (by cases ho; simp) rfl
      have e2 : listed.getD 6 false = true := haft ⟨6, .data⟩ (by cases ho; simp) rfl
      obtain ⟨g, f1⟩ : ∃ g, a.tmps.getD 7 undef = .slice (some ⟨g, 0, none⟩) 0 0 := hI.each 1 0 (by omega) (by omega) e1
      have f2 : a.tmps.getD 9 undef = .slice a1 s.n.length c1 := hI.each 1 2 (by omega) (by omega) e2
      obtain ⟨x, c, w', hr, hb, hbel, hfr⟩ := run_append_none (P := Try.prog) W 22 o.type 5 i0 _ Try.underlying22 hi0 hz0 hz1 rfl hz2 g (hBs 1 W (hW 7 (by omega) hun).1) (by have := HL 1; omega)
      refine wpOp_run ho hg (run_op_append hop f1 f2 hr) ?_
      rw [hdst]
      exact hI.step hsz (i := 7) (by omega) hun _ (hW 7 (by omega) hun).2 hbel (fun k' r' hk' hr' e => by
        obtain ⟨rfl, rfl⟩ : k' = 1 ∧ r' = 3 := by omega
        exact ⟨x, c, rfl, hb, fun hne j hj => by have := hfr hne j hj; have := (hW 7 (by omega) hun).2; omega⟩) (fun e => by omega) (fun e => by omega)
    · obtain ⟨hop, hdst, hg⟩ : o.op = .buildSlice 22 0 #[] ∧ o.dst = some 11 ∧ o.guard = none := by cases ho; exact ⟨rfl, rfl, rfl⟩
      refine wpOp_run ho hg (run_op_slice hop) ?_
      rw [hdst]
      exact hI.step hsz (i := 8) (by omega) hun _ (hW 8 (by omega) hun).2 ((Below.refl _ _).alloc (Nat.le_refl _) _) (fun k' r' hk' hr' e => by
        obtain ⟨rfl, rfl⟩ : k' = 2 ∧ r' = 0 := by omega
        exact ⟨_, rfl⟩) (fun e => by omega) (fun e => by omega)
    · obtain ⟨hop, hdst, hg⟩ : o.op = .fieldAddr 25 (.tmp 1) 2 ∧ o.dst = some 12 ∧ o.guard = none := by cases ho; exact ⟨rfl, rfl, rfl⟩
      refine wpOp_run ho hg (run_op_field (by omega) hop hI.t1) ?_
      rw [hdst]
      exact hI.step hsz (i := 9) (by omega) hun _ (hW 9 (by omega) hun).2 (Below.refl _ _) (fun k' r' hk' hr' e => by
        obtain ⟨rfl, rfl⟩ : k' = 2 ∧ r' = 1 := by omega
        exact rfl) (fun e => by omega) (fun e => by omega)
    · obtain ⟨hop, hdst, hg⟩ : o.op = .load 22 (.tmp 12) ∧ o.dst = some 13 ∧ o.guard = none := by cases ho; exact ⟨rfl, rfl, rfl⟩
      have e1 : listed.getD 9 false = true := haft ⟨9, .data⟩ (by cases ho; simp) rfl
      have f1 : a.tmps.getD 12 undef = .pointer (some ⟨w.heap.size, 2, none⟩) := hI.each 2 1 (by omega) (by omega) e1
      refine wpOp_run ho hg (run_op_load hop f1 (hcell W (hW 10 (by omega) hun).1).2.2.1) ?_
      rw [hdst]
      exact hI.step hsz (i := 10) (by omega) hun _ (hW 10 (by omega) hun).2 (Below.refl _ _) (fun k' r' hk' hr' e => by
        obtain ⟨rfl, rfl⟩ : k' = 2 ∧ r' = 2 := by omega
        exact rfl) (fun e => by omega) (fun e => by omega)
    · obtain ⟨hop, hdst, hg⟩ : o.op = .call { callee := .builtin .append, args := #[.tmp 11, .tmp 13], argTypes := #[22, 22] } ∧ o.dst = some 14 ∧ o.guard = none := by cases ho; exact ⟨rfl, rfl, rfl⟩
      have e1 : listed.getD 8 false = true := haft ⟨8, .data⟩ (by cases ho; simp) rfl
      have e2 : listed.getD 10 false = true := haft ⟨10, .data⟩ (by cases ho; simp) rfl
      obtain ⟨g, f1⟩ : ∃ g, a.tmps.getD 11 undef = .slice (some ⟨g, 0, none⟩) 0 0 := hI.each 2 0 (by omega) (by omega) e1
      have f2 : a.tmps.getD 13 undef = .slice a2 s.b.length c2 := hI.each 2 2 (by omega) (by omega) e2
      obtain ⟨x, c, w', hr, hb, hbel, hfr⟩ := run_append_none (P := Try.prog) W 22 o.type 5 i0 _ Try.underlying22 hi0 hz0 hz1 rfl hz2 g (hBs 2 W (hW 11 (by omega) hun).1) (by have := HL 2; omega)
      refine wpOp_run ho hg (run_op_append hop f1 f2 hr) ?_
      rw [hdst]
      exact hI.step hsz (i := 11) (by omega) hun _ (hW 11 (by omega) hun).2 hbel (fun k' r' hk' hr' e => by
        obtain ⟨rfl, rfl⟩ : k' = 2 ∧ r' = 3 := by omega
        exact ⟨x, c, rfl, hb, fun hne j hj => by have := hfr hne j hj; have := (hW 11 (by omega) hun).2; omega⟩) (fun e => by omega) (fun e => by omega)
    · obtain ⟨hop, hdst, hg⟩ : o.op = .buildSlice 22 0 #[] ∧ o.dst = some 15 ∧ o.guard = none := by cases ho; exact ⟨rfl, rfl, rfl⟩
      refine wpOp_run ho hg (run_op_slice hop) ?_
      rw [hdst]
      exact hI.step hsz (i := 12) (by omega) hun _ (hW 12 (by omega) hun).2 ((Below.refl _ _).alloc (Nat.le_refl _) _) (fun k' r' hk' hr' e => by
        obtain ⟨rfl, rfl⟩ : k' = 3 ∧ r' = 0 := by omega
        exact ⟨_, rfl⟩) (fun e => by omega) (fun e => by omega)
    · obtain ⟨hop, hdst, hg⟩ : o.op = .fieldAddr 25 (.tmp 1) 3 ∧ o.dst = some 16 ∧ o.guard = none := by cases ho; exact ⟨rfl, rfl, rfl⟩
      refine wpOp_run ho hg (run_op_field (by omega) hop hI.t1) ?_
      rw [hdst]
      exact hI.step hsz (i := 13) (by omega) hun _ (hW 13 (by omega) hun).2 (Below.refl _ _) (fun k' r' hk' hr' e => by
        obtain ⟨rfl, rfl⟩ : k' = 3 ∧ r' = 1 := by omega
        exact rfl) (fun e => by omega) (fun e => by omega)
    · obtain ⟨hop, hdst, hg⟩ : o.op = .load 22 (.tmp 16) ∧ o.dst = some 17 ∧ o.guard = none := by cases ho; exact ⟨rfl, rfl, rfl⟩
      have e1 : listed.getD 13 false = true := haft ⟨13, .data⟩ (by cases ho; simp) rfl
      have f1 : a.tmps.getD 16 undef = .pointer (some ⟨w.heap.size, 3, none⟩) := hI.each 3 1 (by omega) (by omega) e1
      refine wpOp_run ho hg (run_op_load hop f1 (hcell W (hW 14 (by omega) hun).1).2.2.2) ?_
      rw [hdst]
      exact hI.step hsz (i := 14) (by omega) hun _ (hW 14 (by omega) hun).2 (Below.refl _ _) (fun k' r' hk' hr' e => by
        obtain ⟨rfl, rfl⟩ : k' = 3 ∧ r' = 2 := by omega
        exact rfl) (fun e => by omega) (fun e => by omega)
    · obtain ⟨hop, hdst, hg⟩ : o.op = .call { callee := .builtin .append, args := #[.tmp 15, .tmp 17], argTypes := #[22, 22] } ∧ o.dst = some 18 ∧ o.guard = none := by cases ho; exact ⟨rfl, rfl, rfl⟩
      have e1 : listed.getD 12 false = true := haft ⟨12, .data⟩ (by cases ho; simp) rfl
      have e2 : listed.getD 14 false = true := haft ⟨14, .data⟩ (by cases ho; simp) rfl
      obtain ⟨g, f1⟩ : ∃ g, a.tmps.getD 15 undef = .slice (some ⟨g, 0, none⟩) 0 0 := hI.each 3 0 (by omega) (by omega) e1
      have f2 : a.tmps.getD 17 undef = .slice a3 s.c.length c3 := hI.each 3 2 (by omega) (by omega) e2
      obtain ⟨x, c, w', hr, hb, hbel, hfr⟩ := run_append_none (P := Try.prog) W 22 o.type 5 i0 _ Try.underlying22 hi0 hz0 hz1 rfl hz2 g (hBs 3 W (hW 15 (by omega) hun).1) (by have := HL 3; omega)
      refine wpOp_run ho hg (run_op_append hop f1 f2 hr) ?_
      rw [hdst]
      exact hI.step hsz (i := 15) (by omega) hun _ (hW 15 (by omega) hun).2 hbel (fun k' r' hk' hr' e => by
        obtain ⟨rfl, rfl⟩ : k' = 3 ∧ r' = 3 := by omega
        exact ⟨x, c, rfl, hb, fun hne j hj => by have := hfr hne j hj; have := (hW 15 (by omega) hun).2; omega⟩) (fun e => by omega) (fun e => by omega)
    · obtain ⟨hop, hdst, hg⟩ : o.op = .build 25 #[(0, .tmp 6), (1, .tmp 10), (2, .tmp 14), (3, .tmp 18)] ∧ o.dst = some 19 ∧ o.guard = none := by cases ho; exact ⟨rfl, rfl, rfl⟩
      have e0 : listed.getD 3 false = true := haft ⟨3, .data⟩ (by cases ho; simp) rfl
      have e1 : listed.getD 7 false = true := haft ⟨7, .data⟩ (by cases ho; simp) rfl
      have e2 : listed.getD 11 false = true := haft ⟨11, .data⟩ (by cases ho; simp) rfl
      have e3 : listed.getD 15 false = true := haft ⟨15, .data⟩ (by cases ho; simp) rfl
      obtain ⟨x0, y0, f0, -⟩ := hI.each 0 3 (by omega) (by omega) e0
      obtain ⟨x1, y1, f1, -⟩ := hI.each 1 3 (by omega) (by omega) e1
      obtain ⟨x2, y2, f2, -⟩ := hI.each 2 3 (by omega) (by omega) e2
      obtain ⟨x3, y3, f3, -⟩ := hI.each 3 3 (by omega) (by omega) e3
      refine wpOp_run ho hg (run_op_build hop f0 f1 f2 f3) ?_
      rw [hdst]
      exact hI.step hsz (i := 16) (by omega) hun _ (hW 16 (by omega) hun).2 (Below.refl _ _) (fun k' r' hk' hr' e => by omega) (fun _ => ⟨e0, e1, e2, e3⟩) (fun _ => by rw [← f0, ← f1, ← f2, ← f3])
    · obtain ⟨hop, hdst, hg⟩ : o.op = .store 25 (.tmp 2) (.tmp 19) ∧ o.dst = none ∧ o.guard = none := by cases ho; exact ⟨rfl, rfl, rfl⟩
      have hall : ∀ j, j < 17 → listed.getD j false = true := fun j hj => by
        have hcs : j = 0 ∨ j = 1 ∨ j = 2 ∨ j = 3 ∨ j = 4 ∨ j = 5 ∨ j = 6 ∨ j = 7 ∨ j = 8 ∨ j = 9 ∨ j = 10 ∨ j = 11 ∨ j = 12 ∨ j = 13 ∨ j = 14 ∨ j = 15 ∨ j = 16 := by omega
        rcases hcs with rfl | rfl | rfl | rfl | rfl | rfl | rfl | rfl | rfl | rfl | rfl | rfl | rfl | rfl | rfl | rfl | rfl
        all_goals exact haft ⟨_, .phase⟩ (by cases ho; simp) rfl
      have hlt : 17 < listed.size := by rw [hsz]; exact (by decide : 17 < 18)
      have hf17 : listed.getD 17 false = false := by simp [Array.getD, hlt] at hun ⊢; exact hun
      have hB := hI.bel hf17
      have hBs' := hB.size
      rw [hs2] at hBs'
      have hres := (hB.block (w.heap.size + 1) (by omega)).trans hg2
      obtain ⟨x0, y0, f0, -⟩ := hI.each 0 3 (by omega) (by omega) (hall 3 (by omega))
      obtain ⟨x1, y1, f1, -⟩ := hI.each 1 3 (by omega) (by omega) (hall 7 (by omega))
      obtain ⟨x2, y2, f2, -⟩ := hI.each 2 3 (by omega) (by omega) (hall 11 (by omega))
      obtain ⟨x3, y3, f3, -⟩ := hI.each 3 3 (by omega) (by omega) (hall 15 (by omega))
      have h19 : a.tmps.getD 19 undef = .agg #[.slice x0 (s.part 0).length y0, .slice x1 (s.part 1).length y1, .slice x2 (s.part 2).length y2, .slice x3 (s.part 3).length y3] := by
        rw [hI.bd (hall 16 (by omega)), ← f0, ← f1, ← f2, ← f3]
      refine wpOp_skip ho hg (run_op_store hop hI.t2 h19 hres) ?_
      rw [hdst]
      obtain ⟨q0, q1, q2, q3, q4⟩ := res4 hres (.slice x0 (s.part 0).length y0) (.slice x1 (s.part 1).length y1) (.slice x2 (s.part 2).length y2) (.slice x3 (s.part 3).length y3) _ rfl
      have hset : ∀ j, j < 17 → (listed.setIfInBounds 17 true).getD j false = true := fun j hj => by rw [getD_set hlt, if_neg (by omega)]; exact hall j hj
      refine ⟨hI.sz, hI.df, hI.t1, hI.t2, fun _ => hset, fun _ => ⟨hset 3 (by omega), hset 7 (by omega), hset 11 (by omega), hset 15 (by omega)⟩, fun e => (by rw [getD_set hlt, if_pos rfl] at e; cases e), fun k r hk hr _ => (hI.each k r hk hr (hall _ (by omega))).only q0 (by omega), fun _ => hI.bd (hall 16 (by omega)), fun _ => ⟨(hb2.trans (hB.mono (by omega))).trans (q0.below (by omega) (by omega)), ?_, ?_, ?_, ?_⟩⟩
      · rw [q1]; exact congrArg some f0.symm
      · rw [q2]; exact congrArg some f1.symm
      · rw [q3]; exact congrArg some f2.symm
      · rw [q4]; exact congrArg some f3.symm
  · intro listed a W hI hall
    obtain ⟨x0, x1, x2, x3, y0, y1, y2, y3, g0, g1, g2, g3, g4, g5⟩ := HK.out hI hall
    refine hKK a W ?_
    have ht2' : a.tmps[2]?.getD undef = .pointer (some ⟨w.heap.size + 1, 0, none⟩) := by rw [← hI.t2]; simp
    refine wp_ret ?_
    exact bodyPost_ret (v := .agg #[.slice x0 s.r.length y0, .slice x1 s.n.length y1, .slice x2 s.b.length y2, .slice x3 s.c.length y3]) (by simp [results, Try.results15, go_sem, ht2', hI.t2, g2, g3, g4, g5]) hI.df ⟨x0, x1, x2, x3, y0, y1, y2, y3, rfl, g0, g1⟩
  · have hno : ∀ j, (Array.replicate 18 false).getD j false = false := fun j => by
      simp only [Array.getD]
      split <;> simp
    refine ⟨rfl, rfl, rfl, rfl, fun e => ?_, fun e => ?_, fun _ => Below.drewN (Below.refl _ _) 1, fun k r _ _ e => ?_, fun e => ?_, fun e => ?_⟩
    all_goals (have := hno; simp only [List.size_toArray, List.length_cons, List.length_nil, Nat.zero_add, Nat.reduceAdd] at e; rw [hno] at e; cases e)

end Go.Proofs.Ytbehcdpjpjklfaa
