
/- Split of the references. -/
import Derived.Test.YtbehcdpjpjklfaaRows
import Derived.Test.YtbehcdpjpjklfaaSplit3
import Derived.Test.YtbehcdpjpjklfaaStreamOwn
import Derived.Test.YtbehcdpjpjklfaaRefSame3
namespace Go.Proofs.Ytbehcdpjpjklfaa
set_option linter.unusedVariables false
set_option linter.unusedSimpArgs false
open Go.RowKit Go.Maps
attribute [local go_sem ↓] Go.wp_at_zero Go.wp_at_succ

/-- What the owners' row says. -/
def OkO (O : Array Value) (n : Nat) (ivs : List (Nat × Nat)) : Prop := O.size = n ∧ ∀ j, j < n → ∃ x : Int, O[j]? = some (.int .i64 x) ∧ 0 ≤ x ∧ x ≤ 4 ∧ decide (0 < x) = taken ivs j

/-- Six cells are laid anew. -/
theorem res6 {W : World} {g : Nat} {x0 x1 x2 x3 x4 x5 : Value} {t : TypeId} (h : W.heap[g]? = some (Obj.cells #[x0, x1, x2, x3, x4, x5] t (0, 0))) (y0 y1 y2 y3 y4 y5 : Value) (W' : World) (hW : W' = (((((W.setCell ⟨g, 0, none⟩ y0).setCell ⟨g, 1, none⟩ y1).setCell ⟨g, 2, none⟩ y2).setCell ⟨g, 3, none⟩ y3).setCell ⟨g, 4, none⟩ y4).setCell ⟨g, 5, none⟩ y5) :
    Only g W W' ∧ W'.cell? ⟨g, 0, none⟩ = some y0 ∧ W'.cell? ⟨g, 1, none⟩ = some y1 ∧ W'.cell? ⟨g, 2, none⟩ = some y2 ∧ W'.cell? ⟨g, 3, none⟩ = some y3 ∧ W'.cell? ⟨g, 4, none⟩ = some y4 ∧ W'.cell? ⟨g, 5, none⟩ = some y5 := by
  have step : ∀ (V : World) (C : Array Value) (i : Nat) (y : Value), V.heap[g]? = some (Obj.cells C t (0, 0)) → (V.setCell ⟨g, i, none⟩ y).heap[g]? = some (Obj.cells (C.setIfInBounds i y) t (0, 0)) := fun V C i y hV => by
    rw [setCell_eq_setRow V g i _ _ _ _ hV]; exact setRow_heap V g _ _ _ _ hV
  have h6 : W'.heap[g]? = some (Obj.cells #[y0, y1, y2, y3, y4, y5] t (0, 0)) := by
    rw [hW]
    have := step _ _ 5 y5 (step _ _ 4 y4 (step _ _ 3 y3 (step _ _ 2 y2 (step _ _ 1 y1 (step _ _ 0 y0 h)))))
    simpa using this
  refine ⟨by rw [hW]; exact Only.setCell (Only.setCell (Only.setCell (Only.setCell (Only.setCell (Only.setCell (Only.refl _ _) 0 _) 1 _) 2 _) 3 _) 4 _) 5 _, ?_, ?_, ?_, ?_, ?_, ?_⟩ <;> simp [World.cell?, h6]
/-- Four of six. -/
theorem res46 {W : World} {g : Nat} {x0 x1 x2 x3 x4 x5 : Value} {t : TypeId} (h : W.heap[g]? = some (Obj.cells #[x0, x1, x2, x3, x4, x5] t (0, 0))) (y0 y1 y2 y3 : Value) (W' : World) (hW : W' = (((W.setCell ⟨g, 0, none⟩ y0).setCell ⟨g, 1, none⟩ y1).setCell ⟨g, 2, none⟩ y2).setCell ⟨g, 3, none⟩ y3) :
    Only g W W' ∧ W'.heap[g]? = some (Obj.cells #[y0, y1, y2, y3, x4, x5] t (0, 0)) := by
  have step : ∀ (V : World) (C : Array Value) (i : Nat) (y : Value), V.heap[g]? = some (Obj.cells C t (0, 0)) → (V.setCell ⟨g, i, none⟩ y).heap[g]? = some (Obj.cells (C.setIfInBounds i y) t (0, 0)) := fun V C i y hV => by
    rw [setCell_eq_setRow V g i _ _ _ _ hV]; exact setRow_heap V g _ _ _ _ hV
  refine ⟨by rw [hW]; exact Only.setCell (Only.setCell (Only.setCell (Only.setCell (Only.refl _ _) 0 _) 1 _) 2 _) 3 _, ?_⟩
  rw [hW]
  have := step _ _ 3 y3 (step _ _ 2 y2 (step _ _ 1 y1 (step _ _ 0 y0 h)))
  simpa using this

def metB (mt : List Nat) (k : Nat) : Value := .bool (mt.contains k)

/-- What the references' Split holds while it goes on: what is handed back, what was parted so far, whose each byte is, which tags were there. -/
structure Rs (w0 w : World) (s : Strm) (mt : List Nat) (p0 p1 p2 p3 : Value) (O : Array Value) : Prop where
  res : w.heap[w0.heap.size]? = some (Obj.cells #[.slice none 0 0, .slice none 0 0, .slice none 0 0, .slice none 0 0, .int .i64 0, .int .i64 0] 30 (0, 0))
  prt : w.heap[w0.heap.size + 1]? = some (Obj.cells #[p0, p1, p2, p3, .int .i64 0, .int .i64 0] 30 (0, 0))
  own : w.heap[w0.heap.size + 2]? = some (Obj.cells O 3 (0, 0))
  met : w.heap[w0.heap.size + 3]? = some (Obj.cells #[metB mt 0, metB mt 1, metB mt 2, metB mt 3] 4 (0, 0))
  o0 : Own w w0.heap.size 5 p0 s.r
  o1 : Own w w0.heap.size 5 p1 s.n
  o2 : Own w w0.heap.size 5 p2 s.b
  o3 : Own w w0.heap.size 5 p3 s.c
  below : Below w0.heap.size w0 w

theorem Rs.lt {w0 w : World} {s : Strm} {mt : List Nat} {p0 p1 p2 p3 : Value} {O : Array Value} (h : Rs w0 w s mt p0 p1 p2 p3 O) : w0.heap.size + 3 < w.heap.size := (Array.getElem?_eq_some_iff.1 h.met).1
theorem Rs.later {w0 w w' : World} {s : Strm} {mt : List Nat} {p0 p1 p2 p3 : Value} {O : Array Value} (h : Rs w0 w s mt p0 p1 p2 p3 O) (hb : Below w.heap.size w w') : Rs w0 w' s mt p0 p1 p2 p3 O := by
  have hl := h.lt
  exact ⟨(hb.block _ (by omega)).trans h.res, (hb.block _ (by omega)).trans h.prt, (hb.block _ (by omega)).trans h.own, (hb.block _ (by omega)).trans h.met, h.o0.later hb, h.o1.later hb, h.o2.later hb, h.o3.later hb, h.below.trans (hb.mono (by omega))⟩

/-- One of the three rows has turned. -/
theorem Rs.turn {w0 w w' : World} {s s' : Strm} {mt mt' : List Nat} {p0 p1 p2 p3 q0 q1 q2 q3 : Value} {O O' : Array Value} (h : Rs w0 w s mt p0 p1 p2 p3 O) (g : Nat) (hg : w0.heap.size < g) {C : Array Value} {t : TypeId} (hC : w.heap[g]? = some (Obj.cells C t (0, 0))) (ht : t ≠ 5) (ho : Only g w w')
    (hp : w'.heap[w0.heap.size + 1]? = some (Obj.cells #[q0, q1, q2, q3, .int .i64 0, .int .i64 0] 30 (0, 0))) (hw : w'.heap[w0.heap.size + 2]? = some (Obj.cells O' 3 (0, 0))) (hm : w'.heap[w0.heap.size + 3]? = some (Obj.cells #[metB mt' 0, metB mt' 1, metB mt' 2, metB mt' 3] 4 (0, 0)))
    (h0 : Own w w0.heap.size 5 q0 s'.r) (h1 : Own w w0.heap.size 5 q1 s'.n) (h2 : Own w w0.heap.size 5 q2 s'.b) (h3 : Own w w0.heap.size 5 q3 s'.c) : Rs w0 w' s' mt' q0 q1 q2 q3 O' := by
  have u8 : ∀ {v : Value} {xs : List UInt8}, Own w w0.heap.size 5 v xs → Own w' w0.heap.size 5 v xs := fun hv => own_of_block hv fun k hk => by
    obtain ⟨C', hC'⟩ := row_typed hv k hk
    exact ho.block k (Array.getElem?_eq_some_iff.1 hC').1 (ne_typed hC' hC (Ne.symm ht))
  have hl := h.lt
  exact ⟨(ho.block _ (by omega) (by omega)).trans h.res, hp, hw, hm, u8 h0, u8 h1, u8 h2, u8 h3, h.below.trans (ho.below (by omega) (by omega))⟩

theorem Rs.setO {w0 w : World} {s : Strm} {mt : List Nat} {p0 p1 p2 p3 : Value} {O : Array Value} (h : Rs w0 w s mt p0 p1 p2 p3 O) (j : Nat) (x : Value) : Rs w0 (w.setCell ⟨w0.heap.size + 2, j, none⟩ x) s mt p0 p1 p2 p3 (O.setIfInBounds j x) := by
  have ho : Only (w0.heap.size + 2) w (w.setCell ⟨w0.heap.size + 2, j, none⟩ x) := (Only.refl _ _).setCell j x
  have hl := h.lt
  refine h.turn (w0.heap.size + 2) (by omega) h.own (by decide) ho ((ho.block _ (by omega) (by omega)).trans h.prt) ?_ ((ho.block _ (by omega) (by omega)).trans h.met) h.o0 h.o1 h.o2 h.o3
  rw [setCell_eq_setRow w _ j _ _ _ _ h.own]; exact setRow_heap w _ _ _ _ _ h.own
theorem Rs.setM {w0 w : World} {s : Strm} {mt : List Nat} {p0 p1 p2 p3 : Value} {O : Array Value} (h : Rs w0 w s mt p0 p1 p2 p3 O) (k : Nat) (hk : k < 4) : Rs w0 (w.setCell ⟨w0.heap.size + 3, k, none⟩ (.bool true)) s (mt ++ [k]) p0 p1 p2 p3 O := by
  have ho : Only (w0.heap.size + 3) w (w.setCell ⟨w0.heap.size + 3, k, none⟩ (.bool true)) := (Only.refl _ _).setCell k _
  have hl := h.lt
  refine h.turn (w0.heap.size + 3) (by omega) h.met (by decide) ho ((ho.block _ (by omega) (by omega)).trans h.prt) ((ho.block _ (by omega) (by omega)).trans h.own) ?_ h.o0 h.o1 h.o2 h.o3
  rw [setCell_eq_setRow w _ k _ _ _ _ h.met, setRow_heap w _ _ _ _ _ h.met]
  rcases four_cases hk with rfl | rfl | rfl | rfl <;> simp [metB]
theorem Rs.setP {w0 w w' : World} {s : Strm} {mt : List Nat} {p0 p1 p2 p3 q0 q1 q2 q3 : Value} {O : Array Value} {s' : Strm} (h : Rs w0 w s mt p0 p1 p2 p3 O) (hw : w' = (((w.setCell ⟨w0.heap.size + 1, 0, none⟩ q0).setCell ⟨w0.heap.size + 1, 1, none⟩ q1).setCell ⟨w0.heap.size + 1, 2, none⟩ q2).setCell ⟨w0.heap.size + 1, 3, none⟩ q3)
    (h0 : Own w w0.heap.size 5 q0 s'.r) (h1 : Own w w0.heap.size 5 q1 s'.n) (h2 : Own w w0.heap.size 5 q2 s'.b) (h3 : Own w w0.heap.size 5 q3 s'.c) : Rs w0 w' s' mt q0 q1 q2 q3 O := by
  obtain ⟨ho, hp⟩ := res46 h.prt q0 q1 q2 q3 w' hw
  have hl := h.lt
  exact h.turn (w0.heap.size + 1) (by omega) h.prt (by decide) ho hp ((ho.block _ (by omega) (by omega)).trans h.own) ((ho.block _ (by omega) (by omega)).trans h.met) h0 h1 h2 h3

theorem Rs.cells {w0 w : World} {s : Strm} {mt : List Nat} {p0 p1 p2 p3 : Value} {O : Array Value} (h : Rs w0 w s mt p0 p1 p2 p3 O) :
    w.cell? ⟨w0.heap.size + 1, 0, none⟩ = some p0 ∧ w.cell? ⟨w0.heap.size + 1, 1, none⟩ = some p1 ∧ w.cell? ⟨w0.heap.size + 1, 2, none⟩ = some p2 ∧ w.cell? ⟨w0.heap.size + 1, 3, none⟩ = some p3 ∧ w.cell? ⟨w0.heap.size + 1, 4, none⟩ = some (.int .i64 0) ∧ w.cell? ⟨w0.heap.size + 1, 5, none⟩ = some (.int .i64 0) := by
  refine ⟨?_, ?_, ?_, ?_, ?_, ?_⟩ <;> simp [World.cell?, h.prt]
theorem Rs.rcells {w0 w : World} {s : Strm} {mt : List Nat} {p0 p1 p2 p3 : Value} {O : Array Value} (h : Rs w0 w s mt p0 p1 p2 p3 O) :
    w.cell? ⟨w0.heap.size, 0, none⟩ = some (.slice none 0 0) ∧ w.cell? ⟨w0.heap.size, 1, none⟩ = some (.slice none 0 0) ∧ w.cell? ⟨w0.heap.size, 2, none⟩ = some (.slice none 0 0) ∧ w.cell? ⟨w0.heap.size, 3, none⟩ = some (.slice none 0 0) ∧ w.cell? ⟨w0.heap.size, 4, none⟩ = some (.int .i64 0) ∧ w.cell? ⟨w0.heap.size, 5, none⟩ = some (.int .i64 0) ∧ ∀ i, w.frozen? ⟨w0.heap.size, i, none⟩ = false := by
  refine ⟨?_, ?_, ?_, ?_, ?_, ?_, fun i => ?_⟩ <;> first | simp [World.cell?, h.res] | simp [World.frozen?, h.res]
theorem Rs.melt {w0 w : World} {s : Strm} {mt : List Nat} {p0 p1 p2 p3 : Value} {O : Array Value} (h : Rs w0 w s mt p0 p1 p2 p3 O) (i : Nat) : w.frozen? ⟨w0.heap.size + 1, i, none⟩ = false ∧ w.frozen? ⟨w0.heap.size + 2, i, none⟩ = false ∧ w.frozen? ⟨w0.heap.size + 3, i, none⟩ = false := by
  refine ⟨by simp [World.frozen?, h.prt], by simp [World.frozen?, h.own], by simp [World.frozen?, h.met]⟩
theorem Rs.ocell {w0 w : World} {s : Strm} {mt : List Nat} {p0 p1 p2 p3 : Value} {O : Array Value} (h : Rs w0 w s mt p0 p1 p2 p3 O) (j : Nat) : w.cell? ⟨w0.heap.size + 2, j, none⟩ = O[j]? := by simp [World.cell?, h.own]
theorem Rs.mcell {w0 w : World} {s : Strm} {mt : List Nat} {p0 p1 p2 p3 : Value} {O : Array Value} (h : Rs w0 w s mt p0 p1 p2 p3 O) (k : Nat) (hk : k < 4) : w.cell? ⟨w0.heap.size + 3, k, none⟩ = some (.bool (mt.contains k)) := by
  rcases four_cases hk with rfl | rfl | rfl | rfl <;> simp [World.cell?, h.met, metB]

/-- What comes back. -/
def PtR (bs : List UInt8) (e : Ending) (w' : World) : Prop :=
  ∃ x0 x1 x2 x3 y0 y1 y2 y3, e = .returned (.agg #[.slice x0 (splitR bs).1.r.length y0, .slice x1 (splitR bs).1.n.length y1, .slice x2 (splitR bs).1.b.length y2, .slice x3 (splitR bs).1.c.length y3, .int .i64 ((splitR bs).2.1 : Int), .int .i64 ((splitR bs).2.2 : Int)]) ∧
    Sv w' (.agg #[.slice x0 (splitR bs).1.r.length y0, .slice x1 (splitR bs).1.n.length y1, .slice x2 (splitR bs).1.b.length y2, .slice x3 (splitR bs).1.c.length y3]) (splitR bs).1
theorem PtR.err {bs : List UInt8} {p c : Nat} (h : splitR bs = (Strm.nil, p, c)) (w' : World) (x y : Int) (hx : x = p) (hy : y = c) : PtR bs (.returned (.agg #[.slice none 0 0, .slice none 0 0, .slice none 0 0, .slice none 0 0, .int .i64 x, .int .i64 y])) w' := by
  subst hx hy
  refine ⟨none, none, none, none, 0, 0, 0, 0, by rw [h]; rfl, by rw [h]; exact Sv.nil _⟩

set_option maxRecDepth 100000 in
set_option maxHeartbeats 1000000 in
theorem refSplit_short {v : Value} {bs : List UInt8} {w : World} (hv : Bs w v bs) (h : bs.length < 56) :
    Calls Try.prog 11 #[v] w fun e w' => PtR bs e w' ∧ Below w.heap.size w w' := by
  obtain ⟨a, c, rfl, h1, h2, -⟩ := hv
  unfold maxLen at h2
  have HR : Hid (splitR bs = (Strm.nil, bs.length, 1)) := by show _ = _; unfold splitR; rw [if_neg (by omega), if_pos h]
  have hg := heap_alloc_new w (Obj.cells #[.slice none 0 0, .slice none 0 0, .slice none 0 0, .slice none 0 0, .int .i64 0, .int .i64 0] 30)
  have HG : Hid _ := hg
  clear hg
  go_enter Try.func11, Try.ntmps11
  go_wp2_with fail
  exact bodyPost_ret (v := .agg #[.slice none 0 0, .slice none 0 0, .slice none 0 0, .slice none 0 0, .int .i64 (bs.length : Int), .int .i64 1]) (by simp [results, Try.results11, go_sem]) rfl ⟨PtR.err HR.out _ _ _ rfl rfl, (Below.refl _ _).alloc (Nat.le_refl _) _⟩

def tagI : Option Nat → Int
  | none => -1
  | some k => (k : Int)
theorem Try.infoI3 : (Try.prog.info? 3).map (fun i => (i.zero, i.size, i.bytes)) = some (some (.int .i64 0), 1, 8) := by kernel_rfl
theorem Try.infoB3 : (Try.prog.info? 4).map (fun i => (i.zero, i.size, i.bytes)) = some (some (.bool false), 1, 1) := by kernel_rfl
theorem made_int (n : Nat) : madeCells (Value.int .i64 0).cells n = Array.replicate n (.int .i64 0) := by
  apply Array.ext
  · simp [madeCells]
  · intro i h1 h2
    simp [madeCells, Value.cells, Nat.mod_one]
theorem run_make_int (w : World) (n : Nat) (hn : n ≤ 4000) :
    (Instr.makeSlice 63 (.int .i64 (n : Int)) (.int .i64 (n : Int))).run Try.prog w = .ok (.slice (some ⟨w.heap.size, 0, none⟩) n n) (w.alloc (.cells (Array.replicate n (.int .i64 0)) 3)) := by
  obtain ⟨i, hi, hz0, hz1, hz2⟩ := info_parts Try.infoI3
  have := run_make (P := Try.prog) w 63 3 i (.int .i64 0) Try.underlying63 hi hz0 .i64 .i64 (n : Int) (n : Int) (by omega) (by omega) (by rw [hz2]; omega) (by omega)
  rw [this, hz1]
  simp [made_int]
theorem run_make_bool (w : World) :
    (Instr.makeSlice 64 (.int .i64 4) (.int .i64 4)).run Try.prog w = .ok (.slice (some ⟨w.heap.size, 0, none⟩) 4 4) (w.alloc (.cells #[.bool false, .bool false, .bool false, .bool false] 4)) := by
  obtain ⟨i, hi, hz0, hz1, hz2⟩ := info_parts Try.infoB3
  have := run_make (P := Try.prog) w 64 4 i (.bool false) Try.underlying64 hi hz0 .i64 .i64 4 4 (by omega) (by omega) (by rw [hz2]; omega) (by omega)
  rw [this, hz1]
  have hm : madeCells (Value.bool false).cells 4 = Array.replicate 4 (.bool false) := by
    apply Array.ext
    · simp [madeCells]
    · intro i h1 h2
      simp [madeCells, Value.cells, Nat.mod_one]
  show Result.ok (Value.slice (some ⟨w.heap.size, 0, none⟩) 4 4) (w.alloc (Obj.cells (madeCells (Value.bool false).cells 4) 4)) = _
  rw [hm]
  rfl

theorem rs_start (w : World) (n : Nat) : Rs w ((((w.alloc (Obj.cells #[.slice none 0 0, .slice none 0 0, .slice none 0 0, .slice none 0 0, .int .i64 0, .int .i64 0] 30)).alloc (Obj.cells #[.slice none 0 0, .slice none 0 0, .slice none 0 0, .slice none 0 0, .int .i64 0, .int .i64 0] 30)).alloc (Obj.cells (Array.replicate n (.int .i64 0)) 3)).alloc (Obj.cells #[.bool false, .bool false, .bool false, .bool false] 4)) Strm.nil [] (.slice none 0 0) (.slice none 0 0) (.slice none 0 0) (.slice none 0 0) (Array.replicate n (.int .i64 0)) := by
  obtain ⟨W1, hW1⟩ : ∃ W, W = w.alloc (Obj.cells #[.slice none 0 0, .slice none 0 0, .slice none 0 0, .slice none 0 0, .int .i64 0, .int .i64 0] 30) := ⟨_, rfl⟩
  obtain ⟨W2, hW2⟩ : ∃ W, W = W1.alloc (Obj.cells #[.slice none 0 0, .slice none 0 0, .slice none 0 0, .slice none 0 0, .int .i64 0, .int .i64 0] 30) := ⟨_, rfl⟩
  obtain ⟨W3, hW3⟩ : ∃ W, W = W2.alloc (Obj.cells (Array.replicate n (.int .i64 0)) 3) := ⟨_, rfl⟩
  rw [← hW1, ← hW2, ← hW3]
  have s1 : W1.heap.size = w.heap.size + 1 := by rw [hW1]; simp
  have s2 : W2.heap.size = w.heap.size + 2 := by rw [hW2]; simp [s1]
  have s3 : W3.heap.size = w.heap.size + 3 := by rw [hW3]; simp [s2]
  have g1 := heap_alloc_new w (Obj.cells #[.slice none 0 0, .slice none 0 0, .slice none 0 0, .slice none 0 0, .int .i64 0, .int .i64 0] 30)
  rw [← hW1] at g1
  have g2 := heap_alloc_new W1 (Obj.cells #[.slice none 0 0, .slice none 0 0, .slice none 0 0, .slice none 0 0, .int .i64 0, .int .i64 0] 30)
  rw [← hW2, s1] at g2
  have g3 := heap_alloc_new W2 (Obj.cells (Array.replicate n (.int .i64 0)) 3)
  rw [← hW3, s2] at g3
  have g4 := heap_alloc_new W3 (Obj.cells #[.bool false, .bool false, .bool false, .bool false] 4)
  rw [s3] at g4
  have b12 : ∀ k, k < w.heap.size + 1 → W2.heap[k]? = W1.heap[k]? := fun k hk => by rw [hW2]; exact heap_alloc_old _ _ (by omega)
  have b23 : ∀ k, k < w.heap.size + 2 → W3.heap[k]? = W2.heap[k]? := fun k hk => by rw [hW3]; exact heap_alloc_old _ _ (by omega)
  have b34 : ∀ k, k < w.heap.size + 3 → (W3.alloc (Obj.cells #[.bool false, .bool false, .bool false, .bool false] 4)).heap[k]? = W3.heap[k]? := fun k hk => heap_alloc_old _ _ (by omega)
  refine ⟨?_, ?_, ?_, g4, Own.nil _ _ _, Own.nil _ _ _, Own.nil _ _ _, Own.nil _ _ _, ?_⟩
  · rw [b34 _ (by omega), b23 _ (by omega), b12 _ (by omega)]; exact g1
  · rw [b34 _ (by omega), b23 _ (by omega)]; exact g2
  · rw [b34 _ (by omega)]; exact g3
  · have e1 : Below w.heap.size w W1 := by rw [hW1]; exact (Below.refl _ _).alloc (Nat.le_refl _) _
    have e2 : Below w.heap.size w W2 := by rw [hW2]; exact e1.alloc (by omega) _
    have e3 : Below w.heap.size w W3 := by rw [hW3]; exact e2.alloc (by omega) _
    exact e3.alloc (by omega) _
theorem oko_start (n : Nat) : OkO (Array.replicate n (.int .i64 0)) n [] := ⟨by simp, fun j hj => ⟨0, by simp [hj], by omega, by omega, by simp [taken]⟩⟩

/-- The owners' row while a stream's bytes are taken, as far as jj. -/
def OkM (O O' : Array Value) (len a jj kk : Nat) (ivs : List (Nat × Nat)) : Prop :=
  O'.size = len ∧ (∀ t, t < len → O'[t]? = if a ≤ t ∧ t < jj then some (.int .i64 ((kk : Int) + 1)) else O[t]?) ∧ ∀ t, a ≤ t → t < jj → taken ivs t = false
theorem OkM.start {O : Array Value} {len a kk : Nat} {ivs : List (Nat × Nat)} (h : OkO O len ivs) : OkM O O len a a kk ivs :=
  ⟨h.1, fun t _ => by rw [if_neg (by omega)], fun t h1 h2 => by omega⟩
theorem OkM.at {O O' : Array Value} {len a jj kk : Nat} {ivs : List (Nat × Nat)} (h : OkM O O' len a jj kk ivs) (ho : OkO O len ivs) (hj : jj < len) : ∃ x : Int, O'[jj]? = some (.int .i64 x) ∧ 0 ≤ x ∧ x ≤ 4 ∧ decide (0 < x) = taken ivs jj := by
  obtain ⟨x, h1, h2, h3, h4⟩ := ho.2 jj hj
  exact ⟨x, by rw [h.2.1 jj hj, if_neg (by omega)]; exact h1, h2, h3, h4⟩
theorem OkM.next {O O' : Array Value} {len a jj kk : Nat} {ivs : List (Nat × Nat)} (h : OkM O O' len a jj kk ivs) (ha : a ≤ jj) (hj : jj < len) (ht : taken ivs jj = false) : OkM O (O'.setIfInBounds jj (.int .i64 ((kk : Int) + 1))) len a (jj + 1) kk ivs := by
  refine ⟨by simp [h.1], fun t htl => ?_, fun t h1 h2 => ?_⟩
  · by_cases e : t = jj
    · subst e
      rw [if_pos (by omega)]
      have : t < O'.size := by rw [h.1]; exact hj
      simp [this]
    · rw [Array.getElem?_setIfInBounds_ne (by omega), h.2.1 t htl]
      by_cases hc : a ≤ t ∧ t < jj
      · rw [if_pos hc, if_pos (by omega)]
      · rw [if_neg hc, if_neg (by omega)]
  · by_cases e : t = jj
    · subst e; exact ht
    · exact h.2.2 t h1 (by omega)
theorem OkM.done {O O' : Array Value} {len a n kk : Nat} {ivs : List (Nat × Nat)} (h : OkM O O' len a (a + n) kk ivs) (ho : OkO O len ivs) (hk : kk < 4) : shares ivs a n = false ∧ OkO O' len (ivs ++ [(a, n)]) := by
  refine ⟨shares_no h.2.2, h.1, fun j hj => ?_⟩
  rw [taken_snoc]
  by_cases hc : a ≤ j ∧ j < a + n
  · refine ⟨(kk : Int) + 1, by rw [h.2.1 j hj, if_pos hc], by omega, by omega, ?_⟩
    have : decide ((0 : Int) < (kk : Int) + 1) = true := by rw [decide_eq_true_eq]; omega
    rw [this]
    simp [hc.1, hc.2]
  · obtain ⟨x, h1, h2, h3, h4⟩ := ho.2 j hj
    refine ⟨x, by rw [h.2.1 j hj, if_neg hc]; exact h1, h2, h3, ?_⟩
    rw [h4]
    by_cases h5 : a ≤ j
    · have h6 : ¬ j < a + n := fun h => hc ⟨h5, h⟩
      simp [h6]
    · simp [h5]

set_option maxRecDepth 100000 in
set_option maxHeartbeats 4000000 in
theorem refSplit_near {v : Value} {bs : List UInt8} {w : World} (hv : Bs w v bs) (h1 : bs.length ≤ 4000) (h2 : ¬ bs.length < 56) :
    Calls Try.prog 11 #[v] w fun e w' => PtR bs e w' ∧ Below w.heap.size w w' := by
  have HV : Hid (∀ W, Below w.heap.size w W → Bs W v bs) := fun W hW => hv.later hW
  obtain ⟨a, c, rfl, hc1, hc2, hc3⟩ := hv
  obtain ⟨b, off, rfl, hbl, -⟩ := hc3 (by intro e; subst e; simp at h2)
  unfold maxLen at hc2
  clear hc3
  have hb1 : Below w.heap.size w (w.alloc (Obj.cells #[.slice none 0 0, .slice none 0 0, .slice none 0 0, .slice none 0 0, .int .i64 0, .int .i64 0] 30)) := (Below.refl _ _).alloc (Nat.le_refl _) _
  have hg1 := heap_alloc_new w (Obj.cells #[.slice none 0 0, .slice none 0 0, .slice none 0 0, .slice none 0 0, .int .i64 0, .int .i64 0] 30)
  have hbsl : Bs (w.alloc (Obj.cells #[.slice none 0 0, .slice none 0 0, .slice none 0 0, .slice none 0 0, .int .i64 0, .int .i64 0] 30)) (.slice (some ⟨b, off, none⟩) 4 c) (seg bs 0 4) := by
    have := bs_take 4 (by omega) (HV.out _ hb1)
    exact this
  have hcv := convert_bs hbsl
  have HB1 : Hid _ := hb1
  have HG1 : Hid _ := hg1
  have hsq : (seg bs 0 4 == [67, 71, 82, 68]) = decide (seg bs 0 4 = magic) := by
    by_cases g : seg bs 0 4 = magic
    · rw [decide_eq_true g, g]; rfl
    · rw [decide_eq_false g]; rw [beq_eq_false_iff_ne]; exact g
  have HN4 : Hid (Calls Try.prog 24 #[.slice (some ⟨b, off, none⟩) bs.length c, .int .i64 4, .int .i64 2] (w.alloc (Obj.cells #[.slice none 0 0, .slice none 0 0, .slice none 0 0, .slice none 0 0, .int .i64 0, .int .i64 0] 30)) fun e w' => e = .returned (.int .u64 (numAt bs 4 2 : Int)) ∧ w' = (w.alloc (Obj.cells #[.slice none 0 0, .slice none 0 0, .slice none 0 0, .slice none 0 0, .int .i64 0, .int .i64 0] 30))) := refNum_any (HV.out _ hb1) 4 2 (by omega) (by omega) (by omega)
  have HN6 : Hid (Calls Try.prog 24 #[.slice (some ⟨b, off, none⟩) bs.length c, .int .i64 6, .int .i64 2] (w.alloc (Obj.cells #[.slice none 0 0, .slice none 0 0, .slice none 0 0, .slice none 0 0, .int .i64 0, .int .i64 0] 30)) fun e w' => e = .returned (.int .u64 (numAt bs 6 2 : Int)) ∧ w' = (w.alloc (Obj.cells #[.slice none 0 0, .slice none 0 0, .slice none 0 0, .slice none 0 0, .int .i64 0, .int .i64 0] 30))) := refNum_any (HV.out _ hb1) 6 2 (by omega) (by omega) (by omega)
  clear hb1 hg1 hbsl
  by_cases g1 : seg bs 0 4 = magic
  · rw [decide_eq_true g1] at hsq
    by_cases g2 : numAt bs 4 2 = 1
    · by_cases g3 : numAt bs 6 2 = 4
      · have hbe : (beginR bs).2 = 0 := by simp [beginR, g1, g2, g3]
        have HR : Hid _ := split_runs (by omega) h2 hbe
        clear hbe
        rw [g2] at HN4
        rw [g3] at HN6
        clear g1 g2 g3
        go_enter Try.func11, Try.ntmps11
        go_wp2_with fail
        refine Calls.mono HN4.out ?_
        rintro e wz ⟨rfl, hz⟩
        subst wz
        go_wp2_with fail
        refine Calls.mono HN6.out ?_
        rintro e wz ⟨rfl, hz⟩
        subst wz
        clear HN4 HN6 hcv hsq HG1 HB1
        have hmk := fun W => run_make_int W bs.length h1
        have hmb := run_make_bool
        have HRS : Hid _ := rs_start w bs.length
        have HOK : Hid _ := oko_start bs.length
        go_wp2_with fail
        clear hmk hmb
        go_loopw [6] (fun i wr => ∃ (k : Nat) (st : SSt) (p0 p1 p2 p3 : Value) (O : Array Value), k ≤ 4 ∧ i = .int .i64 k ∧ Ent bs k st ∧ Rs w wr st.s st.met p0 p1 p2 p3 O ∧ OkO O bs.length st.ivs) (fun i _ => 4 - (intOf i).toNat)
        case atStart => exact ⟨0, sst0, _, _, _, _, _, by omega, rfl, ⟨rfl, rfl, by simp [sst0]⟩, HRS.out, HOK.out⟩
        case round =>
          obtain ⟨k, st, p0, p1, p2, p3, O, hk, rfl, hen, hrs, hok⟩ := hrel
          have HEN : Hid (Ent bs k st) := hen
          have HR2 : Hid (Rs w wr st.s st.met p0 p1 p2 p3 O) := hrs
          have HO2 : Hid (OkO O bs.length st.ivs) := hok
          clear hen hrs hok HRS HOK
          by_cases hlt : k < 4
          · obtain ⟨pl, hpl⟩ : ∃ pl : Nat, 8 + 12 * (k : Int) = (pl : Int) := ⟨8 + 12 * k, by simp⟩
            have hpe : pl = ePlace k := by unfold ePlace; omega
            have HPE : Hid (pl = ePlace k) := hpe
            have hpl56 : pl + 12 ≤ 56 := by omega
            have HVR : Hid (Bs wr (.slice (some ⟨b, off, none⟩) bs.length c) bs) := HV.out wr HR2.out.below
            have HN1 : Hid (Calls Try.prog 24 #[.slice (some ⟨b, off, none⟩) bs.length c, .int .i64 (pl : Int), .int .i64 4] wr fun e w' => e = .returned (.int .u64 (eAt bs k : Int)) ∧ w' = wr) := by
              have := refNum_any HVR.out pl 4 (by omega) (by omega) (by omega)
              rw [hpe] at this ⊢
              exact this
            have HN2 : Hid (Calls Try.prog 24 #[.slice (some ⟨b, off, none⟩) bs.length c, .int .i64 ((pl : Int) + 4), .int .i64 4] wr fun e w' => e = .returned (.int .u64 (eLen bs k : Int)) ∧ w' = wr) := by
              have := refNum_any HVR.out (pl + 4) 4 (by omega) (by omega) (by omega)
              rw [show ((pl + 4 : Nat) : Int) = (pl : Int) + 4 by simp] at this
              rw [hpe] at this ⊢
              exact this
            clear hpe
            have hat := numAt_lt bs (ePlace k) 4
            have hln := numAt_lt bs (ePlace k + 4) 4
            have hat' : eAt bs k < 4294967296 := hat
            have hln' : eLen bs k < 4294967296 := hln
            have hw1 : IntKind.i64.wrap (eAt bs k : Int) = (eAt bs k : Int) := by rw [IntKind.wrap_i64]; omega
            have hw2 : IntKind.i64.wrap (eLen bs k : Int) = (eLen bs k : Int) := by rw [IntKind.wrap_i64]; omega
            clear hat hln
            go_wp2_with fail
            refine Calls.mono HN1.out ?_
            rintro e wz ⟨rfl, hz⟩
            subst wz
            go_wp2_with fail
            refine Calls.mono HN2.out ?_
            rintro e wz ⟨rfl, hz⟩
            subst wz
            clear HN1 HN2
            obtain ⟨sa, sc, hsl0, hbsl, -⟩ := slice_bs (P := Try.prog) HVR.out (pl + 8) 4 (by omega) 22 5 Try.underlying22 sizeU8
            have hsl : ∀ W, (Instr.slice 22 (.slice (some ⟨b, off, none⟩) bs.length c) (some (.int .i64 ((pl : Int) + 8))) (some (.int .i64 ((pl : Int) + 12))) none).run Try.prog W = .ok (.slice sa 4 sc) W := fun W => by
              have := hsl0 W .i64 .i64
              rw [show ((pl + 8 : Nat) : Int) = (pl : Int) + 8 by simp, show (pl : Int) + 8 + ((4 : Nat) : Int) = (pl : Int) + 12 by omega] at this
              exact this
            have HTG : Hid (seg bs (pl + 8) 4 = eTag bs k) := by show _ = _; rw [HPE.out]; rfl
            have hcv : ∀ m, (convert 22 9 (.slice sa 4 sc)).run Try.prog (wr.drewN m) = .ok (.string ⟨(eTag bs k).toArray⟩) (wr.drewN m) := fun m => by
              have := convert_bs (hbsl.drewN m)
              rw [HTG.out] at this
              exact this
            have HMC : Hid (∀ j, j < 4 → wr.cell? ⟨w.heap.size + 1 + 1 + 1, j, none⟩ = some (.bool (st.met.contains j))) := fun j hj => HR2.out.mcell j hj
            clear hsl0 hbsl
            have hd4 : decide ((k : Int) < 4) = true := by rw [decide_eq_true_eq]; omega
            have hwa : IntKind.i64.wrap ((pl : Int) + 8) = (pl : Int) + 8 := by rw [IntKind.wrap_i64]; omega
            have hwb : IntKind.i64.wrap ((pl : Int) + 12) = (pl : Int) + 12 := by rw [IntKind.wrap_i64]; omega
            go_wp2_with fail
            go_loopw [10, 11] (fun kk j wq => ∃ jj nn : Nat, jj ≤ 4 ∧ j = .int .i64 jj ∧ kk = .int .i64 (tagI (tagTo st.met (eTag bs k) jj)) ∧ wq = wr.drewN nn) (fun _ j _ => 4 - (intOf j).toNat)
            case atStart => exact ⟨0, 0, by omega, rfl, rfl, rfl⟩
            case round =>
              obtain ⟨jj, nn, hjj, rfl, rfl, rfl⟩ := hrel
              by_cases hj4 : jj < 4
              · have hmc := HMC.out jj hj4
                have hsq := str_ne (tagB jj) ⟨(eTag bs k).toArray⟩ (eTag bs k) rfl
                have htj : tagS jj = ⟨(tagB jj).toArray⟩ := by rcases four_cases hj4 with rfl | rfl | rfl | rfl <;> rfl
                have HTJ : Hid _ := htj
                have HTA : Hid (∀ W, Calls Try.prog 25 #[.int .i64 (jj : Int)] W fun e w' => e = .returned (.string ⟨(tagB jj).toArray⟩) ∧ w' = W) := fun W => by rw [← htj]; exact tag_any jj hj4 W
                clear htj
                by_cases he : tagB jj = eTag bs k
                · rw [decide_eq_true he] at hsq
                  cases hmm : st.met.contains jj with
                  | true =>
                    have HTN : Hid (tagTo st.met (eTag bs k) (jj + 1) = tagTo st.met (eTag bs k) jj) := by
                      show _ = _
                      rw [tagTo, if_neg (fun h => h.2 (by simpa using hmm))]
                    rw [hmm] at hmc
                    clear hmm
                    go_wp2_with fail
                    go_quiet ((go_at_call 25; go_must (exact quiet_on (HTA.out _))))
                    go_wp2_with fail
                    go_roundw
                    case rel => exact ⟨jj + 1, nn + nq, by omega, by go_num, by rw [HTN.out], rfl⟩
                    case measure => simp [intOf]; omega
                  | false =>
                    have HTN : Hid (tagTo st.met (eTag bs k) (jj + 1) = some jj) := by
                      show _ = _
                      rw [tagTo, if_pos ⟨he, by simpa using hmm⟩]
                    rw [hmm] at hmc
                    clear hmm
                    go_wp2_with fail
                    go_quiet ((go_at_call 25; go_must (exact quiet_on (HTA.out _))))
                    go_wp2_with fail
                    go_roundw
                    case rel => exact ⟨jj + 1, nn + nq, by omega, by go_num, by rw [HTN.out]; rfl, rfl⟩
                    case measure => simp [intOf]; omega
                · rw [decide_eq_false he] at hsq
                  have hbq : (tagB jj == eTag bs k) = false := by rw [beq_eq_false_iff_ne]; exact he
                  have HTN : Hid (tagTo st.met (eTag bs k) (jj + 1) = tagTo st.met (eTag bs k) jj) := by
                    show _ = _
                    rw [tagTo, if_neg (fun h => he h.1)]
                  go_wp2_with fail
                  go_quiet ((go_at_call 25; go_must (exact quiet_on (HTA.out _))))
                  go_wp2_with fail
                  go_roundw
                  case rel => exact ⟨jj + 1, nn + nq, by omega, by go_num, by rw [HTN.out], rfl⟩
                  case measure => simp [intOf]; omega
              · have hj4' : jj = 4 := by omega
                subst hj4'
                have HR3 : Hid (Rs w (wr.drewN nn) st.s st.met p0 p1 p2 p3 O) := HR2.out.later (Below.drewN (Below.refl _ _) nn)
                clear HR2 HMC hcv HVR hsl hj4
                generalize wr.drewN nn = wd at *
                rw [tagTo_all]
                cases htg : tagOf st.met (eTag bs k) with
                | none =>
                  have HSTP : Hid (stepT bs st (eTag bs k) (eAt bs k) (eLen bs k) = .inl 2) := by show _ = _; unfold stepT; rw [htg]
                  have htn : tagI none = -1 := rfl
                  rw [htn]
                  have HF : Hid (splitR bs = (Strm.nil, ePlace k, 2)) := by
                    show _ = _
                    have := HEN.out.fault (c := 2) hlt (by rw [HSTP.out])
                    rw [HR.out, this]
                  obtain ⟨f0, f1, f2, f3, f4, f5, fz⟩ := HR3.out.rcells
                  have z0 := fz 0
                  have z1 := fz 1
                  have z2 := fz 2
                  have z3 := fz 3
                  have z4 := fz 4
                  have z5 := fz 5
                  clear fz
                  go_wp2_with fail
                  obtain ⟨q0, q1, q2, q3, q4, q5, q6⟩ := res6 HR3.out.res (.slice none 0 0) (.slice none 0 0) (.slice none 0 0) (.slice none 0 0) (.int .i64 (pl : Int)) (.int .i64 2) _ rfl
                  exact bodyPost_ret (v := .agg #[.slice none 0 0, .slice none 0 0, .slice none 0 0, .slice none 0 0, .int .i64 (pl : Int), .int .i64 2]) (by simp [results, Try.results11, go_sem, q1, q2, q3, q4, q5, q6]) rfl ⟨PtR.err HF.out _ _ _ (by rw [HPE.out]) rfl, HR3.out.below.trans (q0.below (Nat.le_refl _) (by have := HR3.out.lt; omega))⟩
                | some kk =>
                  have HSTP : Hid (stepT bs st (eTag bs k) (eAt bs k) (eLen bs k) = if eAt bs k < 56 ∨ eAt bs k % 4 ≠ 0 then .inl 3 else if bs.length < eAt bs k + eLen bs k then .inl 1 else if shares st.ivs (eAt bs k) (eLen bs k) = true then .inl 2 else .inr ⟨st.s.put kk (seg bs (eAt bs k) (eLen bs k)), st.met ++ [kk], st.ivs ++ [(eAt bs k, eLen bs k)]⟩) := by show _ = _; unfold stepT; rw [htg]
                  have hkk4 : kk < 4 := (tagOf_some htg).1
                  have htn : tagI (some kk) = (kk : Int) := rfl
                  rw [htn]
                  clear htn
                  by_cases hr1 : eAt bs k < 56
                  · have HF : Hid (splitR bs = (Strm.nil, ePlace k, 3)) := by
                      show _ = _
                      have := HEN.out.fault (c := 3) hlt (by rw [HSTP.out, if_pos (.inl hr1)])
                      rw [HR.out, this]
                    obtain ⟨f0, f1, f2, f3, f4, f5, fz⟩ := HR3.out.rcells
                    have z0 := fz 0
                    have z1 := fz 1
                    have z2 := fz 2
                    have z3 := fz 3
                    have z4 := fz 4
                    have z5 := fz 5
                    clear fz
                    go_wp2_with fail
                    obtain ⟨q0, q1, q2, q3, q4, q5, q6⟩ := res6 HR3.out.res (.slice none 0 0) (.slice none 0 0) (.slice none 0 0) (.slice none 0 0) (.int .i64 (pl : Int)) (.int .i64 3) _ rfl
                    exact bodyPost_ret (v := .agg #[.slice none 0 0, .slice none 0 0, .slice none 0 0, .slice none 0 0, .int .i64 (pl : Int), .int .i64 3]) (by simp [results, Try.results11, go_sem, q1, q2, q3, q4, q5, q6]) rfl ⟨PtR.err HF.out _ _ _ (by rw [HPE.out]) rfl, HR3.out.below.trans (q0.below (Nat.le_refl _) (by have := HR3.out.lt; omega))⟩
                  · by_cases hr2 : eAt bs k % 4 ≠ 0
                    · have HF : Hid (splitR bs = (Strm.nil, ePlace k, 3)) := by
                        show _ = _
                        have := HEN.out.fault (c := 3) hlt (by rw [HSTP.out, if_pos (.inr hr2)])
                        rw [HR.out, this]
                      have hr3 : ((eAt bs k : Int) % 4 != 0) = true := by rw [bne_iff_ne]; omega
                      clear hr2
                      obtain ⟨f0, f1, f2, f3, f4, f5, fz⟩ := HR3.out.rcells
                      have z0 := fz 0
                      have z1 := fz 1
                      have z2 := fz 2
                      have z3 := fz 3
                      have z4 := fz 4
                      have z5 := fz 5
                      clear fz
                      go_wp2_with fail
                      obtain ⟨q0, q1, q2, q3, q4, q5, q6⟩ := res6 HR3.out.res (.slice none 0 0) (.slice none 0 0) (.slice none 0 0) (.slice none 0 0) (.int .i64 (pl : Int)) (.int .i64 3) _ rfl
                      exact bodyPost_ret (v := .agg #[.slice none 0 0, .slice none 0 0, .slice none 0 0, .slice none 0 0, .int .i64 (pl : Int), .int .i64 3]) (by simp [results, Try.results11, go_sem, q1, q2, q3, q4, q5, q6]) rfl ⟨PtR.err HF.out _ _ _ (by rw [HPE.out]) rfl, HR3.out.below.trans (q0.below (Nat.le_refl _) (by have := HR3.out.lt; omega))⟩
                    · have hr3 : ((eAt bs k : Int) % 4 != 0) = false := by rw [bne_eq_false_iff_eq]; omega
                      by_cases hr4 : bs.length < eAt bs k + eLen bs k
                      · have HF : Hid (splitR bs = (Strm.nil, ePlace k, 1)) := by
                          show _ = _
                          have := HEN.out.fault (c := 1) hlt (by rw [HSTP.out, if_neg (by omega), if_pos hr4])
                          rw [HR.out, this]
                        obtain ⟨f0, f1, f2, f3, f4, f5, fz⟩ := HR3.out.rcells
                        have z0 := fz 0
                        have z1 := fz 1
                        have z2 := fz 2
                        have z3 := fz 3
                        have z4 := fz 4
                        have z5 := fz 5
                        clear fz
                        go_wp2_with fail
                        obtain ⟨q0, q1, q2, q3, q4, q5, q6⟩ := res6 HR3.out.res (.slice none 0 0) (.slice none 0 0) (.slice none 0 0) (.slice none 0 0) (.int .i64 (pl : Int)) (.int .i64 1) _ rfl
                        exact bodyPost_ret (v := .agg #[.slice none 0 0, .slice none 0 0, .slice none 0 0, .slice none 0 0, .int .i64 (pl : Int), .int .i64 1]) (by simp [results, Try.results11, go_sem, q1, q2, q3, q4, q5, q6]) rfl ⟨PtR.err HF.out _ _ _ (by rw [HPE.out]) rfl, HR3.out.below.trans (q0.below (Nat.le_refl _) (by have := HR3.out.lt; omega))⟩
                      · have HST2 : Hid (stepT bs st (eTag bs k) (eAt bs k) (eLen bs k) = if shares st.ivs (eAt bs k) (eLen bs k) = true then .inl 2 else .inr ⟨st.s.put kk (seg bs (eAt bs k) (eLen bs k)), st.met ++ [kk], st.ivs ++ [(eAt bs k, eLen bs k)]⟩) := by show _ = _; rw [HSTP.out, if_neg (by omega), if_neg hr4]
                        clear HSTP htg
                        have hdk : decide ((kk : Int) < 0) = false := by rw [decide_eq_false_iff_not]; omega
                        have hda : decide ((eAt bs k : Int) < 56) = false := by rw [decide_eq_false_iff_not]; omega
                        have hdl : decide ((bs.length : Int) < (eAt bs k : Int) + (eLen bs k : Int)) = false := by rw [decide_eq_false_iff_not]; omega
                        go_wp2_with fail
                        go_loopw [12] (fun j wq => ∃ (jj : Nat) (O' : Array Value), eAt bs k ≤ jj ∧ jj ≤ eAt bs k + eLen bs k ∧ j = .int .i64 jj ∧ Rs w wq st.s st.met p0 p1 p2 p3 O' ∧ OkM O O' bs.length (eAt bs k) jj kk st.ivs) (fun j _ => eAt bs k + eLen bs k - (intOf j).toNat)
                        case atStart => exact ⟨eAt bs k, O, by omega, by omega, rfl, HR3.out, OkM.start HO2.out⟩
                        case round =>
                          obtain ⟨jj, O', hja, hjb, rfl, hrs, hom⟩ := hrel
                          have HR4 : Hid (Rs w wr st.s st.met p0 p1 p2 p3 O') := hrs
                          have HOM : Hid (OkM O O' bs.length (eAt bs k) jj kk st.ivs) := hom
                          clear hrs hom HR3
                          by_cases hjn : jj < eAt bs k + eLen bs k
                          · obtain ⟨x, hx1, hx2, hx3, hx4⟩ := HOM.out.at HO2.out (by omega)
                            have hoc : wr.cell? ⟨w.heap.size + 1 + 1, jj, none⟩ = some (.int .i64 x) := (HR4.out.ocell jj).trans hx1
                            have hof : wr.frozen? ⟨w.heap.size + 1 + 1, jj, none⟩ = false := (HR4.out.melt jj).2.1
                            clear hx1
                            by_cases hxp : 0 < x
                            · have HF : Hid (splitR bs = (Strm.nil, ePlace k, 2)) := by
                                show _ = _
                                have hsh := shares_yes (ivs := st.ivs) hja hjn (by rw [← hx4, decide_eq_true_eq]; exact hxp)
                                have := HEN.out.fault (c := 2) hlt (by rw [HST2.out, if_pos hsh])
                                rw [HR.out, this]
                              clear hx4
                              obtain ⟨f0, f1, f2, f3, f4, f5, fz⟩ := HR4.out.rcells
                              have z0 := fz 0
                              have z1 := fz 1
                              have z2 := fz 2
                              have z3 := fz 3
                              have z4 := fz 4
                              have z5 := fz 5
                              clear fz
                              go_wp2_with fail
                              obtain ⟨q0, q1, q2, q3, q4, q5, q6⟩ := res6 HR4.out.res (.slice none 0 0) (.slice none 0 0) (.slice none 0 0) (.slice none 0 0) (.int .i64 (pl : Int)) (.int .i64 2) _ rfl
                              exact bodyPost_ret (v := .agg #[.slice none 0 0, .slice none 0 0, .slice none 0 0, .slice none 0 0, .int .i64 (pl : Int), .int .i64 2]) (by simp [results, Try.results11, go_sem, q1, q2, q3, q4, q5, q6]) rfl ⟨PtR.err HF.out _ _ _ (by rw [HPE.out]) rfl, HR4.out.below.trans (q0.below (Nat.le_refl _) (by have := HR4.out.lt; omega))⟩
                            · have HOM2 : Hid (OkM O (O'.setIfInBounds jj (.int .i64 ((kk : Int) + 1))) bs.length (eAt bs k) (jj + 1) kk st.ivs) := HOM.out.next hja (by omega) (by rw [← hx4, decide_eq_false_iff_not]; exact hxp)
                              have HR5 : Hid (Rs w (wr.setCell ⟨w.heap.size + 1 + 1, jj, none⟩ (.int .i64 ((kk : Int) + 1))) st.s st.met p0 p1 p2 p3 (O'.setIfInBounds jj (.int .i64 ((kk : Int) + 1)))) := HR4.out.setO jj _
                              have hxd : decide (0 < x) = false := by rw [decide_eq_false_iff_not]; exact hxp
                              clear hx4
                              go_wp2_with fail
                              go_roundw
                              case rel => exact ⟨jj + 1, _, by omega, by omega, by go_num, HR5.out, HOM2.out⟩
                              case measure => simp [intOf]; omega
                          · have hje : jj = eAt bs k + eLen bs k := by omega
                            obtain ⟨hsh, hok⟩ := (hje ▸ HOM.out : OkM O O' bs.length (eAt bs k) (eAt bs k + eLen bs k) kk st.ivs).done HO2.out hkk4
                            have HEN2 : Hid (Ent bs (k + 1) ⟨st.s.put kk (seg bs (eAt bs k) (eLen bs k)), st.met ++ [kk], st.ivs ++ [(eAt bs k, eLen bs k)]⟩) := HEN.out.next (by rw [HST2.out, if_neg (by rw [hsh]; simp)])
                            have HOK2 : Hid (OkO O' bs.length (st.ivs ++ [(eAt bs k, eLen bs k)])) := hok
                            clear hsh hok hje
                            have hmc := HR4.out.mcell kk hkk4
                            have hmf := (HR4.out.melt kk).2.2
                            have hmc' : wr.cell? ⟨w.heap.size + 1 + 1 + 1, kk, none⟩ = some (.bool (st.met.contains kk)) := hmc
                            have hmf' : wr.frozen? ⟨w.heap.size + 1 + 1 + 1, kk, none⟩ = false := hmf
                            have HR5 : Hid (Rs w (wr.setCell ⟨w.heap.size + 1 + 1 + 1, kk, none⟩ (.bool true)) st.s (st.met ++ [kk]) p0 p1 p2 p3 O') := HR4.out.setM kk hkk4
                            have HV5 : Hid (Bs (wr.setCell ⟨w.heap.size + 1 + 1 + 1, kk, none⟩ (.bool true)) (.slice (some ⟨b, off, none⟩) bs.length c) bs) := HV.out _ HR5.out.below
                            obtain ⟨sa2, sc2, hsl2, hbs2, -⟩ := slice_bs (P := Try.prog) HV5.out (eAt bs k) (eLen bs k) (by omega) 22 5 Try.underlying22 sizeU8
                            have HB5 : Hid (Bs (wr.setCell ⟨w.heap.size + 1 + 1 + 1, kk, none⟩ (.bool true)) (.slice sa2 (eLen bs k) sc2) (seg bs (eAt bs k) (eLen bs k))) := hbs2
                            have hsn : (seg bs (eAt bs k) (eLen bs k)).length = eLen bs k := seg_length bs _ _ (by omega)
                            have HSN : Hid _ := hsn
                            have htop := HR5.out.below.size
                            clear hmc hmf hbs2 hsn HR4
                            have hkm : (kk : Int) < 4 := by omega
                            go_wp2_with (at_builtin; go_must (refine wpList_append_at rfl _ _ _ _ rfl w.heap.size 5 (.int .u8 0) 1 Try.underlying22 Try.infoU8 rfl rfl rfl (OwnV.nil _ _ _) (HB5.out.src Try.underlying22) (by rw [HSN.out]; simp [maxLen]; omega) (by rw [HSN.out]; simp; omega) htop ?_))
                            intro v6 w6 ho6 hg6 _ _
                            have ho6' : Own w6 w.heap.size 5 v6 (seg bs (eAt bs k) (eLen bs k)) := by
                              exact OwnV.own (by simpa using ho6)
                            have hb6 : Below (wr.setCell ⟨w.heap.size + 1 + 1 + 1, kk, none⟩ (.bool true)).heap.size (wr.setCell ⟨w.heap.size + 1 + 1 + 1, kk, none⟩ (.bool true)) w6 := ⟨hg6.os, hg6.tape, hg6.output, hg6.size, fun k hk => hg6.block k hk (by simp [Value.ownBlock])⟩
                            have HR6 : Hid (Rs w w6 st.s (st.met ++ [kk]) p0 p1 p2 p3 O') := HR5.out.later hb6
                            have HO6 : Hid (Own w6 w.heap.size 5 v6 (seg bs (eAt bs k) (eLen bs k))) := ho6'
                            obtain ⟨x6, y6, e6, -⟩ := ho6'.bs
                            rw [HSN.out] at e6
                            obtain ⟨g0, j0, e0, -⟩ := HR6.out.o0.bs
                            obtain ⟨g1, j1, e1, -⟩ := HR6.out.o1.bs
                            obtain ⟨g2, j2, e2, -⟩ := HR6.out.o2.bs
                            obtain ⟨g3, j3, e3, -⟩ := HR6.out.o3.bs
                            clear ho6 hg6 ho6' hb6 hsl2 HB5 HV5 hmc' hmf'
                            subst e6 e0 e1 e2 e3
                            clear HR5
                            obtain ⟨d0, d1, d2, d3, -, -⟩ := HR6.out.cells
                            have HPT : Hid (Calls Try.prog 26 #[.agg #[.slice g0 st.s.r.length j0, .slice g1 st.s.n.length j1, .slice g2 st.s.b.length j2, .slice g3 st.s.c.length j3], .int .i64 (kk : Int), .slice x6 (eLen bs k) y6] w6 fun e w' => e = .returned (setV kk (.slice x6 (eLen bs k) y6) (.slice g0 st.s.r.length j0) (.slice g1 st.s.n.length j1) (.slice g2 st.s.b.length j2) (.slice g3 st.s.c.length j3)) ∧ Below w6.heap.size w6 w') := refPut3_run g0 g1 g2 g3 x6 _ _ _ _ _ j0 j1 j2 j3 y6 kk hkk4 w6
                            go_wp2_with fail
                            refine Calls.mono HPT.out ?_
                            rintro e w7 ⟨rfl, hb7⟩
                            have HR7 : Hid (Rs w w7 st.s (st.met ++ [kk]) (.slice g0 st.s.r.length j0) (.slice g1 st.s.n.length j1) (.slice g2 st.s.b.length j2) (.slice g3 st.s.c.length j3) O') := HR6.out.later hb7
                            have HO7 : Hid (Own w7 w.heap.size 5 (.slice x6 (eLen bs k) y6) (seg bs (eAt bs k) (eLen bs k))) := HO6.out.later hb7
                            clear hb7 HPT HR6 HO6 d0 d1 d2 d3
                            obtain ⟨d0, d1, d2, d3, -, -⟩ := HR7.out.cells
                            have m0 := (HR7.out.melt 0).1
                            have m1 := (HR7.out.melt 1).1
                            have m2 := (HR7.out.melt 2).1
                            have m3 := (HR7.out.melt 3).1
                            rcases four_cases hkk4 with rfl | rfl | rfl | rfl
                            · have hsv : setV 0 (.slice x6 (eLen bs k) y6) (.slice g0 st.s.r.length j0) (.slice g1 st.s.n.length j1) (.slice g2 st.s.b.length j2) (.slice g3 st.s.c.length j3) = .agg #[.slice x6 (eLen bs k) y6, .slice g1 st.s.n.length j1, .slice g2 st.s.b.length j2, .slice g3 st.s.c.length j3] := rfl
                              rw [hsv]
                              have HR8 : Hid (∀ W, W = (((w7.setCell ⟨w.heap.size + 1, 0, none⟩ (.slice x6 (eLen bs k) y6)).setCell ⟨w.heap.size + 1, 1, none⟩ (.slice g1 st.s.n.length j1)).setCell ⟨w.heap.size + 1, 2, none⟩ (.slice g2 st.s.b.length j2)).setCell ⟨w.heap.size + 1, 3, none⟩ (.slice g3 st.s.c.length j3) → Rs w W (st.s.put 0 (seg bs (eAt bs k) (eLen bs k))) (st.met ++ [0]) (.slice x6 (eLen bs k) y6) (.slice g1 st.s.n.length j1) (.slice g2 st.s.b.length j2) (.slice g3 st.s.c.length j3) O') := fun W hW => HR7.out.setP hW HO7.out HR7.out.o1 HR7.out.o2 HR7.out.o3
                              clear hsv
                              go_wp2_with fail
                              go_roundw
                              case rel => exact ⟨k + 1, _, _, _, _, _, _, by omega, by go_num, HEN2.out, HR8.out _ rfl, HOK2.out⟩
                              case measure => simp [intOf]; omega
                            · have hsv : setV 1 (.slice x6 (eLen bs k) y6) (.slice g0 st.s.r.length j0) (.slice g1 st.s.n.length j1) (.slice g2 st.s.b.length j2) (.slice g3 st.s.c.length j3) = .agg #[.slice g0 st.s.r.length j0, .slice x6 (eLen bs k) y6, .slice g2 st.s.b.length j2, .slice g3 st.s.c.length j3] := rfl
                              rw [hsv]
                              have HR8 : Hid (∀ W, W = (((w7.setCell ⟨w.heap.size + 1, 0, none⟩ (.slice g0 st.s.r.length j0)).setCell ⟨w.heap.size + 1, 1, none⟩ (.slice x6 (eLen bs k) y6)).setCell ⟨w.heap.size + 1, 2, none⟩ (.slice g2 st.s.b.length j2)).setCell ⟨w.heap.size + 1, 3, none⟩ (.slice g3 st.s.c.length j3) → Rs w W (st.s.put 1 (seg bs (eAt bs k) (eLen bs k))) (st.met ++ [1]) (.slice g0 st.s.r.length j0) (.slice x6 (eLen bs k) y6) (.slice g2 st.s.b.length j2) (.slice g3 st.s.c.length j3) O') := fun W hW => HR7.out.setP hW HR7.out.o0 HO7.out HR7.out.o2 HR7.out.o3
                              clear hsv
                              go_wp2_with fail
                              go_roundw
                              case rel => exact ⟨k + 1, _, _, _, _, _, _, by omega, by go_num, HEN2.out, HR8.out _ rfl, HOK2.out⟩
                              case measure => simp [intOf]; omega
                            · have hsv : setV 2 (.slice x6 (eLen bs k) y6) (.slice g0 st.s.r.length j0) (.slice g1 st.s.n.length j1) (.slice g2 st.s.b.length j2) (.slice g3 st.s.c.length j3) = .agg #[.slice g0 st.s.r.length j0, .slice g1 st.s.n.length j1, .slice x6 (eLen bs k) y6, .slice g3 st.s.c.length j3] := rfl
                              rw [hsv]
                              have HR8 : Hid (∀ W, W = (((w7.setCell ⟨w.heap.size + 1, 0, none⟩ (.slice g0 st.s.r.length j0)).setCell ⟨w.heap.size + 1, 1, none⟩ (.slice g1 st.s.n.length j1)).setCell ⟨w.heap.size + 1, 2, none⟩ (.slice x6 (eLen bs k) y6)).setCell ⟨w.heap.size + 1, 3, none⟩ (.slice g3 st.s.c.length j3) → Rs w W (st.s.put 2 (seg bs (eAt bs k) (eLen bs k))) (st.met ++ [2]) (.slice g0 st.s.r.length j0) (.slice g1 st.s.n.length j1) (.slice x6 (eLen bs k) y6) (.slice g3 st.s.c.length j3) O') := fun W hW => HR7.out.setP hW HR7.out.o0 HR7.out.o1 HO7.out HR7.out.o3
                              clear hsv
                              go_wp2_with fail
                              go_roundw
                              case rel => exact ⟨k + 1, _, _, _, _, _, _, by omega, by go_num, HEN2.out, HR8.out _ rfl, HOK2.out⟩
                              case measure => simp [intOf]; omega
                            · have hsv : setV 3 (.slice x6 (eLen bs k) y6) (.slice g0 st.s.r.length j0) (.slice g1 st.s.n.length j1) (.slice g2 st.s.b.length j2) (.slice g3 st.s.c.length j3) = .agg #[.slice g0 st.s.r.length j0, .slice g1 st.s.n.length j1, .slice g2 st.s.b.length j2, .slice x6 (eLen bs k) y6] := rfl
                              rw [hsv]
                              have HR8 : Hid (∀ W, W = (((w7.setCell ⟨w.heap.size + 1, 0, none⟩ (.slice g0 st.s.r.length j0)).setCell ⟨w.heap.size + 1, 1, none⟩ (.slice g1 st.s.n.length j1)).setCell ⟨w.heap.size + 1, 2, none⟩ (.slice g2 st.s.b.length j2)).setCell ⟨w.heap.size + 1, 3, none⟩ (.slice x6 (eLen bs k) y6) → Rs w W (st.s.put 3 (seg bs (eAt bs k) (eLen bs k))) (st.met ++ [3]) (.slice g0 st.s.r.length j0) (.slice g1 st.s.n.length j1) (.slice g2 st.s.b.length j2) (.slice x6 (eLen bs k) y6) O') := fun W hW => HR7.out.setP hW HR7.out.o0 HR7.out.o1 HR7.out.o2 HO7.out
                              clear hsv
                              go_wp2_with fail
                              go_roundw
                              case rel => exact ⟨k + 1, _, _, _, _, _, _, by omega, by go_num, HEN2.out, HR8.out _ rfl, HOK2.out⟩
                              case measure => simp [intOf]; omega
          · have hk4 : k = 4 := by omega
            subst hk4
            have HF : Hid (splitR bs = (st.s, 0, 0)) := by show _ = _; rw [HR.out, HEN.out.run]
            obtain ⟨g0, j0, e0, -⟩ := HR2.out.o0.bs
            obtain ⟨g1, j1, e1, -⟩ := HR2.out.o1.bs
            obtain ⟨g2, j2, e2, -⟩ := HR2.out.o2.bs
            obtain ⟨g3, j3, e3, -⟩ := HR2.out.o3.bs
            subst e0 e1 e2 e3
            obtain ⟨d0, d1, d2, d3, d4, d5⟩ := HR2.out.cells
            obtain ⟨f0, f1, f2, f3, f4, f5, fz⟩ := HR2.out.rcells
            have z0 := fz 0
            have z1 := fz 1
            have z2 := fz 2
            have z3 := fz 3
            have z4 := fz 4
            have z5 := fz 5
            clear fz
            have HX : Hid (∀ W, Only w.heap.size wr W → PtR bs (.returned (.agg #[.slice g0 st.s.r.length j0, .slice g1 st.s.n.length j1, .slice g2 st.s.b.length j2, .slice g3 st.s.c.length j3, .int .i64 0, .int .i64 0])) W ∧ Below w.heap.size w W) := fun W hW => by
              have u8 : ∀ {v : Value} {xs : List UInt8}, Own wr w.heap.size 5 v xs → Bs W v xs := fun hv => hv.bs.only hW fun _ e => by
                obtain ⟨C', hC'⟩ := row_typed hv _ e
                exact ne_typed hC' HR2.out.res (by decide) rfl
              refine ⟨⟨g0, g1, g2, g3, j0, j1, j2, j3, by rw [HF.out]; rfl, by rw [HF.out]; exact ⟨_, _, _, _, rfl, u8 HR2.out.o0, u8 HR2.out.o1, u8 HR2.out.o2, u8 HR2.out.o3⟩⟩, HR2.out.below.trans (hW.below (Nat.le_refl _) (by have := HR2.out.lt; omega))⟩
            go_wp2_with fail
            obtain ⟨q0, q1, q2, q3, q4, q5, q6⟩ := res6 HR2.out.res (.slice g0 st.s.r.length j0) (.slice g1 st.s.n.length j1) (.slice g2 st.s.b.length j2) (.slice g3 st.s.c.length j3) (.int .i64 0) (.int .i64 0) _ rfl
            exact bodyPost_ret (v := .agg #[.slice g0 st.s.r.length j0, .slice g1 st.s.n.length j1, .slice g2 st.s.b.length j2, .slice g3 st.s.c.length j3, .int .i64 0, .int .i64 0]) (by simp [results, Try.results11, go_sem, q1, q2, q3, q4, q5, q6]) rfl (HX.out _ q0)
      · have HR : Hid (splitR bs = (Strm.nil, 6, 2)) := by
          show _ = _
          have hb : beginR bs = (6, 2) := by simp [beginR, g1, g2, g3]
          have := split_begin (bs := bs) (by omega) h2 (by rw [hb]; simp)
          rw [this, hb]
        have hne : ((numAt bs 6 2 : Int) != 4) = true := by rw [bne_iff_ne]; omega
        rw [g2] at HN4
        clear g1 g2 g3
        go_enter Try.func11, Try.ntmps11
        go_wp2_with fail
        refine Calls.mono HN4.out ?_
        rintro e wz ⟨rfl, hz⟩
        subst wz
        go_wp2_with fail
        refine Calls.mono HN6.out ?_
        rintro e wz ⟨rfl, hz⟩
        subst wz
        go_wp2_with fail
        exact bodyPost_ret (v := .agg #[.slice none 0 0, .slice none 0 0, .slice none 0 0, .slice none 0 0, .int .i64 6, .int .i64 2]) (by simp [results, Try.results11, go_sem]) rfl ⟨PtR.err HR.out _ _ _ rfl rfl, (Below.refl _ _).alloc (Nat.le_refl _) _⟩
    · have HR : Hid (splitR bs = (Strm.nil, 4, 2)) := by
        show _ = _
        have hb : beginR bs = (4, 2) := by simp [beginR, g1, g2]
        have := split_begin (bs := bs) (by omega) h2 (by rw [hb]; simp)
        rw [this, hb]
      have hne : ((numAt bs 4 2 : Int) != 1) = true := by rw [bne_iff_ne]; omega
      clear g1 g2
      go_enter Try.func11, Try.ntmps11
      go_wp2_with fail
      refine Calls.mono HN4.out ?_
      rintro e wz ⟨rfl, hz⟩
      subst wz
      go_wp2_with fail
      exact bodyPost_ret (v := .agg #[.slice none 0 0, .slice none 0 0, .slice none 0 0, .slice none 0 0, .int .i64 4, .int .i64 2]) (by simp [results, Try.results11, go_sem]) rfl ⟨PtR.err HR.out _ _ _ rfl rfl, (Below.refl _ _).alloc (Nat.le_refl _) _⟩
  · rw [decide_eq_false g1] at hsq
    have HR : Hid (splitR bs = (Strm.nil, 0, 2)) := by
      show _ = _
      have hb : beginR bs = (0, 2) := by simp [beginR, g1]
      have := split_begin (bs := bs) (by omega) h2 (by rw [hb]; simp)
      rw [this, hb]
    clear g1
    go_enter Try.func11, Try.ntmps11
    go_wp2_with fail
    exact bodyPost_ret (v := .agg #[.slice none 0 0, .slice none 0 0, .slice none 0 0, .slice none 0 0, .int .i64 0, .int .i64 2]) (by simp [results, Try.results11, go_sem]) rfl ⟨PtR.err HR.out _ _ _ rfl rfl, (Below.refl _ _).alloc (Nat.le_refl _) _⟩

theorem refSplit_any {v : Value} {bs : List UInt8} {w : World} (hv : Bs w v bs) (h1 : bs.length ≤ 4000) :
    Calls Try.prog 11 #[v] w fun e w' => PtR bs e w' ∧ Below w.heap.size w w' := by
  by_cases h2 : bs.length < 56
  · exact refSplit_short hv h2
  · exact refSplit_near hv h1 h2

end Go.Proofs.Ytbehcdpjpjklfaa
