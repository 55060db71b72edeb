/- Texts joined: LayFull, LayFl. -/
import Derived.Test.YtkjailahaopehaaGreatQ42
import Derived.Test.YtkjailahaopehaaGreatQ40
import Derived.Test.YtkjailahaopehaaGreatQ52
import Derived.Test.YtkjailahaopehaaGreatQ13
import Derived.Laws.MakeOwn
namespace Go.Proofs.YtkjailahaopehaaGreat
set_option linter.unusedVariables false
set_option linter.unusedSimpArgs false
open Go.RowKit
def owJ (g : Img) (i : Nat) : Int := match g.fs[i]? with | some x => x.ow | none => -1
def stJ (g : Img) (i : Nat) : Bool := match g.fs[i]? with | some x => x.st | none => true
/-- The words of a field. -/
def seJ (g : Img) (i : Nat) : List Nat := match g.fs[i]? with | some x => List.range' (plcN g x i) (celL g x.t).length | none => []
theorem owJ_at {g : Img} {i : Nat} (h : i < g.fs.length) : owJ g i = g.fs[i].ow := by unfold owJ; rw [List.getElem?_eq_getElem h]
theorem stJ_at {g : Img} {i : Nat} (h : i < g.fs.length) : stJ g i = g.fs[i].st := by unfold stJ; rw [List.getElem?_eq_getElem h]
theorem seJ_at {g : Img} {i : Nat} (h : i < g.fs.length) : seJ g i = List.range' (plcN g g.fs[i] i) (celL g g.fs[i].t).length := by unfold seJ; rw [List.getElem?_eq_getElem h]
/-- The words of the fields, so many of all, that aren't static, of all types of a list. -/
def posM (g : Img) (up : List Int) (i : Nat) : List Nat := ((List.range i).filter (fun j => up.contains (owJ g j) && !stJ g j)).flatMap (seJ g)
theorem posM_take {g : Img} {up : List Int} {i : Nat} (hi : i < g.fs.length) : posM g up (i + 1) = posM g up i ++ (if (up.contains g.fs[i].ow && !g.fs[i].st) = true then List.range' (plcN g g.fs[i] i) (celL g g.fs[i].t).length else []) := by
 unfold posM
 rw [List.range_succ, List.filter_append, List.flatMap_append]
 congr 1
 rw [← owJ_at hi, ← stJ_at hi, ← seJ_at hi]
 cases h : (up.contains (owJ g i) && !stJ g i) <;> simp only [List.filter_cons, h] <;> simp
theorem posM_mem {g : Img} {up : List Int} {i : Nat} (hi : i ≤ g.fs.length) {x : Nat} (h : x ∈ posM g up i) : x ∈ posM g up g.fs.length := by
 unfold posM at *
 rw [List.mem_flatMap] at *
 obtain ⟨j, hj, hx⟩ := h
 rw [List.mem_filter, List.mem_range] at hj
 exact ⟨j, List.mem_filter.2 ⟨List.mem_range.2 (by omega), hj.2⟩, hx⟩
/-- Of one type: one behind the other. -/
theorem posU {g : Img} {u : Int} {B : Nat} (hB : ∀ i (h : i < g.fs.length), ownF u g.fs[i] = true → plcN g g.fs[i] i = B + (ownP g u i).length) : ∀ i, i ≤ g.fs.length → ((List.range i).filter (fun j => decide (owJ g j = u) && !stJ g j)).flatMap (seJ g) = List.range' B (ownP g u i).length
 | 0, _ => by simp [ownP]
 | i + 1, hi => by
  have hil : i < g.fs.length := by omega
  rw [List.range_succ, List.filter_append, List.flatMap_append, posU hB i (by omega), ownP_take hil, List.length_append]
  have hc : (decide (owJ g i = u) && !stJ g i) = ownF u g.fs[i] := by rw [owJ_at hil, stJ_at hil]; rfl
  cases h : ownF u g.fs[i] with
  | false =>
   rw [h] at hc
   simp [List.filter_cons, hc]
  | true =>
   rw [h] at hc
   have := hB i hil h
   rw [if_pos rfl]
   simp only [List.filter_cons, hc, if_pos, List.filter_nil, List.flatMap_cons, List.flatMap_nil, List.append_nil]
   rw [seJ_at hil, this, List.range'_append_1]
/-- Where a class's own fields begin. -/
def begU (g : Img) (u : Int) : Nat := 1 + (objL g (exI g u)).length
theorem segs {g : Img} (W : Wel g) : ∀ (n : Nat) (t : Int), (upL g t).length = n → ((upL g t).flatMap (fun u => List.range' (begU g u) (ownC g u).length)).Perm (List.range' 1 (objL g t).length)
 | n, t, hn => by
  cases ht : numB t g.ts.length with
  | false => rw [upL_out ht, objL_out ht]; simp
  | true =>
   have hc := upL_cons W ht
   rw [hc] at hn
   cases n with
   | zero => simp at hn
   | succ n =>
    have ih := segs W n (exI g t) (by simpa using hn)
    rw [hc, List.flatMap_cons, objL_cons W ht, List.length_append]
    have h1 : List.range' 1 ((objL g (exI g t)).length + (ownC g t).length) = List.range' 1 (objL g (exI g t)).length ++ List.range' (1 + (objL g (exI g t)).length) (ownC g t).length := (List.range'_append_1).symm
    rw [h1]
    exact (List.perm_append_comm).trans (List.Perm.append_right _ ih)
theorem posM_all {g : Img} (F : Fin_ g) {t : Int} (hk : kndI g t = 0) : (0 :: posM g (upL g t) g.fs.length).Perm (List.range ((objL g t).length + 1)) := by
 have W := Wel.of F.wel
 have ht := knd_num (g := g) (t := t) (by rw [hk]; decide)
 have hnd : (upL g t).Nodup := by have := (upL_nd g t).2; simpa using this
 have h1 := grp_perm (owJ g) (seJ g) hnd ((List.range g.fs.length).filter (fun j => !stJ g j))
 rw [List.filter_filter] at h1
 have h2 : (upL g t).flatMap (fun u => (((List.range g.fs.length).filter (fun j => !stJ g j)).filter (fun x => decide (owJ g x = u))).flatMap (seJ g)) = (upL g t).flatMap (fun u => List.range' (begU g u) (ownC g u).length) := by
  refine flatMap_eq fun u hu => ?_
  have hku : kndI g u = 0 := by
   rw [upL_cons W ht] at hu
   rcases List.mem_cons.1 hu with rfl | hu
   ·exact hk
   ·exact up_kind W (upL g t).length t ht (Nat.le_refl _) u (by rw [upL_cons W ht]; exact hu)
  rw [List.filter_filter, posU (B := begU g u) (fun i hi ho => ?_) g.fs.length (Nat.le_refl _), ownP_all (Nat.le_refl _)]
  unfold ownF at ho
  simp only [Bool.and_eq_true, decide_eq_true_iff, Bool.not_eq_true'] at ho
  unfold plcN begN begU
  rw [ho.2, if_neg (by decide), ho.1, if_pos hku, fwd_own ho.2, ho.1]
 rw [h2] at h1
 have h3 := h1.trans (segs W _ t rfl)
 have h4 : List.range ((objL g t).length + 1) = 0 :: List.range' 1 (objL g t).length := by
  rw [List.range_eq_range', List.range'_succ]
 rw [h4]
 exact List.Perm.cons 0 h3

/-- How often each number stands in a list. -/
def ca (N : Nat) (P : List Nat) : Array Value := ((List.range N).map (fun j => Value.int .i64 ((P.count j : Nat) : Int))).toArray
theorem ca_get {N : Nat} {P : List Nat} {j : Nat} (h : j < N) : (ca N P)[j]? = some (.int .i64 ((P.count j : Nat) : Int)) := by
 unfold ca
 simp [h]
theorem ca_size (N : Nat) (P : List Nat) : (ca N P).size = N := by unfold ca; simp
theorem ca_set {N : Nat} {P : List Nat} {x : Nat} (h : x < N) : (ca N P).setIfInBounds x (.int .i64 (((P.count x : Nat) : Int) + 1)) = ca N (P ++ [x]) := by
 apply Array.ext_getElem?
 intro j
 rw [Array.getElem?_setIfInBounds]
 by_cases hj : j < N
 ·rw [ca_get hj, ca_get hj, List.count_append]
  by_cases e : x = j
  ·subst e; rw [if_pos rfl, if_pos (by rw [ca_size]; exact h)]; simp
  ·rw [if_neg e]
   have : List.count j [x] = 0 := by rw [List.count_eq_zero]; simp; exact fun h => e h.symm
   rw [this, Nat.add_zero]
 ·have h1 : (ca N P)[j]? = none := by rw [Array.getElem?_eq_none]; rw [ca_size]; omega
  have h2 : (ca N (P ++ [x]))[j]? = none := by rw [Array.getElem?_eq_none]; rw [ca_size]; omega
  rw [h1, h2, if_neg (by omega)]
theorem count_rng : ∀ (N j : Nat), j < N → (List.range N).count j = 1
 | 0, j, h => by omega
 | N + 1, j, h => by
  rw [List.range_succ, List.count_append]
  by_cases e : j = N
  ·subst e
   have h1 : (List.range j).count j = 0 := by rw [List.count_eq_zero, List.mem_range]; omega
   rw [h1]; simp
  ·have h2 : List.count j [N] = 0 := by rw [List.count_eq_zero]; simpa using e
   rw [count_rng N j (by omega), h2]
theorem count_range {N : Nat} {P : List Nat} (h : P.Perm (List.range N)) {j : Nat} (hj : j < N) : P.count j = 1 := by
 rw [h.count_eq, count_rng N j hj]
theorem range_snoc (a b : Nat) : List.range (a + b) ++ [a + b] = List.range (a + (b + 1)) := by
 rw [show a + (b + 1) = (a + b) + 1 by omega, List.range_succ]
theorem range'_snoc (s b : Nat) : List.range' s b ++ [s + b] = List.range' s (b + 1) := by
 rw [← List.range'_append_1 (s := s) (m := b) (n := 1)]; rfl
theorem made_ca (n : Nat) : madeCells (Value.int .i64 0).cells (n * 1) = ca n [] := by
 apply Array.ext
 ·rw [size_madeCells, ca_size, Nat.mul_one]
 ·intro j h1 h2
  have hj : j < n := by rw [ca_size] at h2; exact h2
  have h3 : (ca n [])[j]? = some (.int .i64 (([] : List Nat).count j : Nat)) := ca_get hj
  rw [Array.getElem?_eq_getElem h2] at h3
  rw [Option.some.inj h3]
  simp [madeCells, Value.cells, Nat.mod_one]
theorem make_ca (w : World) (n : Nat) (hn : n ≤ 100000) : (Instr.makeSlice 47 (.int .i64 (n : Int)) (.int .i64 (n : Int))).run Tryz.prog w = .ok (.slice (some ⟨w.heap.size, 0, none⟩) n n) (w.alloc (.cells (ca n []) 3)) := by
 obtain ⟨i, hi, hz0, hz1, hz2⟩ := info_parts Tryz.infoInt7
 have := run_make (P := Tryz.prog) w 47 3 i _ Tryz.underlying47 hi hz0 .i64 .i64 (n : Int) (n : Int) (by omega) (by omega) (by rw [hz2]; omega) (by omega)
 rw [hz1, Int.toNat_natCast, made_ca] at this
 exact this

/-- The two rows, and a list apart from them. -/
structure Fl (W : World) (bm bs N Ns : Nat) (P Ps : List Nat) (uv : Value) (up : List Int) : Prop where
 met : At W bm (ca N P) 3
 still : At W bs (ca Ns Ps) 3
 up : Is W uv up
 apart : ∀ k, uv.ownBlock = some k → k ≠ bm ∧ k ≠ bs
 ne : bm ≠ bs
theorem Fl.later {W W' : World} {bm bs N Ns : Nat} {P Ps : List Nat} {uv : Value} {up : List Int} (h : Fl W bm bs N Ns P Ps uv up) (hb : Below W.heap.size W W') : Fl W' bm bs N Ns P Ps uv up :=
 ⟨h.met.later hb, h.still.later hb, Sl.later h.up hb, h.apart, h.ne⟩
theorem Fl.setM {W : World} {bm bs N Ns : Nat} {P Ps : List Nat} {uv : Value} {up : List Int} (h : Fl W bm bs N Ns P Ps uv up) {x : Nat} (hx : x < N) : Fl (W.setCell ⟨bm, x, none⟩ (.int .i64 (((P.count x : Nat) : Int) + 1))) bm bs N Ns (P ++ [x]) Ps uv up := by
 refine ⟨?_, h.still.other (fun e => h.ne e.symm) _, Is.keep h.up (by simp) (fun k hk => Below.heap_setCell _ _ _ _ (h.apart k hk).1), h.apart, h.ne⟩
 have := h.met.set x (.int .i64 (((P.count x : Nat) : Int) + 1))
 rw [ca_set hx] at this
 exact this
theorem Fl.setS {W : World} {bm bs N Ns : Nat} {P Ps : List Nat} {uv : Value} {up : List Int} (h : Fl W bm bs N Ns P Ps uv up) {x : Nat} (hx : x < Ns) : Fl (W.setCell ⟨bs, x, none⟩ (.int .i64 (((Ps.count x : Nat) : Int) + 1))) bm bs N Ns P (Ps ++ [x]) uv up := by
 refine ⟨h.met.other h.ne _, ?_, Is.keep h.up (by simp) (fun k hk => Below.heap_setCell _ _ _ _ (h.apart k hk).2), h.apart, h.ne⟩
 have := h.still.set x (.int .i64 (((Ps.count x : Nat) : Int) + 1))
 rw [ca_set hx] at this
 exact this
/-- .. and a box. -/
structure Fi (W : World) (bm bs N Ns : Nat) (P Ps : List Nat) (uv : Value) (up : List Int) (fb : Nat) (x : FD) : Prop where
 fl : Fl W bm bs N Ns P Ps uv up
 box : At W fb (fdA12 x) 50
 n1 : fb ≠ bm
 n2 : fb ≠ bs
theorem Fi.later {W W' : World} {bm bs N Ns fb : Nat} {P Ps : List Nat} {uv : Value} {up : List Int} {x : FD} (h : Fi W bm bs N Ns P Ps uv up fb x) (hb : Below W.heap.size W W') : Fi W' bm bs N Ns P Ps uv up fb x := ⟨h.fl.later hb, h.box.later hb, h.n1, h.n2⟩
theorem Fi.setM {W : World} {bm bs N Ns fb : Nat} {P Ps : List Nat} {uv : Value} {up : List Int} {f : FD} (h : Fi W bm bs N Ns P Ps uv up fb f) {x : Nat} (hx : x < N) : Fi (W.setCell ⟨bm, x, none⟩ (.int .i64 (((P.count x : Nat) : Int) + 1))) bm bs N Ns (P ++ [x]) Ps uv up fb f := ⟨h.fl.setM hx, h.box.other h.n1 _, h.n1, h.n2⟩
theorem Fi.setS {W : World} {bm bs N Ns fb : Nat} {P Ps : List Nat} {uv : Value} {up : List Int} {f : FD} (h : Fi W bm bs N Ns P Ps uv up fb f) {x : Nat} (hx : x < Ns) : Fi (W.setCell ⟨bs, x, none⟩ (.int .i64 (((Ps.count x : Nat) : Int) + 1))) bm bs N Ns P (Ps ++ [x]) uv up fb f := ⟨h.fl.setS hx, h.box.other h.n2 _, h.n1, h.n2⟩
end Go.Proofs.YtkjailahaopehaaGreat
