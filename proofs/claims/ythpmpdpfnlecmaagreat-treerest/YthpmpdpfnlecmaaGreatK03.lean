/- Texts joined: Elems. -/
import Derived.Test.YthpmpdpfnlecmaaGreatK01
import Derived.Test.YthpmpdpfnlecmaaGreatK02
import Derived.Deep.QuietTactic
import Derived.BigQuiet
namespace Go.Proofs.YthpmpdpfnlecmaaGreat
set_option linter.unusedVariables false
set_option linter.unusedSimpArgs false
open Go.RowKit
/-- How an element lies in memory: its cells, always as many. -/
structure Enc (α : Type) where
 cells : α → List Value
 size : Nat
 pos : 0 < size
 len : ∀ x, (cells x).length = size
 one : ∀ x, ∀ u ∈ cells x, u.oneCell' = true

/-- The cells of elements. -/
def ecL {α : Type} (E : Enc α) (l : List α) : List Value := l.flatMap E.cells
theorem ecL_length {α : Type} (E : Enc α) (l : List α) : (ecL E l).length = l.length * E.size := by
 induction l with
 | nil => simp [ecL]
 | cons x r ih =>
  have h : ecL E (x :: r) = E.cells x ++ ecL E r := by simp [ecL]
  rw [h, List.length_append, E.len, ih, List.length_cons, Nat.add_mul]; omega
theorem ecL_append {α : Type} (E : Enc α) (a b : List α) : ecL E (a ++ b) = ecL E a ++ ecL E b := by simp [ecL]
theorem ecL_get {α : Type} (E : Enc α) : ∀ (l : List α) (i : Nat) (h : i < l.length) (j : Nat) (hj : j < E.size), (ecL E l)[i * E.size + j]? = (E.cells l[i])[j]?
 | x :: r, 0, _, j, hj => by
  have h : ecL E (x :: r) = E.cells x ++ ecL E r := by simp [ecL]
  rw [h, Nat.zero_mul, Nat.zero_add, List.getElem?_append_left (by rw [E.len]; exact hj)]
  rfl
 | x :: r, i + 1, h, j, hj => by
  have e : ecL E (x :: r) = E.cells x ++ ecL E r := by simp [ecL]
  rw [e, List.getElem?_append_right (by rw [E.len, Nat.add_mul]; omega), E.len, show (i + 1) * E.size + j - E.size = i * E.size + j by rw [Nat.add_mul]; omega, ecL_get E r i (by simpa using h) j hj]
  rfl
theorem ecL_one {α : Type} (E : Enc α) (l : List α) : ∀ u ∈ ecL E l, u.oneCell' = true := by
 intro u hu
 simp only [ecL, List.mem_flatMap] at hu
 obtain ⟨x, _, hx⟩ := hu
 exact E.one x u hx

/-- The value is a slice of just these elements in that world. -/
def Es {α : Type} (E : Enc α) (w : World) (v : Value) (l : List α) : Prop :=
 ∃ a cap, v = .slice a l.length cap ∧ l.length ≤ cap ∧ cap ≤ maxLen ∧
  (l ≠ [] → ∃ b off, a = some ⟨b, off, none⟩ ∧ b < w.heap.size ∧ ∀ j u, (ecL E l)[j]? = some u → w.cell? ⟨b, off + j, none⟩ = some u)

theorem Es.nil {α : Type} (E : Enc α) (w : World) : Es E w (.slice none 0 0) [] := ⟨none, 0, rfl, Nat.le_refl _, Nat.zero_le _, fun h => absurd rfl h⟩
theorem Es.len {α : Type} {E : Enc α} {w : World} {v : Value} {l : List α} (h : Es E w v l) : l.length ≤ maxLen := by
 obtain ⟨a, cap, _, h1, h2, _⟩ := h; omega
theorem Es.shape {α : Type} {E : Enc α} {w : World} {v : Value} {l : List α} (h : Es E w v l) : ∃ a c, v = .slice a l.length c ∧ l.length ≤ c ∧ c ≤ maxLen := by
 obtain ⟨a, c, h1, h2, h3, _⟩ := h
 exact ⟨a, c, h1, h2, h3⟩
theorem Es.of_block {α : Type} {E : Enc α} {w w' : World} {v : Value} {l : List α} (h : Es E w v l) (hs : w.heap.size ≤ w'.heap.size) (hk : ∀ k, v.ownBlock = some k → k < w.heap.size → w'.heap[k]? = w.heap[k]?) : Es E w' v l := by
 obtain ⟨a, cap, rfl, h1, h2, h3⟩ := h
 refine ⟨a, cap, rfl, h1, h2, fun hne => ?_⟩
 obtain ⟨b, off, rfl, hb, hc⟩ := h3 hne
 refine ⟨b, off, rfl, by omega, fun j u hj => ?_⟩
 rw [← hc j u hj]
 exact World.cell?_of_block (hk b rfl hb)
theorem Es.below {α : Type} {E : Enc α} {w w' : World} {v : Value} {l : List α} {B : Nat} (h : Es E w v l) (hb : Below B w w') (hk : ∀ k, v.ownBlock = some k → k < B) : Es E w' v l :=
 h.of_block hb.size fun k hv _ => hb.block k (hk k hv)
theorem Es.later {α : Type} {E : Enc α} {w w' : World} {v : Value} {l : List α} (h : Es E w v l) (hb : Below w.heap.size w w') : Es E w' v l :=
 h.of_block hb.size fun k _ hk => hb.block k hk
theorem Es.drewN {α : Type} {E : Enc α} {w : World} {v : Value} {l : List α} (h : Es E w v l) (n : Nat) : Es E (w.drewN n) v l :=
 h.of_block (Nat.le_refl _) fun _ _ _ => rfl

/-- At a place lies this element. -/
def El {α : Type} (E : Enc α) (w : World) (b o : Nat) (x : α) : Prop := ∀ j u, (E.cells x)[j]? = some u → w.cell? ⟨b, o + j, none⟩ = some u
theorem El.below {α : Type} {E : Enc α} {w w' : World} {b o B : Nat} {x : α} (h : El E w b o x) (hb : Below B w w') (hB : b < B) : El E w' b o x :=
 fun j u hj => by rw [← h j u hj]; exact hb.cell (p := ⟨b, o + j, none⟩) hB
theorem Es.parts {α : Type} {E : Enc α} {w : World} {v : Value} {l : List α} (h : Es E w v l) (hne : l ≠ []) : ∃ b off cap, v = .slice (some ⟨b, off, none⟩) l.length cap ∧ l.length ≤ cap ∧ cap ≤ maxLen ∧ b < w.heap.size ∧ ∀ i (hi : i < l.length), El E w b (off + i * E.size) l[i] := by
 obtain ⟨a, cap, rfl, h1, h2, h3⟩ := h
 obtain ⟨b, off, rfl, hb, hc⟩ := h3 hne
 refine ⟨b, off, cap, rfl, h1, h2, hb, fun i hi j u hj => ?_⟩
 have hjs : j < E.size := by rw [← E.len l[i]]; exact (List.getElem?_eq_some_iff.1 hj).1
 rw [Nat.add_assoc]
 exact hc _ _ (by rw [ecL_get E l i hi j hjs]; exact hj)
theorem Es.of_parts {α : Type} {E : Enc α} {w : World} {b off cap : Nat} {l : List α} (h1 : l.length ≤ cap) (h2 : cap ≤ maxLen) (hb : b < w.heap.size) (h : ∀ i (hi : i < l.length), El E w b (off + i * E.size) l[i]) : Es E w (.slice (some ⟨b, off, none⟩) l.length cap) l := by
 refine ⟨_, _, rfl, h1, h2, fun _ => ⟨b, off, rfl, hb, fun j u hj => ?_⟩⟩
 have hjl : j < l.length * E.size := by rw [← ecL_length]; exact (List.getElem?_eq_some_iff.1 hj).1
 have hq : j / E.size < l.length := by rw [Nat.div_lt_iff_lt_mul E.pos]; exact hjl
 have hr : j % E.size < E.size := Nat.mod_lt _ E.pos
 have he : j / E.size * E.size + j % E.size = j := by rw [Nat.mul_comm]; exact Nat.div_add_mod j E.size
 have hg := ecL_get E l (j / E.size) hq (j % E.size) hr
 rw [he] at hg
 rw [hg] at hj
 have := h _ hq _ _ hj
 rwa [Nat.add_assoc, he] at this

/-- The same in memory of the call's own. -/
def OwnE {α : Type} (E : Enc α) (w : World) (base : Nat) (t : TypeId) (v : Value) (l : List α) : Prop := w.ownsRow base t E.size v l.length (ecL E l)

theorem OwnE.es {α : Type} {E : Enc α} {w : World} {base : Nat} {t : TypeId} {v : Value} {l : List α} (h : OwnE E w base t v l) : Es E w v l := by
 obtain ⟨h1, h2⟩ := h
 rcases h2 with ⟨rfl, h0⟩ | ⟨g, cap, cur, rfl, hg, hh, hn, hm, hs, ht⟩
 ·have : l = [] := List.eq_nil_of_length_eq_zero h0
  subst this; exact Es.nil E w
 ·refine ⟨_, cap, rfl, hn, hm, fun _ => ⟨g, 0, rfl, (Array.getElem?_eq_some_iff.1 hh).1, fun j u hj => ?_⟩⟩
  have hjl : j < l.length * E.size := by rw [← ecL_length]; exact (List.getElem?_eq_some_iff.1 hj).1
  rw [← ht, List.getElem?_take, if_pos (by omega)] at hj
  simp only [World.cell?, hh, Nat.zero_add]
  simpa using hj
theorem OwnE.shape {α : Type} {E : Enc α} {w : World} {base : Nat} {t : TypeId} {v : Value} {l : List α} (h : OwnE E w base t v l) : ∃ a c, v = .slice a l.length c ∧ l.length ≤ c ∧ c ≤ maxLen := h.es.shape
theorem OwnE.block {α : Type} {E : Enc α} {w : World} {base : Nat} {t : TypeId} {v : Value} {l : List α} (h : OwnE E w base t v l) : ∀ k, v.ownBlock = some k → base ≤ k ∧ k < w.heap.size := World.ownsRow.lt h
theorem OwnE.of_block {α : Type} {E : Enc α} {w w' : World} {base : Nat} {t : TypeId} {v : Value} {l : List α} (h : OwnE E w base t v l) (hb : ∀ k, v.ownBlock = some k → k < w.heap.size → w'.heap[k]? = w.heap[k]?) : OwnE E w' base t v l := by
 obtain ⟨h1, h2⟩ := h
 refine ⟨h1, ?_⟩
 rcases h2 with h2 | ⟨g, cap, cur, rfl, hg, hh, r⟩
 ·exact Or.inl h2
 ·exact Or.inr ⟨g, cap, cur, rfl, hg, by rw [hb g rfl (Array.getElem?_eq_some_iff.1 hh).1]; exact hh, r⟩
theorem OwnE.later {α : Type} {E : Enc α} {w w' : World} {base : Nat} {t : TypeId} {v : Value} {l : List α} (h : OwnE E w base t v l) (hb : Below w.heap.size w w') : OwnE E w' base t v l :=
 h.of_block fun k _ hk => hb.block k hk
theorem OwnE.mono {α : Type} {E : Enc α} {w : World} {base base' : Nat} {t : TypeId} {v : Value} {l : List α} (h : OwnE E w base t v l) (hb : base' ≤ base) : OwnE E w base' t v l := by
 obtain ⟨h1, h2⟩ := h
 refine ⟨h1, ?_⟩
 rcases h2 with h2 | ⟨g, cap, cur, rfl, hg, r⟩
 ·exact Or.inl h2
 ·exact Or.inr ⟨g, cap, cur, rfl, Nat.le_trans hb hg, r⟩
theorem OwnE.nil {α : Type} (E : Enc α) (w : World) (base : Nat) (t : TypeId) : OwnE E w base t (.slice none 0 0) [] := World.ownsRow_nil w base t E.size
theorem OwnE.typed {α : Type} {E : Enc α} {w : World} {base : Nat} {t : TypeId} {v : Value} {l : List α} (h : OwnE E w base t v l) : ∀ k, v.ownBlock = some k → ∃ C, At w k C t := by
 intro k hk
 rcases h.2 with ⟨rfl, _⟩ | ⟨g, cap, cur, rfl, hg, hh, r⟩
 ·simp [Value.ownBlock] at hk
 ·simp [Value.ownBlock] at hk; subst hk; exact ⟨cur, hh⟩
theorem OwnE.lit {α : Type} (E : Enc α) (w : World) (base : Nat) (t : TypeId) (l : List α) (C : Array Value) (n : Nat) (hb : base ≤ w.heap.size) (hC : C = (ecL E l).toArray) (hn : n = l.length) (hm : l.length ≤ maxLen) :
  OwnE E (w.alloc (.cells C t)) base t (.slice (some ⟨w.heap.size, 0, none⟩) n n) l := by
 subst hC hn
 have := World.ownsRow_lit (base := base) (e := t) (size := E.size) w (ecL E l).toArray l.length hb hm (by simp [ecL_length])
 unfold OwnE
 simpa using this
theorem OwnE.ne {α : Type} {E : Enc α} {w : World} {base g : Nat} {t s : TypeId} {v : Value} {l : List α} {C : Array Value} (ho : OwnE E w base t v l) (h : At w g C s) (ht : s ≠ t) : v.ownBlock ≠ some g := by
 intro e
 obtain ⟨C', hC⟩ := ho.typed g e
 unfold At at h hC
 rw [h] at hC
 simp only [Option.some.injEq, Obj.cells.injEq] at hC
 exact ht hC.2.1
/-- A block of another element type stands while a row grows. -/
theorem At.grownE {α : Type} {E : Enc α} {w w' : World} {g base : Nat} {C : Array Value} {t s : TypeId} {v : Value} {l : List α} (h : At w g C s) (ho : OwnE E w base t v l) (ht : s ≠ t) (hg : w.grownBy w' v.ownBlock) : At w' g C s := by
 have hl := h.lt
 have hne := ho.ne h ht
 unfold At at h ⊢
 rw [hg.block g hl (fun e => hne e.symm)]; exact h
/-- Nothing below the row has turned. -/
theorem grown_belowE {α : Type} {E : Enc α} {w w' : World} {base B : Nat} {t : TypeId} {v : Value} {l : List α} (ho : OwnE E w base t v l) (hg : w.grownBy w' v.ownBlock) (hB : B ≤ base) (hs : B ≤ w.heap.size) : Below B w w' :=
 ⟨hg.os, hg.tape, hg.output, hg.size, fun k hk => hg.block k (by omega) (fun e => by have := ho.block k e.symm; omega)⟩

theorem run_append_es {α : Type} (E : Enc α) {P : Program} (w : World) (base : Nat) (ts ty t : TypeId) (z : Value) (bytes : Nat) (ht : P.underlying ts = some (.slice t)) (hinfo : (P.info? t).map (fun i => (i.zero, i.size, i.bytes)) = some (some z, E.size, bytes)) (hzs : z.cells.size = E.size)
  {v y : Value} {xs ys : List α} (hv : OwnE E w base t v xs) (hy : Es E w y ys) (hb : xs.length + ys.length ≤ maxLen) (hby : ((xs.length + ys.length) + (xs.length + ys.length) / 4 + 192) * bytes ≤ 281474976710656) (hbase : base ≤ w.heap.size) :
  ∃ v' w', (Builtin.append_ #[ts, ts] ty #[v, y]).run P w = .ok v' w' ∧ OwnE E w' base t v' (xs ++ ys) ∧ w.grownBy w' v.ownBlock := by
 obtain ⟨i, hi, hz0, hz1, hz2⟩ := info_parts hinfo
 obtain ⟨a, cap, rfl, h1, h2, h3⟩ := id hy
 cases a with
 | none =>
  have hys : ys = [] := by
   by_cases h : ys = []
   ·exact h
   ·obtain ⟨b, off, hh, _⟩ := h3 h; simp at hh
  subst hys
  refine ⟨v, w, ?_, by simpa using hv, ⟨rfl, rfl, rfl, Nat.le_refl _, fun _ _ _ => rfl⟩⟩
  rcases hv.2 with ⟨rfl, h0⟩ | ⟨g, cp, cur, rfl, _, _, hnc, _⟩
  ·simp [Builtin.append_, run_underlying ht, sizeOf, typeInfo, hi, Builtin.lenOf, Builtin.firstCells]
  ·simp [Builtin.append_, run_underlying ht, sizeOf, typeInfo, hi, Builtin.lenOf, Builtin.firstCells, hnc, storeCells]
 | some ad =>
  have hnews : ∀ j u, (ecL E ys)[j]? = some u → w.cell? (ad.add j) = some u := by
   intro j u hj
   have hne : ys ≠ [] := by intro e; subst e; simp [ecL] at hj
   obtain ⟨b, off, hh, _, hc⟩ := h3 hne
   simp only [Option.some.injEq] at hh
   subst hh
   have hplain : (⟨b, off, none⟩ : Addr).add j = ⟨b, off + j, none⟩ := by unfold Addr.add; split <;> simp_all
   rw [hplain]
   exact hc j u hj
  obtain ⟨v', w', hr, ho, hg, _⟩ := run_append_own_wide (P := P) w base ts ty t i z E.size bytes ht hi hz0 hz1 hz2 hzs E.pos v xs.length (ecL E xs) hv ad ys.length cap (ecL E ys) (ecL_length E ys) hnews
   (ecL_one E ys) hb hby hbase
  refine ⟨v', w', hr, ?_, hg⟩
  unfold OwnE
  rw [List.length_append, ecL_append]
  exact ho

/-- The law for the walk: 'append(v, y...)'. -/
theorem wpList_append_es {α : Type} (E : Enc α) {P : Program} {w : World} {ops : Array Oper} {rest : List Oper} {o : Oper} {a : Act} {Q : Exit → Act → World → Prop} (hw : Region.wanted o (yielded ops a.tmps) = true) (s x : Operand) (ts : TypeId)
  (ho : o.op = .call { callee := .builtin .append, args := #[s, x], argTypes := #[ts, ts] }) (base : Nat) (t : TypeId) (z : Value) (bytes : Nat) (ht : P.underlying ts = some (.slice t)) (hinfo : (P.info? t).map (fun i => (i.zero, i.size, i.bytes)) = some (some z, E.size, bytes)) (hzs : z.cells.size = E.size)
  {v y : Value} {xs ys : List α} (hs : a.eval s = v) (hx : a.eval x = y) (hv : OwnE E w base t v xs) (hy : Es E w y ys) (hb : xs.length + ys.length ≤ maxLen) (hby : ((xs.length + ys.length) + (xs.length + ys.length) / 4 + 192) * bytes ≤ 281474976710656) (hbase : base ≤ w.heap.size)
  (h : ∀ v' w', OwnE E w' base t v' (xs ++ ys) → w.grownBy w' v.ownBlock → wpList P ops Q rest (a.put o.dst v') w') : wpList P ops Q (o :: rest) a w := by
 refine wpList_want hw fun K hK => ?_
 obtain ⟨v', w', hr, h2, h3⟩ := run_append_es E w base ts o.type t z bytes ht hinfo hzs hv hy hb hby hbase
 unfold Oper.wp execOp
 simp only [ho, resolve, invoke, builtin, Sem.run_bind, Sem.run_pure, Result.andThen_ok, List.map_toArray, List.map_cons, List.map_nil, hs, hx, hr]
 exact hK _ _ (h v' w' h2 h3)

theorem ecL_take {α : Type} (E : Enc α) (l : List α) (n : Nat) : ∀ (j : Nat) (u : Value), (ecL E (l.take n))[j]? = some u → (ecL E l)[j]? = some u := by
 intro j u hj
 have h : ecL E l = ecL E (l.take n) ++ ecL E (l.drop n) := by rw [← ecL_append, List.take_append_drop]
 rw [h, List.getElem?_append_left (List.getElem?_eq_some_iff.1 hj).1]
 exact hj
theorem ecL_drop {α : Type} (E : Enc α) (l : List α) (n : Nat) (hn : n ≤ l.length) : ∀ (j : Nat) (u : Value), (ecL E (l.drop n))[j]? = some u → (ecL E l)[n * E.size + j]? = some u := by
 intro j u hj
 have h : ecL E l = ecL E (l.take n) ++ ecL E (l.drop n) := by rw [← ecL_append, List.take_append_drop]
 have hl : (ecL E (l.take n)).length = n * E.size := by rw [ecL_length, List.length_take, Nat.min_eq_left hn]
 rw [h, List.getElem?_append_right (by omega), hl, Nat.add_sub_cancel_left]
 exact hj

/-- 'v[:n]'. -/
theorem slice_toE {α : Type} {E : Enc α} {P : Program} {w : World} {a : Option Addr} {cap : Nat} {l : List α} (hv : Es E w (.slice a l.length cap) l) (n : Nat) (h : n ≤ l.length) (ts t : TypeId) (ht : P.underlying ts = some (.slice t)) (hs : (P.info? t).map (·.size) = some E.size) :
  (∀ (W : World) (k : IntKind), (Instr.slice ts (.slice a l.length cap) none (some (.int k (n : Int))) none).run P W = .ok (.slice a n cap) W) ∧ Es E w (.slice a n cap) (l.take n) := by
 obtain ⟨a0, c0, he, h1, h2, h3⟩ := hv
 simp only [Value.slice.injEq] at he
 obtain ⟨rfl, _, rfl⟩ := he
 have hl : (l.take n).length = n := by rw [List.length_take, Nat.min_eq_left h]
 refine ⟨fun W k => ?_, ⟨a, cap, by rw [hl], by omega, h2, fun hne => ?_⟩⟩
 ·cases hq : P.info? t with
  | none => simp [hq] at hs
  | some i =>
   have hi : i.size = E.size := by simpa [hq] using hs
   have b1 : (Instr.sliceBound (.int k (n : Int)) cap .sliceAcap).run P W = .ok n W := by rw [run_sliceBound _ _ _ _ _ (by omega) (by omega)]; simp
   have b2 : (Instr.sliceBound (.int .i64 0) n .sliceB).run P W = .ok 0 W := by rw [run_sliceBound _ _ _ _ _ (by omega) (by omega)]; simp
   have hadd : ∀ x : Addr, x.add 0 = x := fun x => by unfold Addr.add; cases x with | mk b o d => split <;> simp_all
   have hmap : Option.map (fun x : Addr => x.add 0) a = a := by cases a <;> simp [hadd]
   simp [Instr.slice, run_underlying ht, Instr.sliceBounds, b1, b2, sizeOf, typeInfo, hq, hi, hmap]
 ·have hne' : l ≠ [] := by intro e; subst e; simp at hne
  obtain ⟨b, off, rfl, hb, hc⟩ := h3 hne'
  exact ⟨b, off, rfl, hb, fun j u hj => hc j u (ecL_take E l n j u hj)⟩

/-- 'v[n:]'. -/
theorem slice_fromE {α : Type} {E : Enc α} {P : Program} {w : World} {a : Option Addr} {cap : Nat} {l : List α} (hv : Es E w (.slice a l.length cap) l) (n : Nat) (h : n ≤ l.length) (ts t : TypeId) (ht : P.underlying ts = some (.slice t)) (hs : (P.info? t).map (·.size) = some E.size) :
  ∃ a' cap', (∀ (W : World) (k : IntKind), (Instr.slice ts (.slice a l.length cap) (some (.int k (n : Int))) none none).run P W = .ok (.slice a' (l.length - n) cap') W) ∧ Es E w (.slice a' (l.length - n) cap') (l.drop n) ∧
   (∀ k, (Value.slice a' (l.length - n) cap').ownBlock = some k → (Value.slice a l.length cap).ownBlock = some k) ∧ (∀ b off, a = some ⟨b, off, none⟩ → n < l.length → a' = some ⟨b, off + n * E.size, none⟩) := by
 obtain ⟨a0, c0, he, h1, h2, h3⟩ := hv
 simp only [Value.slice.injEq] at he
 obtain ⟨rfl, _, rfl⟩ := he
 have hplain : ∀ b off j, (⟨b, off, none⟩ : Addr).add j = ⟨b, off + j, none⟩ := fun b off j => by unfold Addr.add; split <;> simp_all
 refine ⟨if cap = n then a else a.map (·.add (n * E.size)), cap - n, ?_, ⟨_, _, by rw [List.length_drop], by rw [List.length_drop]; omega, by omega, ?_⟩, ?_, ?_⟩
 ·intro W k
  cases hq : P.info? t with
  | none => simp [hq] at hs
  | some i =>
   have hi : i.size = E.size := by simpa [hq] using hs
   have b1 : (Instr.sliceBound (.int .i64 (l.length : Int)) cap .sliceAcap).run P W = .ok l.length W := by rw [run_sliceBound _ _ _ _ _ (by omega) (by omega)]; simp
   have b2 : (Instr.sliceBound (.int k (n : Int)) l.length .sliceB).run P W = .ok n W := by rw [run_sliceBound _ _ _ _ _ (by omega) (by omega)]; simp
   simp [Instr.slice, run_underlying ht, Instr.sliceBounds, b1, b2, sizeOf, typeInfo, hq, hi]
 ·intro hne
  have hlt : n < l.length := by
   rcases Nat.lt_or_ge n l.length with g | g
   ·exact g
   ·exact absurd (List.drop_eq_nil_of_le g) hne
  obtain ⟨b, off, rfl, hb, hc⟩ := h3 (by intro e; subst e; simp at hlt)
  refine ⟨b, off + n * E.size, ?_, hb, fun j u hj => ?_⟩
  ·rw [if_neg (by omega)]; simp [hplain]
  ·rw [Nat.add_assoc]; exact hc _ u (ecL_drop E l n h j u hj)
 ·intro k hk
  split at hk
  ·cases a with
   | none => simp [Value.ownBlock] at hk
   | some ad => exact hk
  ·cases a with
   | none => simp [Value.ownBlock] at hk
   | some ad =>
    cases ad with
    | mk b o d =>
     simp only [Option.map_some, Value.ownBlock] at hk ⊢
     unfold Addr.add at hk
     split at hk <;> simp_all
 ·rintro b off rfl hlt
  rw [if_neg (by omega)]; simp [hplain]
end Go.Proofs.YthpmpdpfnlecmaaGreat
