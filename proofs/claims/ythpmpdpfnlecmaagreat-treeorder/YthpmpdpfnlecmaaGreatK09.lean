/- Texts joined: Ints, Im10, OpenIm10. -/
import Derived.Test.YthpmpdpfnlecmaaGreatRows
import Derived.Test.YthpmpdpfnlecmaaGreatK02
import Derived.Test.YthpmpdpfnlecmaaGreatK06
import Derived.Test.YthpmpdpfnlecmaaGreatK05
import Derived.Test.YthpmpdpfnlecmaaGreatK08
import Derived.Test.YthpmpdpfnlecmaaGreatK04
import Derived.ChangeArms
namespace Go.Proofs.YthpmpdpfnlecmaaGreat
set_option linter.unusedVariables false
set_option linter.unusedSimpArgs false
open Go.RowKit
def i64s (l : List Int) : List Value := l.map (Value.int .i64)
theorem i64s_length (l : List Int) : (i64s l).length = l.length := by simp [i64s]
theorem i64s_one (l : List Int) : ∀ u ∈ i64s l, u.oneCell' = true := fun u hu => by simp [i64s] at hu; obtain ⟨x, _, rfl⟩ := hu; rfl

/-- The value is a slice of just these numbers; of these texts; of slices of these bytes. -/
def Is (w : World) (v : Value) (l : List Int) : Prop := Sl w v (i64s l)
theorem sameI_len (va vb : Option Addr) (la lb ca cb : Nat) (w : World) (hne : la ≠ lb) (ha : la ≤ maxLen) (hb : lb ≤ maxLen) :
  Calls Tryz.prog 41 #[.slice va la ca, .slice vb lb cb] w fun e w' => e = .returned (.bool false) ∧ w' = w := by
 have h1 : ((la : Int) != (lb : Int)) = true := by rw [bne_iff_ne]; omega
 go_enter Tryz.func41, Tryz.ntmps41
 go_wp2
 go_ret
 exact ⟨rfl, rfl⟩

theorem sameI_empty (va vb : Option Addr) (ca cb : Nat) (w : World) :
  Calls Tryz.prog 41 #[.slice va 0 ca, .slice vb 0 cb] w fun e w' => e = .returned (.bool true) ∧ w' = w := by
 go_enter Tryz.func41, Tryz.ntmps41
 go_wp2
 refine wp_loop_rounds 1 ?_; rw [rounds_succ]
 go_wp2
 go_ret
 exact ⟨rfl, rfl⟩

theorem takeI_eq_succ {xs ys : List Int} {k : Nat} (h1 : k < xs.length) (h2 : k < ys.length) (h : xs.take k = ys.take k) (e : xs[k] = ys[k]) : xs.take (k + 1) = ys.take (k + 1) := by
 rw [List.take_succ_eq_append_getElem h1, List.take_succ_eq_append_getElem h2, h, e]

set_option maxHeartbeats 400000 in
theorem sameI_eq (a b : Nat) (oa ob ca cb : Nat) (xs ys : List Int) (w : World) (hl : xs.length = ys.length) (hm : xs.length ≤ maxLen)
  (ha : ∀ i (h : i < xs.length), w.cell? ⟨a, oa + i, none⟩ = some (.int .i64 xs[i]))
  (hb : ∀ i (h : i < ys.length), w.cell? ⟨b, ob + i, none⟩ = some (.int .i64 ys[i])) :
  Calls Tryz.prog 41 #[.slice (some ⟨a, oa, none⟩) xs.length ca, .slice (some ⟨b, ob, none⟩) xs.length cb] w fun e w' => e = .returned (.bool (decide (xs = ys))) ∧ ∃ n, w' = w.drewN n := by
 unfold maxLen at hm
 have h1 : ((xs.length : Int) != (xs.length : Int)) = false := by simp
 go_enter Tryz.func41, Tryz.ntmps41
 go_wp2
 go_loopw [5] (fun i wr => ∃ k n : Nat, k ≤ xs.length ∧ i = .int .i64 k ∧ wr = w.drewN n ∧ xs.take k = ys.take k) (fun i _ => xs.length - (intOf i).toNat)
 case atStart => exact ⟨0, 0, Nat.zero_le _, rfl, rfl, rfl⟩
 case round =>
  obtain ⟨k, n, hk, rfl, rfl, ht⟩ := hrel
  by_cases hlt : k < xs.length
  ·have ca := ha k hlt
   have cb := hb k (by omega)
   have hlb : k < ys.length := by omega
   have HT : Hid (xs.take k = ys.take k) := ht
   clear ht ha hb
   by_cases he : xs[k] = ys[k]
   ·have hq : (xs[k] != ys[k]) = false := by simp [he]
    have HE : Hid (xs.take (k + 1) = ys.take (k + 1)) := takeI_eq_succ hlt hlb HT.out he
    clear he
    generalize xs[k] = x at *
    generalize ys[k] = y at *
    go_wp2
    go_quiet (fail)
    go_wp2
    go_roundw
    case rel => exact ⟨k + 1, n + nq, by omega, by go_num, rfl, HE.out⟩
    case measure => simp [intOf]; omega
   ·have hq : (xs[k] != ys[k]) = true := by
     rw [bne_iff_ne]; exact he
    have HE : Hid (¬ xs[k] = ys[k]) := he
    clear he
    go_wp2
    go_quiet (fail)
    go_wp2
    go_ret
    exact ⟨ret_bool (by have h := HE.out; symm; rw [decide_eq_false_iff_not]; intro e; subst e; exact h rfl), n + nq, by rw [World.drewN_drewN]⟩
  ·go_wp2
   go_ret
   refine ⟨ret_bool ?_, n, rfl⟩
   symm; rw [decide_eq_true_iff]
   rwa [List.take_of_length_le (by omega), List.take_of_length_le (by omega)] at ht

/-- SameInts, of whatever two slices. -/
theorem sameI_any {va vb : Value} {xs ys : List Int} {w : World} (ha : Is w va xs) (hb : Is w vb ys) :
  Calls Tryz.prog 41 #[va, vb] w fun e w' => e = .returned (.bool (decide (xs = ys))) ∧ ∃ n, w' = w.drewN n := by
 obtain ⟨a, ca, rfl, h1, h2, h3⟩ := ha
 obtain ⟨b, cb, rfl, g1, g2, g3⟩ := hb
 rw [i64s_length] at h1 g1 ⊢
 rw [i64s_length]
 by_cases hl : xs.length = ys.length
 ·by_cases hx : xs = []
  ·subst hx
   have hy : ys = [] := List.eq_nil_of_length_eq_zero hl.symm
   subst hy
   refine (sameI_empty a b ca cb w).mono ?_
   rintro e w' ⟨rfl, rfl⟩
   exact ⟨ret_bool (by simp), 0, rfl⟩
  ·obtain ⟨ba, oa, rfl, _, hca⟩ := h3 (by simpa [i64s] using hx)
   obtain ⟨bb, ob, rfl, _, hcb⟩ := g3 (by simp only [i64s, ne_eq, List.map_eq_nil_iff]; intro e; subst e; exact hx (List.eq_nil_of_length_eq_zero hl))
   rw [← hl]
   exact sameI_eq ba bb oa ob ca cb xs ys w hl (by omega) (fun i h => by rw [hca i (by rw [i64s_length]; exact h)]; simp [i64s]) (fun i h => by rw [hcb i (by rw [i64s_length]; exact h)]; simp [i64s])
 ·refine (sameI_len a b _ _ ca cb w hl (by omega) (by omega)).mono ?_
  rintro e w' ⟨rfl, rfl⟩
  exact ⟨ret_bool (by symm; rw [decide_eq_false_iff_not]; intro e; subst e; exact hl rfl), 0, rfl⟩
/-- The cells, and the values, of a type of api, an instruction, a number, a type, a field, a method. -/
def tyC (x : Ty) : List Value := [.int .i64 x.1, .int .i64 x.2.1, .int .i64 x.2.2.1, .bool x.2.2.2]
def tyE : Enc Ty := ⟨tyC, 4, by decide, fun _ => rfl, fun x u hu => by
 simp only [tyC, List.mem_cons, List.not_mem_nil, or_false] at hu
 rcases hu with rfl | rfl | rfl | rfl <;> rfl⟩
def insC (x : Ins) : List Value := [.int .i64 x.1, .int .i64 x.2.1, .int .i64 x.2.2.1, .int .i64 x.2.2.2.1, .int .i64 x.2.2.2.2.1, .bool x.2.2.2.2.2]
def insE : Enc Ins := ⟨insC, 6, by decide, fun _ => rfl, fun x u hu => by
 simp only [insC, List.mem_cons, List.not_mem_nil, or_false] at hu
 rcases hu with rfl | rfl | rfl | rfl | rfl | rfl <;> rfl⟩
def intC (x : Int) : List Value := [.int .i64 x]
def intE : Enc Int := ⟨intC, 1, by decide, fun _ => rfl, fun x u hu => by
 simp only [intC, List.mem_cons, List.not_mem_nil, or_false] at hu
 rcases hu with rfl <;> rfl⟩
def intV (x : Int) : Value := .int .i64 x
def tdC (x : TD) : List Value := [.string x.nm, .int .i64 x.fl, .int .i64 x.ex, .slice x.fa x.fs.length x.fc]
def tdE : Enc TD := ⟨tdC, 4, by decide, fun _ => rfl, fun x u hu => by
 simp only [tdC, List.mem_cons, List.not_mem_nil, or_false] at hu
 rcases hu with rfl | rfl | rfl | rfl <;> rfl⟩
def tdV (x : TD) : Value := .agg #[.string x.nm, .int .i64 x.fl, .int .i64 x.ex, .slice x.fa x.fs.length x.fc]
def fdC (x : FD) : List Value := [.string x.nm, .int .i64 x.ow, .int .i64 x.t.1, .int .i64 x.t.2.1, .int .i64 x.t.2.2.1, .bool x.t.2.2.2, .bool x.st]
def fdE : Enc FD := ⟨fdC, 7, by decide, fun _ => rfl, fun x u hu => by
 simp only [fdC, List.mem_cons, List.not_mem_nil, or_false] at hu
 rcases hu with rfl | rfl | rfl | rfl | rfl | rfl | rfl <;> rfl⟩
def fdV (x : FD) : Value := .agg #[.string x.nm, .int .i64 x.ow, .int .i64 x.t.1, .int .i64 x.t.2.1, .int .i64 x.t.2.2.1, .bool x.t.2.2.2, .bool x.st]
def mdC (x : MD) : List Value := [.string x.nm, .int .i64 x.ow, .int .i64 x.fl, .slice x.pa x.ps.length x.pc, .int .i64 x.rt.1, .int .i64 x.rt.2.1, .int .i64 x.rt.2.2.1, .bool x.rt.2.2.2, .slice x.la x.ls.length x.lc, .int .i64 x.mx, .slice x.ca x.co.length x.cc, .slice x.ka x.cl.length x.kc]
def mdE : Enc MD := ⟨mdC, 12, by decide, fun _ => rfl, fun x u hu => by
 simp only [mdC, List.mem_cons, List.not_mem_nil, or_false] at hu
 rcases hu with rfl | rfl | rfl | rfl | rfl | rfl | rfl | rfl | rfl | rfl | rfl | rfl <;> rfl⟩
def mdV (x : MD) : Value := .agg #[.string x.nm, .int .i64 x.ow, .int .i64 x.fl, .slice x.pa x.ps.length x.pc, .int .i64 x.rt.1, .int .i64 x.rt.2.1, .int .i64 x.rt.2.2.1, .bool x.rt.2.2.2, .slice x.la x.ls.length x.lc, .int .i64 x.mx, .slice x.ca x.co.length x.cc, .slice x.ka x.cl.length x.kc]

/-- Cell by cell. -/
theorem El.cells_Y {w : World} {b o : Nat} {x : Ty} (h : El tyE w b o x) : w.cell? ⟨b, o, none⟩ = some (.int .i64 x.1) ∧ w.cell? ⟨b, o + 1, none⟩ = some (.int .i64 x.2.1) ∧ w.cell? ⟨b, o + 2, none⟩ = some (.int .i64 x.2.2.1) ∧ w.cell? ⟨b, o + 3, none⟩ = some (.bool x.2.2.2) :=
 ⟨h 0 _ rfl, h 1 _ rfl, h 2 _ rfl, h 3 _ rfl⟩
theorem El.cells_I {w : World} {b o : Nat} {x : Ins} (h : El insE w b o x) : w.cell? ⟨b, o, none⟩ = some (.int .i64 x.1) ∧ w.cell? ⟨b, o + 1, none⟩ = some (.int .i64 x.2.1) ∧ w.cell? ⟨b, o + 2, none⟩ = some (.int .i64 x.2.2.1) ∧ w.cell? ⟨b, o + 3, none⟩ = some (.int .i64 x.2.2.2.1) ∧ w.cell? ⟨b, o + 4, none⟩ = some (.int .i64 x.2.2.2.2.1) ∧ w.cell? ⟨b, o + 5, none⟩ = some (.bool x.2.2.2.2.2) :=
 ⟨h 0 _ rfl, h 1 _ rfl, h 2 _ rfl, h 3 _ rfl, h 4 _ rfl, h 5 _ rfl⟩
theorem El.cells_N {w : World} {b o q : Nat} {x : Int} (h : El intE w b (o + q * 1) x) : w.cell? ⟨b, o + q, none⟩ = some (.int .i64 x) := by
 have := h 0 _ rfl
 simpa using this
theorem El.cells_T {w : World} {b o : Nat} {x : TD} (h : El tdE w b o x) : w.cell? ⟨b, o, none⟩ = some (.string x.nm) ∧ w.cell? ⟨b, o + 1, none⟩ = some (.int .i64 x.fl) ∧ w.cell? ⟨b, o + 2, none⟩ = some (.int .i64 x.ex) ∧ w.cell? ⟨b, o + 3, none⟩ = some (.slice x.fa x.fs.length x.fc) :=
 ⟨h 0 _ rfl, h 1 _ rfl, h 2 _ rfl, h 3 _ rfl⟩
theorem El.cells_F {w : World} {b o : Nat} {x : FD} (h : El fdE w b o x) : w.cell? ⟨b, o, none⟩ = some (.string x.nm) ∧ w.cell? ⟨b, o + 1, none⟩ = some (.int .i64 x.ow) ∧ w.cell? ⟨b, o + 2, none⟩ = some (.int .i64 x.t.1) ∧ w.cell? ⟨b, o + 3, none⟩ = some (.int .i64 x.t.2.1) ∧ w.cell? ⟨b, o + 4, none⟩ = some (.int .i64 x.t.2.2.1) ∧ w.cell? ⟨b, o + 5, none⟩ = some (.bool x.t.2.2.2) ∧ w.cell? ⟨b, o + 6, none⟩ = some (.bool x.st) :=
 ⟨h 0 _ rfl, h 1 _ rfl, h 2 _ rfl, h 3 _ rfl, h 4 _ rfl, h 5 _ rfl, h 6 _ rfl⟩
theorem El.cells_M {w : World} {b o : Nat} {x : MD} (h : El mdE w b o x) : w.cell? ⟨b, o, none⟩ = some (.string x.nm) ∧ w.cell? ⟨b, o + 1, none⟩ = some (.int .i64 x.ow) ∧ w.cell? ⟨b, o + 2, none⟩ = some (.int .i64 x.fl) ∧ w.cell? ⟨b, o + 3, none⟩ = some (.slice x.pa x.ps.length x.pc) ∧
  w.cell? ⟨b, o + 4, none⟩ = some (.int .i64 x.rt.1) ∧ w.cell? ⟨b, o + 5, none⟩ = some (.int .i64 x.rt.2.1) ∧ w.cell? ⟨b, o + 6, none⟩ = some (.int .i64 x.rt.2.2.1) ∧ w.cell? ⟨b, o + 7, none⟩ = some (.bool x.rt.2.2.2) ∧
  w.cell? ⟨b, o + 8, none⟩ = some (.slice x.la x.ls.length x.lc) ∧ w.cell? ⟨b, o + 9, none⟩ = some (.int .i64 x.mx) ∧ w.cell? ⟨b, o + 10, none⟩ = some (.slice x.ca x.co.length x.cc) ∧ w.cell? ⟨b, o + 11, none⟩ = some (.slice x.ka x.cl.length x.kc) :=
 ⟨h 0 _ rfl, h 1 _ rfl, h 2 _ rfl, h 3 _ rfl, h 4 _ rfl, h 5 _ rfl, h 6 _ rfl, h 7 _ rfl, h 8 _ rfl, h 9 _ rfl, h 10 _ rfl, h 11 _ rfl⟩

/-- What a type's, a method's lists hold. -/
def TD.ok (w : World) (x : TD) : Prop := Es intE w (.slice x.fa x.fs.length x.fc) x.fs
structure MD.ok (w : World) (x : MD) : Prop where
 ps : Es tyE w (.slice x.pa x.ps.length x.pc) x.ps
 ls : Es tyE w (.slice x.la x.ls.length x.lc) x.ls
 co : Es insE w (.slice x.ca x.co.length x.cc) x.co
 cl : Es clE9 w (.slice x.ka x.cl.length x.kc) x.cl
theorem TD.ok.later {w w' : World} {x : TD} (h : x.ok w) (hb : Below w.heap.size w w') : x.ok w' := Es.later h hb
theorem MD.ok.later {w w' : World} {x : MD} (h : x.ok w) (hb : Below w.heap.size w w') : x.ok w' := ⟨h.ps.later hb, h.ls.later hb, h.co.later hb, h.cl.later hb⟩

/-- An image in memory. -/
structure Im (w : World) (g : Img) : Prop where
 ts : Es tdE w (.slice g.ta g.ts.length g.tc) g.ts
 tok : ∀ x ∈ g.ts, x.ok w
 fs : Es fdE w (.slice g.fa g.fs.length g.fc) g.fs
 ms : Es mdE w (.slice g.ma g.ms.length g.mc) g.ms
 mok : ∀ x ∈ g.ms, x.ok w
def imV (g : Img) : Value := .agg #[.slice g.ta g.ts.length g.tc, .slice g.fa g.fs.length g.fc, .slice g.ma g.ms.length g.mc, .int .i64 g.en]
theorem Im.later {w w' : World} {g : Img} (h : Im w g) (hb : Below w.heap.size w w') : Im w' g :=
 ⟨h.ts.later hb, fun x hx => (h.tok x hx).later hb, h.fs.later hb, h.ms.later hb, fun x hx => (h.mok x hx).later hb⟩

/-- Names are no longer than texts are. -/
structure Img.nmOk (g : Img) : Prop where
 ts : ∀ x ∈ g.ts, x.nm.size ≤ maxLen
 fs : ∀ x ∈ g.fs, x.nm.size ≤ maxLen
 ms : ∀ x ∈ g.ms, x.nm.size ≤ maxLen

/-- Types: the two vocabularies. -/
theorem Es.toTs {w : World} {v : Value} {l : List Ty} (h : Es tyE w v l) : Ts w v l := by
 by_cases hne : l = []
 ·subst hne
  obtain ⟨a, c, rfl, h1, h2⟩ := h.shape
  exact ⟨a, c, rfl, h1, h2, fun h => absurd rfl h⟩
 ·obtain ⟨b, off, cap, rfl, h1, h2, hb, hc⟩ := h.parts hne
  exact ⟨_, cap, rfl, h1, h2, fun _ => ⟨b, off, rfl, hb, fun i hi => (hc i hi).cells_Y⟩⟩
theorem Ts.toEs {w : World} {v : Value} {l : List Ty} (h : Ts w v l) : Es tyE w v l := by
 obtain ⟨a, cap, rfl, h1, h2, h3⟩ := h
 by_cases hne : l = []
 ·subst hne
  exact ⟨a, cap, rfl, h1, h2, fun h => absurd rfl h⟩
 ·obtain ⟨b, off, rfl, hb, hc⟩ := h3 hne
  refine Es.of_parts h1 h2 hb fun i hi j u hj => ?_
  obtain ⟨c0, c1, c2, c3⟩ := hc i hi
  have hj4 : j < 4 := (List.getElem?_eq_some_iff.1 hj).1
  match j, hj4 with
  | 0, _ => simpa using (Option.some.inj hj) ▸ c0
  | 1, _ => simpa using (Option.some.inj hj) ▸ c1
  | 2, _ => simpa using (Option.some.inj hj) ▸ c2
  | 3, _ => simpa using (Option.some.inj hj) ▸ c3
/-- Numbers: the two vocabularies. -/
theorem ecL_int (l : List Int) : ecL intE l = i64s l := by
 induction l with
 | nil => rfl
 | cons x r ih =>
  have h : ecL intE (x :: r) = intC x ++ ecL intE r := by simp [ecL, intE]
  rw [h, ih]; simp [i64s, intC]
theorem Es.toIs {w : World} {v : Value} {l : List Int} (h : Es intE w v l) : Is w v l := by
 obtain ⟨a, cap, rfl, h1, h2, h3⟩ := h
 refine ⟨a, cap, by rw [i64s_length], by rw [i64s_length]; exact h1, h2, fun hne => ?_⟩
 obtain ⟨b, off, rfl, hb, hc⟩ := h3 (by intro e; subst e; exact hne rfl)
 refine ⟨b, off, rfl, hb, fun i hi => hc i _ ?_⟩
 rw [ecL_int]
 exact List.getElem?_eq_getElem hi
theorem Is.toEs {w : World} {v : Value} {l : List Int} (h : Is w v l) : Es intE w v l := by
 obtain ⟨a, cap, rfl, h1, h2, h3⟩ := h
 rw [i64s_length] at h1
 refine ⟨a, cap, by rw [i64s_length], h1, h2, fun hne => ?_⟩
 obtain ⟨b, off, rfl, hb, hc⟩ := h3 (by intro e; apply hne; simpa [i64s] using e)
 refine ⟨b, off, rfl, hb, fun j u hj => ?_⟩
 rw [ecL_int] at hj
 obtain ⟨hlt, he⟩ := List.getElem?_eq_some_iff.1 hj
 rw [hc j hlt, he]
end Go.Proofs.YthpmpdpfnlecmaaGreat

namespace Go.Proofs.YthpmpdpfnlecmaaGreat
set_option linter.unusedVariables false
set_option linter.unusedSimpArgs false
open Go.ChangeShapes Go.WideShapes Go.ChangeAt Go.RowKit
/-- A slice of elements that came in, if each one's cells can be told, and what else there is to tell of each. -/
theorem openEs2 {α : Type} (E : Enc α) (dft : α) {Q : α → Prop} {P : Program} {H : Type} {enc : TypeId × Value → H} {W : World} {v : Value} {n : Nat} {y : DataW H × List MemPlace} (ts t : TypeId) (ht : P.underlying ts = some (.slice t)) (hcells : P.cellsOf t = E.size)
  (hel : ∀ (cs : List Value) (n : Nat) (y : DataW H × List MemPlace), cs.length = E.size → DataW.trod enc P W 0 (fun _ => true) true n t cs = some y → ∃ x, cs = E.cells x ∧ Q x)
  (h : DataW.trod enc P W 0 (fun _ => true) true n ts [v] = some y) : ∃ l, Es E W v l ∧ ∀ x ∈ l, Q x := by
 haveI : Inhabited α := ⟨dft⟩
 rcases Go.Deep.open_slice ht h with ⟨hcs, _⟩ | ⟨a, len, cap, m, k, D, Pl, hcs, _, hl, hm, hmm, _, hx⟩
 ·simp at hcs
  subst hcs
  exact ⟨[], Es.nil E W, fun x hx => by simp at hx⟩
 ·simp at hcs
  subst hcs
  simp only [if_true] at hmm
  rw [hcells] at hx
  obtain ⟨f, hf⟩ := Go.Deep.choose_lt (n := len) (p := fun i (x : α) => (∀ j u, (E.cells x)[j]? = some u → W.cell? (a.add (i * E.size + j)) = some u) ∧ Q x) fun i hi => by
   obtain ⟨cs', h1, h2⟩ := hx i (by omega)
   obtain ⟨_, hlen, h3⟩ := World.cells?_some h1
   obtain ⟨x, hxc, hq⟩ := hel _ _ _ (by simpa using hlen) h2
   refine ⟨x, fun j u hj => ?_, hq⟩
   have hjl : j < E.size := by rw [← E.len x]; exact (List.getElem?_eq_some_iff.1 hj).1
   have g := h3 j hjl
   rw [Go.Deep.add_add a (i * E.size) j] at g
   rw [g]
   have hx2 : cs'[j]? = some u := by
    have := congrArg (fun t => t[j]?) hxc
    rw [hj] at this
    simpa using this
   exact hx2
  have hQ : ∀ x ∈ (List.range len).map f, Q x := fun x hx => by
   simp only [List.mem_map, List.mem_range] at hx
   obtain ⟨i, hi, rfl⟩ := hx
   exact (hf i hi).2
  refine ⟨(List.range len).map f, ⟨some a, cap, by simp, by simpa using hl, hm, fun hne => ?_⟩, hQ⟩
  have hpos : 0 < len := by
   rcases Nat.eq_zero_or_pos len with h | h
   ·subst h; simp at hne
   ·exact h
  obtain ⟨u0, hu0⟩ : ∃ u, (E.cells (f 0))[0]? = some u := by
   have := E.pos
   rw [← E.len (f 0)] at this
   exact ⟨_, List.getElem?_eq_getElem this⟩
  have h0 := (hf 0 hpos).1 0 u0 hu0
  obtain ⟨b, off, spot⟩ := a
  have hspot : spot = none := by simpa [Addr.add] using World.cell?_spot h0
  subst hspot
  have hplain : ∀ i, (⟨b, off, none⟩ : Addr).add i = ⟨b, off + i, none⟩ := fun i => by unfold Addr.add; split <;> simp_all
  have hb : b < W.heap.size := by have := World.block_lt_of_cell? W _ h0; simpa [Addr.add] using this
  have hes : Es E W (.slice (some ⟨b, off, none⟩) ((List.range len).map f).length cap) ((List.range len).map f) := by
   refine Es.of_parts (by simpa using hl) hm hb fun i hi j u hj => ?_
   simp only [List.length_map, List.length_range] at hi
   simp only [List.getElem_map, List.getElem_range] at hj
   have := (hf i hi).1 j u hj
   rw [hplain, ← Nat.add_assoc] at this
   exact this
  obtain ⟨_, _, he, _, _, h3⟩ := hes
  simp only [Value.slice.injEq] at he
  obtain ⟨rfl, _, _⟩ := he
  exact h3 hne

theorem openTy10 {H : Type} {enc : TypeId × Value → H} {W : World} {v : Value} {n : Nat} {y : DataW H × List MemPlace}
  (h : DataW.trod enc Tryz.prog W 0 (fun _ => true) true n 49 [v] = some y) : ∃ l a c, v = .slice a l.length c ∧ Es tyE W v l := by
 obtain ⟨l, hl⟩ := openEs1 tyE (0, 0, 0, false) 49 51 Tryz.underlying49 Tryz.cellsTy (fun cs n y _ h => tyCells h) h
 obtain ⟨a, c, hv, _, _⟩ := hl.shape
 exact ⟨l, a, c, hv, hl⟩
theorem openInt10 {H : Type} {enc : TypeId × Value → H} {W : World} {v : Value} {n : Nat} {y : DataW H × List MemPlace}
  (h : DataW.trod enc Tryz.prog W 0 (fun _ => true) true n 31 [v] = some y) : ∃ l a c, v = .slice a l.length c ∧ Es intE W v l := by
 obtain ⟨l, hl⟩ := openEs1 intE 0 31 3 Tryz.underlying31 Tryz.cellsInt (fun cs n y _ h => by
  obtain ⟨x, e, _, _⟩ := DataW.trod_int Tryz.underlying3 h
  exact ⟨x, e⟩) h
 obtain ⟨a, c, hv, _, _⟩ := hl.shape
 exact ⟨l, a, c, hv, hl⟩
theorem openIns10 {H : Type} {enc : TypeId × Value → H} {W : World} {v : Value} {n : Nat} {y : DataW H × List MemPlace}
  (h : DataW.trod enc Tryz.prog W 0 (fun _ => true) true n 52 [v] = some y) : ∃ l a c, v = .slice a l.length c ∧ Es insE W v l := by
 obtain ⟨l, hl⟩ := openEs1 insE (0, 0, 0, 0, 0, false) 52 89 Tryz.underlying52 Tryz.cellsInstr (fun cs n y hl h => insCells hl h) h
 obtain ⟨a, c, hv, _, _⟩ := hl.shape
 exact ⟨l, a, c, hv, hl⟩
theorem openCl10 {H : Type} {enc : TypeId × Value → H} {W : World} {v : Value} {n : Nat} {y : DataW H × List MemPlace}
  (h : DataW.trod enc Tryz.prog W 0 (fun _ => true) true n 53 [v] = some y) : ∃ l a c, v = .slice a l.length c ∧ Es clE9 W v l := by
 obtain ⟨l, hl⟩ := openEs1 clE9 ⟨1, 0, 2, 2, 4, -1, 0, 0, 0, false⟩ 53 101 Tryz.underlying53 Tryz.cellsClause clauseCells h
 obtain ⟨a, c, hv, _, _⟩ := hl.shape
 exact ⟨l, a, c, hv, hl⟩

theorem Tryz.cellsTD : Tryz.prog.cellsOf 34 = 4 := by kernel_rfl
theorem Tryz.cellsFD : Tryz.prog.cellsOf 75 = 7 := by kernel_rfl
theorem Tryz.cellsMD : Tryz.prog.cellsOf 55 = 12 := by kernel_rfl
theorem Tryz.cellsIm : Tryz.prog.cellsOf 26 = 4 := by kernel_rfl
theorem Tryz.cellsStr : Tryz.prog.cellsOf 9 = 1 := by kernel_rfl
theorem Tryz.cellsSInt : Tryz.prog.cellsOf 31 = 1 := by kernel_rfl
theorem Tryz.cellsSTy : Tryz.prog.cellsOf 49 = 1 := by kernel_rfl
theorem Tryz.cellsSIns : Tryz.prog.cellsOf 52 = 1 := by kernel_rfl
theorem Tryz.cellsSCl : Tryz.prog.cellsOf 53 = 1 := by kernel_rfl
theorem Tryz.cellsSTD : Tryz.prog.cellsOf 22 = 1 := by kernel_rfl
theorem Tryz.cellsSFD : Tryz.prog.cellsOf 23 = 1 := by kernel_rfl
theorem Tryz.cellsSMD : Tryz.prog.cellsOf 24 = 1 := by kernel_rfl

theorem list12 {α : Type} {cs : List α} (h : cs.length = 12) : ∃ c0 c1 c2 c3 c4 c5 c6 c7 c8 c9 c10 c11, cs = [c0, c1, c2, c3, c4, c5, c6, c7, c8, c9, c10, c11] := by
 match cs, h with
 | [c0, c1, c2, c3, c4, c5, c6, c7, c8, c9, c10, c11], _ => exact ⟨c0, c1, c2, c3, c4, c5, c6, c7, c8, c9, c10, c11, rfl⟩
theorem list9 {α : Type} {cs : List α} (h : cs.length = 9) : ∃ c0 c1 c2 c3 c4 c5 c6 c7 c8, cs = [c0, c1, c2, c3, c4, c5, c6, c7, c8] := by
 match cs, h with
 | [c0, c1, c2, c3, c4, c5, c6, c7, c8], _ => exact ⟨c0, c1, c2, c3, c4, c5, c6, c7, c8, rfl⟩

/-- The cells of a type, a field, a method. -/
theorem tdCells {H : Type} {enc : TypeId × Value → H} {W : World} (cs : List Value) (n : Nat) (y : DataW H × List MemPlace) (hl : cs.length = 4)
  (h : DataW.trod enc Tryz.prog W 0 (fun _ => true) true n 34 cs = some y) : ∃ x : TD, cs = tdC x ∧ x.ok W ∧ x.nm.size ≤ maxLen := by
 obtain ⟨c0, c1, c2, c3, rfl⟩ := list4 hl
 obtain ⟨xs, m, _, _, _, hlen, hf⟩ := DataW.trod_struct Tryz.underlying34 h
 obtain ⟨y0, y1, y2, y3, rfl⟩ := list4 (show xs.length = 4 from hlen)
 have h0 : DataW.trod enc Tryz.prog W 0 (fun _ => true) true m 9 [c0] = some y0 := by
  have := hf 0 _ rfl
  simpa [Tryz.cellsStr] using this
 have h1 : DataW.trod enc Tryz.prog W 0 (fun _ => true) true m 3 [c1] = some y1 := by
  have := hf 1 _ rfl
  simpa [Tryz.cellsInt] using this
 have h2 : DataW.trod enc Tryz.prog W 0 (fun _ => true) true m 3 [c2] = some y2 := by
  have := hf 2 _ rfl
  simpa [Tryz.cellsInt] using this
 have h3 : DataW.trod enc Tryz.prog W 0 (fun _ => true) true m 31 [c3] = some y3 := by
  have := hf 3 _ rfl
  simpa [Tryz.cellsSInt] using this
 obtain ⟨s, e0, _, hs⟩ := DataW.trod_string Tryz.underlying9 h0
 obtain ⟨x1, e1, _, _⟩ := DataW.trod_int Tryz.underlying3 h1
 obtain ⟨x2, e2, _, _⟩ := DataW.trod_int Tryz.underlying3 h2
 obtain ⟨l, a, c, e3, hl3⟩ := openInt10 h3
 simp only [List.cons.injEq, and_true] at e0 e1 e2
 subst e0 e1 e2 e3
 exact ⟨⟨s, x1, x2, a, c, l⟩, rfl, hl3, hs⟩

theorem fdCells {H : Type} {enc : TypeId × Value → H} {W : World} (cs : List Value) (n : Nat) (y : DataW H × List MemPlace) (hl : cs.length = 7)
  (h : DataW.trod enc Tryz.prog W 0 (fun _ => true) true n 75 cs = some y) : ∃ x : FD, cs = fdC x ∧ x.nm.size ≤ maxLen := by
 obtain ⟨c0, c1, c2, c3, c4, c5, c6, rfl⟩ := list7 hl
 obtain ⟨xs, m, _, _, _, hlen, hf⟩ := DataW.trod_struct Tryz.underlying75 h
 obtain ⟨y0, y1, y2, y3, rfl⟩ := list4 (show xs.length = 4 from hlen)
 have h0 : DataW.trod enc Tryz.prog W 0 (fun _ => true) true m 9 [c0] = some y0 := by
  have := hf 0 _ rfl
  simpa [Tryz.cellsStr] using this
 have h1 : DataW.trod enc Tryz.prog W 0 (fun _ => true) true m 3 [c1] = some y1 := by
  have := hf 1 _ rfl
  simpa [Tryz.cellsInt] using this
 have h2 : DataW.trod enc Tryz.prog W 0 (fun _ => true) true m 51 [c2, c3, c4, c5] = some y2 := by
  have := hf 2 _ rfl
  simpa [Tryz.cellsTy] using this
 have h3 : DataW.trod enc Tryz.prog W 0 (fun _ => true) true m 4 [c6] = some y3 := by
  have := hf 3 _ rfl
  simpa [Tryz.cellsBool] using this
 obtain ⟨s, e0, _, hs⟩ := DataW.trod_string Tryz.underlying9 h0
 obtain ⟨x1, e1, _, _⟩ := DataW.trod_int Tryz.underlying3 h1
 obtain ⟨t, e2⟩ := tyCells h2
 obtain ⟨x3, e3, _⟩ := DataW.trod_bool Tryz.underlying4 h3
 simp only [List.cons.injEq, and_true] at e0 e1 e2 e3
 obtain ⟨rfl, rfl, rfl, rfl⟩ := e2
 subst e0 e1 e3
 exact ⟨⟨s, x1, t, x3⟩, rfl, hs⟩

theorem mdCells {H : Type} {enc : TypeId × Value → H} {W : World} (cs : List Value) (n : Nat) (y : DataW H × List MemPlace) (hl : cs.length = 12)
  (h : DataW.trod enc Tryz.prog W 0 (fun _ => true) true n 55 cs = some y) : ∃ x : MD, cs = mdC x ∧ x.ok W ∧ x.nm.size ≤ maxLen := by
 obtain ⟨c0, c1, c2, c3, c4, c5, c6, c7, c8, c9, c10, c11, rfl⟩ := list12 hl
 obtain ⟨xs, m, _, _, _, hlen, hf⟩ := DataW.trod_struct Tryz.underlying55 h
 obtain ⟨y0, y1, y2, y3, y4, y5, y6, y7, y8, rfl⟩ := list9 (show xs.length = 9 from hlen)
 have h0 : DataW.trod enc Tryz.prog W 0 (fun _ => true) true m 9 [c0] = some y0 := by
  have := hf 0 _ rfl
  simpa [Tryz.cellsStr] using this
 have h1 : DataW.trod enc Tryz.prog W 0 (fun _ => true) true m 3 [c1] = some y1 := by
  have := hf 1 _ rfl
  simpa [Tryz.cellsInt] using this
 have h2 : DataW.trod enc Tryz.prog W 0 (fun _ => true) true m 3 [c2] = some y2 := by
  have := hf 2 _ rfl
  simpa [Tryz.cellsInt] using this
 have h3 : DataW.trod enc Tryz.prog W 0 (fun _ => true) true m 49 [c3] = some y3 := by
  have := hf 3 _ rfl
  simpa [Tryz.cellsSTy] using this
 have h4 : DataW.trod enc Tryz.prog W 0 (fun _ => true) true m 51 [c4, c5, c6, c7] = some y4 := by
  have := hf 4 _ rfl
  simpa [Tryz.cellsTy] using this
 have h5 : DataW.trod enc Tryz.prog W 0 (fun _ => true) true m 49 [c8] = some y5 := by
  have := hf 5 _ rfl
  simpa [Tryz.cellsSTy] using this
 have h6 : DataW.trod enc Tryz.prog W 0 (fun _ => true) true m 3 [c9] = some y6 := by
  have := hf 6 _ rfl
  simpa [Tryz.cellsInt] using this
 have h7 : DataW.trod enc Tryz.prog W 0 (fun _ => true) true m 52 [c10] = some y7 := by
  have := hf 7 _ rfl
  simpa [Tryz.cellsSIns] using this
 have h8 : DataW.trod enc Tryz.prog W 0 (fun _ => true) true m 53 [c11] = some y8 := by
  have := hf 8 _ rfl
  simpa [Tryz.cellsSCl] using this
 obtain ⟨s, e0, _, hs⟩ := DataW.trod_string Tryz.underlying9 h0
 obtain ⟨x1, e1, _, _⟩ := DataW.trod_int Tryz.underlying3 h1
 obtain ⟨x2, e2, _, _⟩ := DataW.trod_int Tryz.underlying3 h2
 obtain ⟨l3, a3, q3, e3, g3⟩ := openTy10 h3
 obtain ⟨t, e4⟩ := tyCells h4
 obtain ⟨l5, a5, q5, e5, g5⟩ := openTy10 h5
 obtain ⟨x6, e6, _, _⟩ := DataW.trod_int Tryz.underlying3 h6
 obtain ⟨l7, a7, q7, e7, g7⟩ := openIns10 h7
 obtain ⟨l8, a8, q8, e8, g8⟩ := openCl10 h8
 simp only [List.cons.injEq, and_true] at e0 e1 e2 e4 e6
 obtain ⟨rfl, rfl, rfl, rfl⟩ := e4
 subst e0 e1 e2 e3 e5 e6 e7 e8
 exact ⟨⟨s, x1, x2, a3, q3, l3, t, a5, q5, l5, x6, a7, q7, l7, a8, q8, l8⟩, rfl, ⟨g3, g5, g7, g8⟩, hs⟩

/-- An image that came in. -/
def ImV (W : World) (v : Value) (g : Img) : Prop := v = imV g ∧ Im W g ∧ g.nmOk

set_option maxRecDepth 100000 in
theorem open_api_Image {H : Type} {enc : TypeId × Value → H} {W : World} {base : Nat} {v : Value} {d : DataW H} {p : List MemPlace}
  (hv : Value.okWide Tryz.prog W .any base 26 v) (h : DataW.Trod enc Tryz.prog W 0 (fun _ => true) true 26 v d p) : ∃ g, ImV W v g := by
 obtain ⟨cs, rfl, hsz⟩ := okWide_struct Tryz.underlying26 hv
 obtain ⟨fuel, hf0⟩ := h
 have hl : cs.toList.length = 4 := by have := hsz.trans Tryz.cellsIm; simpa [Value.cells] using this
 have hf1 : DataW.trod enc Tryz.prog W 0 (fun _ => true) true fuel 26 cs.toList = some (d, p) := by simpa [Value.cells] using hf0
 obtain ⟨c0, c1, c2, c3, hcs⟩ := list4 hl
 rw [hcs] at hf1
 obtain ⟨xs, m, _, _, _, hlen, hf⟩ := DataW.trod_struct Tryz.underlying26 hf1
 obtain ⟨y0, y1, y2, y3, rfl⟩ := list4 (show xs.length = 4 from hlen)
 have h0 : DataW.trod enc Tryz.prog W 0 (fun _ => true) true m 22 [c0] = some y0 := by
  have := hf 0 _ rfl
  simpa [Tryz.cellsSTD] using this
 have h1 : DataW.trod enc Tryz.prog W 0 (fun _ => true) true m 23 [c1] = some y1 := by
  have := hf 1 _ rfl
  simpa [Tryz.cellsSFD] using this
 have h2 : DataW.trod enc Tryz.prog W 0 (fun _ => true) true m 24 [c2] = some y2 := by
  have := hf 2 _ rfl
  simpa [Tryz.cellsSMD] using this
 have h3 : DataW.trod enc Tryz.prog W 0 (fun _ => true) true m 3 [c3] = some y3 := by
  have := hf 3 _ rfl
  simpa [Tryz.cellsInt] using this
 obtain ⟨lt, ht, qt⟩ := openEs2 (Q := fun x : TD => x.ok W ∧ x.nm.size ≤ maxLen) tdE ⟨ByteArray.empty, 0, 0, none, 0, []⟩ 22 34 Tryz.underlying22 Tryz.cellsTD tdCells h0
 obtain ⟨lf, hff, qf⟩ := openEs2 (Q := fun x : FD => x.nm.size ≤ maxLen) fdE ⟨ByteArray.empty, 0, (0, 0, 0, false), false⟩ 23 75 Tryz.underlying23 Tryz.cellsFD fdCells h1
 obtain ⟨lm, hm, qm⟩ := openEs2 (Q := fun x : MD => x.ok W ∧ x.nm.size ≤ maxLen) mdE ⟨ByteArray.empty, 0, 0, none, 0, [], (0, 0, 0, false), none, 0, [], 0, none, 0, [], none, 0, []⟩ 24 55 Tryz.underlying24 Tryz.cellsMD mdCells h2
 obtain ⟨x3, e3, _, _⟩ := DataW.trod_int Tryz.underlying3 h3
 simp only [List.cons.injEq, and_true] at e3
 subst e3
 obtain ⟨ta, tc, rfl, _, _⟩ := ht.shape
 obtain ⟨fa, fc, rfl, _, _⟩ := hff.shape
 obtain ⟨ma, mc, rfl, _, _⟩ := hm.shape
 refine ⟨⟨ta, tc, lt, fa, fc, lf, ma, mc, lm, x3⟩, ?_, ⟨ht, fun x hx => (qt x hx).1, hff, hm, fun x hx => (qm x hx).1⟩, ⟨fun x hx => (qt x hx).2, qf, fun x hx => (qm x hx).2⟩⟩
 unfold imV
 congr 1
 apply Array.toList_inj.1
 exact hcs
end Go.Proofs.YthpmpdpfnlecmaaGreat
