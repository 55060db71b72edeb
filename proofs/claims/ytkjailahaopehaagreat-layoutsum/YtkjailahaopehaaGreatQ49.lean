/- Texts joined: RefSame5, Ins7, RefSame10. -/
import Derived.Test.YtkjailahaopehaaGreatQ08
import Derived.Deep.QuietTactic
import Derived.BigQuiet
import Derived.Test.YtkjailahaopehaaGreatQ01
import Derived.Test.YtkjailahaopehaaGreatQ02
import Derived.Test.YtkjailahaopehaaGreatQ06
import Derived.Test.YtkjailahaopehaaGreatQ34
namespace Go.Proofs.YtkjailahaopehaaGreat
set_option linter.unusedVariables false
set_option linter.unusedSimpArgs false
open Go.RowKit
set_option maxHeartbeats 1000000 in
theorem sameTypes_some {w : World} {ba oa ca bb ob cb : Nat} {ts : List Ty} (hl : ts.length ≤ maxLen)
  (ha : ∀ i (h : i < ts.length), w.cell? ⟨ba, oa + i * 4, none⟩ = some (.int .i64 ts[i].1) ∧ w.cell? ⟨ba, oa + i * 4 + 1, none⟩ = some (.int .i64 ts[i].2.1) ∧ w.cell? ⟨ba, oa + i * 4 + 2, none⟩ = some (.int .i64 ts[i].2.2.1) ∧ w.cell? ⟨ba, oa + i * 4 + 3, none⟩ = some (.bool ts[i].2.2.2))
  (hb : ∀ i (h : i < ts.length), w.cell? ⟨bb, ob + i * 4, none⟩ = some (.int .i64 ts[i].1) ∧ w.cell? ⟨bb, ob + i * 4 + 1, none⟩ = some (.int .i64 ts[i].2.1) ∧ w.cell? ⟨bb, ob + i * 4 + 2, none⟩ = some (.int .i64 ts[i].2.2.1) ∧ w.cell? ⟨bb, ob + i * 4 + 3, none⟩ = some (.bool ts[i].2.2.2)) :
  Calls Tryz.prog 21 #[.slice (some ⟨ba, oa, none⟩) ts.length ca, .slice (some ⟨bb, ob, none⟩) ts.length cb] w fun e w' => e = .returned (.bool true) ∧ ∃ n, w' = w.drewN n := by
 unfold maxLen at hl
 have HA : Hid (∀ i (h : i < ts.length), w.cell? ⟨ba, oa + i * 4, none⟩ = some (.int .i64 ts[i].1) ∧ w.cell? ⟨ba, oa + i * 4 + 1, none⟩ = some (.int .i64 ts[i].2.1) ∧ w.cell? ⟨ba, oa + i * 4 + 2, none⟩ = some (.int .i64 ts[i].2.2.1) ∧ w.cell? ⟨ba, oa + i * 4 + 3, none⟩ = some (.bool ts[i].2.2.2)) := ha
 have HB : Hid (∀ i (h : i < ts.length), w.cell? ⟨bb, ob + i * 4, none⟩ = some (.int .i64 ts[i].1) ∧ w.cell? ⟨bb, ob + i * 4 + 1, none⟩ = some (.int .i64 ts[i].2.1) ∧ w.cell? ⟨bb, ob + i * 4 + 2, none⟩ = some (.int .i64 ts[i].2.2.1) ∧ w.cell? ⟨bb, ob + i * 4 + 3, none⟩ = some (.bool ts[i].2.2.2)) := hb
 clear ha hb
 go_enter Tryz.func21, Tryz.ntmps21
 go_wp2
 go_loopw [5] (fun z wr => ∃ q n : Nat, q ≤ ts.length ∧ z = .int .i64 (q : Int) ∧ wr = w.drewN n) (fun z _ => ts.length - (intOf z).toNat)
 case atStart => exact ⟨0, 0, Nat.zero_le _, rfl, rfl⟩
 case round =>
  obtain ⟨q, n, hq, rfl, rfl⟩ := hrel
  by_cases hql : q < ts.length
  ·obtain ⟨c0, c1, c2, c3⟩ := HA.out q hql
   obtain ⟨d0, d1, d2, d3⟩ := HB.out q hql
   generalize ts[q] = t at *
   obtain ⟨k, i, d, r⟩ := t
   simp only at c0 c1 c2 c3 d0 d1 d2 d3
   go_wp2
   go_quiet (fail)
   go_wp2
   go_roundw
   case rel => exact ⟨q + 1, n + nq, by omega, by go_num, rfl⟩
   case measure => simp [intOf]; omega
  ·go_wp2
   go_ret
   exact ⟨rfl, n, rfl⟩

theorem sameTypes_none (xa xb : Option Addr) (ca cb : Nat) (w : World) :
  Calls Tryz.prog 21 #[.slice xa 0 ca, .slice xb 0 cb] w fun e w' => e = .returned (.bool true) ∧ w' = w := by
 go_enter Tryz.func21, Tryz.ntmps21
 go_wp2
 go_loopw [5] (fun z wr => z = .int .i64 0 ∧ wr = w) (fun z _ => 0)
 case atStart => exact ⟨rfl, rfl⟩
 case round =>
  obtain ⟨rfl, rfl⟩ := hrel
  go_wp2
  go_ret
  exact ⟨rfl, rfl⟩

theorem sameTypes_yes {w : World} {va vb : Value} {ts : List Ty} (ha : Ts w va ts) (hb : Ts w vb ts) :
  Calls Tryz.prog 21 #[va, vb] w fun e w' => e = .returned (.bool true) ∧ ∃ n, w' = w.drewN n := by
 have hl := ha.len
 obtain ⟨xa, ca, rfl, _, _, ga⟩ := ha
 obtain ⟨xb, cb, rfl, _, _, gb⟩ := hb
 by_cases hne : ts = []
 ·subst hne
  refine (sameTypes_none xa xb ca cb w).mono ?_
  rintro e w' ⟨rfl, rfl⟩
  exact ⟨rfl, 0, rfl⟩
 ·obtain ⟨ba, oa, rfl, _, ha⟩ := ga hne
  obtain ⟨bb, ob, rfl, _, hb⟩ := gb hne
  exact sameTypes_some hl ha hb
/-- The cells of instructions. -/
def xcL : List Ins → List Value
 | [] => []
 | x :: r => .int .i64 x.1 :: .int .i64 x.2.1 :: .int .i64 x.2.2.1 :: .int .i64 x.2.2.2.1 :: .int .i64 x.2.2.2.2.1 :: .bool x.2.2.2.2.2 :: xcL r
theorem xcL_length (L : List Ins) : (xcL L).length = 6 * L.length := by
 induction L with
 | nil => rfl
 | cons t r ih => simp [xcL, ih]; omega
theorem xcL_get : ∀ (L : List Ins) (i : Nat) (h : i < L.length), (xcL L)[i * 6]? = some (.int .i64 L[i].1) ∧ (xcL L)[i * 6 + 1]? = some (.int .i64 L[i].2.1) ∧ (xcL L)[i * 6 + 2]? = some (.int .i64 L[i].2.2.1) ∧ (xcL L)[i * 6 + 3]? = some (.int .i64 L[i].2.2.2.1) ∧ (xcL L)[i * 6 + 4]? = some (.int .i64 L[i].2.2.2.2.1) ∧ (xcL L)[i * 6 + 5]? = some (.bool L[i].2.2.2.2.2)
 | t :: r, 0, _ => ⟨rfl, rfl, rfl, rfl, rfl, rfl⟩
 | t :: r, i + 1, h => by
  have ih := xcL_get r i (by simpa using h)
  have e : (i + 1) * 6 = i * 6 + 1 + 1 + 1 + 1 + 1 + 1 := by omega
  simp only [xcL, e, List.getElem?_cons_succ, List.getElem_cons_succ]
  exact ih
/-- The value is a slice of just these instructions in that world. -/
def Xs (w : World) (v : Value) (l : List Ins) : Prop :=
 ∃ a cap, v = .slice a l.length cap ∧ l.length ≤ cap ∧ cap ≤ maxLen ∧
  (l ≠ [] → ∃ b off, a = some ⟨b, off, none⟩ ∧ b < w.heap.size ∧ ∀ j u, (xcL l)[j]? = some u → w.cell? ⟨b, off + j, none⟩ = some u)

theorem Xs.nil (w : World) : Xs w (.slice none 0 0) [] := ⟨none, 0, rfl, Nat.le_refl _, Nat.zero_le _, fun h => absurd rfl h⟩
theorem Xs.len {w : World} {v : Value} {l : List Ins} (h : Xs w v l) : l.length ≤ maxLen := by
 obtain ⟨a, cap, _, h1, h2, _⟩ := h; omega
theorem Xs.shape {w : World} {v : Value} {l : List Ins} (h : Xs w v l) : ∃ a c, v = .slice a l.length c ∧ l.length ≤ c ∧ c ≤ maxLen := by
 obtain ⟨a, c, h1, h2, h3, _⟩ := h
 exact ⟨a, c, h1, h2, h3⟩
theorem Xs.of_block {w w' : World} {v : Value} {l : List Ins} (h : Xs w v l) (hs : w.heap.size ≤ w'.heap.size) (hk : ∀ k, v.ownBlock = some k → k < w.heap.size → w'.heap[k]? = w.heap[k]?) : Xs w' v l := by
 obtain ⟨a, cap, rfl, h1, h2, h3⟩ := h
 refine ⟨a, cap, rfl, h1, h2, fun hne => ?_⟩
 obtain ⟨b, off, rfl, hb, hc⟩ := h3 hne
 refine ⟨b, off, rfl, by omega, fun j u hj => ?_⟩
 rw [← hc j u hj]
 exact World.cell?_of_block (hk b rfl hb)
theorem Xs.below {w w' : World} {v : Value} {l : List Ins} {B : Nat} (h : Xs w v l) (hb : Below B w w') (hk : ∀ k, v.ownBlock = some k → k < B) : Xs w' v l :=
 h.of_block hb.size fun k hv _ => hb.block k (hk k hv)
theorem Xs.later {w w' : World} {v : Value} {l : List Ins} (h : Xs w v l) (hb : Below w.heap.size w w') : Xs w' v l :=
 h.of_block hb.size fun k _ hk => hb.block k hk
theorem Xs.drewN {w : World} {v : Value} {l : List Ins} (h : Xs w v l) (n : Nat) : Xs (w.drewN n) v l :=
 h.of_block (Nat.le_refl _) fun _ _ _ => rfl

/-- Six cells at a place hold this instruction. -/
def Six (w : World) (b o : Nat) (x : Ins) : Prop := w.cell? ⟨b, o, none⟩ = some (.int .i64 x.1) ∧ w.cell? ⟨b, o + 1, none⟩ = some (.int .i64 x.2.1) ∧ w.cell? ⟨b, o + 2, none⟩ = some (.int .i64 x.2.2.1) ∧
 w.cell? ⟨b, o + 3, none⟩ = some (.int .i64 x.2.2.2.1) ∧ w.cell? ⟨b, o + 4, none⟩ = some (.int .i64 x.2.2.2.2.1) ∧ w.cell? ⟨b, o + 5, none⟩ = some (.bool x.2.2.2.2.2)
theorem Six.below {w w' : World} {b o B : Nat} {x : Ins} (h : Six w b o x) (hb : Below B w w') (hB : b < B) : Six w' b o x := by
 have e : ∀ o, w'.cell? ⟨b, o, none⟩ = w.cell? ⟨b, o, none⟩ := fun o => hb.cell (p := ⟨b, o, none⟩) hB
 unfold Six at h ⊢
 simp only [e]
 exact h
/-- What is known of a slice that is not empty. -/
theorem Xs.parts {w : World} {v : Value} {l : List Ins} (h : Xs w v l) (hne : l ≠ []) : ∃ b off cap, v = .slice (some ⟨b, off, none⟩) l.length cap ∧ l.length ≤ cap ∧ cap ≤ maxLen ∧ b < w.heap.size ∧ ∀ i (hi : i < l.length), Six w b (off + i * 6) l[i] := by
 obtain ⟨a, cap, rfl, h1, h2, h3⟩ := h
 obtain ⟨b, off, rfl, hb, hc⟩ := h3 hne
 refine ⟨b, off, cap, rfl, h1, h2, hb, fun i hi => ?_⟩
 obtain ⟨g0, g1, g2, g3, g4, g5⟩ := xcL_get l i hi
 exact ⟨hc _ _ g0, by rw [Nat.add_assoc]; exact hc _ _ g1, by rw [Nat.add_assoc]; exact hc _ _ g2, by rw [Nat.add_assoc]; exact hc _ _ g3, by rw [Nat.add_assoc]; exact hc _ _ g4, by rw [Nat.add_assoc]; exact hc _ _ g5⟩

/-- The same in memory of the call's own. -/
def OwnX (w : World) (base : Nat) (v : Value) (l : List Ins) : Prop := w.ownsRow base 85 6 v l.length (xcL l)

theorem OwnX.xs {w : World} {base : Nat} {v : Value} {l : List Ins} (h : OwnX w base v l) : Xs w v l := by
 obtain ⟨h1, h2⟩ := h
 rcases h2 with ⟨rfl, h0⟩ | ⟨g, cap, cur, rfl, hg, hh, hn, hm, hs, ht⟩
 ·have : l = [] := List.eq_nil_of_length_eq_zero h0
  subst this; exact Xs.nil w
 ·refine ⟨_, cap, rfl, hn, hm, fun _ => ⟨g, 0, rfl, (Array.getElem?_eq_some_iff.1 hh).1, fun j u hj => ?_⟩⟩
  have hjl : j < 6 * l.length := by rw [← xcL_length]; exact (List.getElem?_eq_some_iff.1 hj).1
  rw [← ht, List.getElem?_take, if_pos (by omega)] at hj
  simp only [World.cell?, hh, Nat.zero_add]
  simpa using hj
theorem OwnX.block {w : World} {base : Nat} {v : Value} {l : List Ins} (h : OwnX w base v l) : ∀ k, v.ownBlock = some k → base ≤ k ∧ k < w.heap.size := World.ownsRow.lt h
theorem OwnX.of_block {w w' : World} {base : Nat} {v : Value} {l : List Ins} (h : OwnX w base v l) (hb : ∀ k, v.ownBlock = some k → k < w.heap.size → w'.heap[k]? = w.heap[k]?) : OwnX w' base v l := by
 obtain ⟨h1, h2⟩ := h
 refine ⟨h1, ?_⟩
 rcases h2 with h2 | ⟨g, cap, cur, rfl, hg, hh, r⟩
 ·exact Or.inl h2
 ·exact Or.inr ⟨g, cap, cur, rfl, hg, by rw [hb g rfl (Array.getElem?_eq_some_iff.1 hh).1]; exact hh, r⟩
theorem OwnX.later {w w' : World} {base : Nat} {v : Value} {l : List Ins} (h : OwnX w base v l) (hb : Below w.heap.size w w') : OwnX w' base v l :=
 h.of_block fun k _ hk => hb.block k hk
theorem OwnX.nil (w : World) (base : Nat) : OwnX w base (.slice none 0 0) [] := World.ownsRow_nil w base 85 6
theorem OwnX.typed {w : World} {base : Nat} {v : Value} {l : List Ins} (h : OwnX w base v l) : ∀ k, v.ownBlock = some k → ∃ C, At w k C 85 := by
 intro k hk
 rcases h.2 with ⟨rfl, _⟩ | ⟨g, cap, cur, rfl, hg, hh, r⟩
 ·simp [Value.ownBlock] at hk
 ·simp [Value.ownBlock] at hk; subst hk; exact ⟨cur, hh⟩
theorem OwnX.empty (w : World) (base : Nat) (hb : base ≤ w.heap.size) : OwnX (w.alloc (.cells #[] 85)) base (.slice (some ⟨w.heap.size, 0, none⟩) 0 0) [] := by
 have := World.ownsRow_lit (base := base) (e := 85) (size := 6) w #[] 0 hb (Nat.zero_le _) (by simp)
 unfold OwnX
 simpa [xcL] using this
theorem OwnX.lit (w : World) (base : Nat) (l : List Ins) (C : Array Value) (n : Nat) (hb : base ≤ w.heap.size) (hC : C = (xcL l).toArray) (hn : n = l.length) (hm : l.length ≤ maxLen) :
  OwnX (w.alloc (.cells C 85)) base (.slice (some ⟨w.heap.size, 0, none⟩) n n) l := by
 subst hC hn
 have := World.ownsRow_lit (base := base) (e := 85) (size := 6) w (xcL l).toArray l.length hb hm (by simp [xcL_length]; omega)
 unfold OwnX
 simpa using this
/-- A block of another element type stands while a row of instructions grows. -/
theorem OwnX.ne {w : World} {base g : Nat} {v : Value} {l : List Ins} {C : Array Value} {t : TypeId} (ho : OwnX w base v l) (h : At w g C t) (ht : t ≠ 85) : v.ownBlock ≠ some g := by
 intro e
 obtain ⟨C', hC⟩ := ho.typed g e
 unfold At at h hC
 rw [h] at hC
 simp only [Option.some.injEq, Obj.cells.injEq] at hC
 exact ht hC.2.1
/-- Two instructions compared. -/
theorem ne_ins (W : World) (x : Ins) : (binOp .neq 85 (.agg #[.int .i64 x.1, .int .i64 x.2.1, .int .i64 x.2.2.1, .int .i64 x.2.2.2.1, .int .i64 x.2.2.2.2.1, .bool x.2.2.2.2.2]) (.agg #[.int .i64 x.1, .int .i64 x.2.1, .int .i64 x.2.2.1, .int .i64 x.2.2.2.1, .int .i64 x.2.2.2.2.1, .bool x.2.2.2.2.2])).run Tryz.prog W = .ok (.bool false) W := by
 simp [go_sem]

theorem refSame7_none (xa xb : Option Addr) (ca cb : Nat) (w : World) :
  Calls Tryz.prog 52 #[.slice xa 0 ca, .slice xb 0 cb] w fun e w' => e = .returned (.bool true) ∧ w' = w := by
 go_enter Tryz.func52, Tryz.ntmps52
 go_wp2
 refine wp_loop_rounds 1 ?_; rw [rounds_succ]
 go_wp2
 go_ret
 exact ⟨rfl, rfl⟩

set_option maxHeartbeats 1000000 in
theorem refSame7_some {w : World} {ba oa ca bb ob cb : Nat} {l : List Ins} (hl : l.length ≤ maxLen)
  (ha : ∀ i (h : i < l.length), Six w ba (oa + i * 6) l[i]) (hb : ∀ i (h : i < l.length), Six w bb (ob + i * 6) l[i]) :
  Calls Tryz.prog 52 #[.slice (some ⟨ba, oa, none⟩) l.length ca, .slice (some ⟨bb, ob, none⟩) l.length cb] w fun e w' => e = .returned (.bool true) ∧ ∃ n, w' = w.drewN n := by
 unfold maxLen at hl
 have HA : Hid (∀ i (h : i < l.length), Six w ba (oa + i * 6) l[i]) := ha
 have HB : Hid (∀ i (h : i < l.length), Six w bb (ob + i * 6) l[i]) := hb
 clear ha hb
 go_enter Tryz.func52, Tryz.ntmps52
 go_wp2
 go_loopw [5] (fun z wr => ∃ q n : Nat, q ≤ l.length ∧ z = .int .i64 (q : Int) ∧ wr = w.drewN n) (fun z _ => l.length - (intOf z).toNat)
 case atStart => exact ⟨0, 0, Nat.zero_le _, rfl, rfl⟩
 case round =>
  obtain ⟨q, n, hq, rfl, rfl⟩ := hrel
  by_cases hql : q < l.length
  ·obtain ⟨c0, c1, c2, c3, c4, c5⟩ := HA.out q hql
   obtain ⟨d0, d1, d2, d3, d4, d5⟩ := HB.out q hql
   have hne := fun W => ne_ins W l[q]
   generalize l[q] = t at *
   obtain ⟨o, m, k, i, d, r⟩ := t
   simp only at c0 c1 c2 c3 c4 c5 d0 d1 d2 d3 d4 d5 hne
   go_wp2
   go_quiet (fail)
   go_wp2
   go_roundw
   case rel => exact ⟨q + 1, n + nq, by omega, by go_num, rfl⟩
   case measure => simp [intOf]; omega
  ·go_wp2
   go_ret
   exact ⟨rfl, n, rfl⟩

theorem refSame7_yes {w : World} {va vb : Value} {l : List Ins} (ha : Xs w va l) (hb : Xs w vb l) :
  Calls Tryz.prog 52 #[va, vb] w fun e w' => e = .returned (.bool true) ∧ ∃ n, w' = w.drewN n := by
 have hl := ha.len
 by_cases hne : l = []
 ·subst hne
  obtain ⟨xa, ca, rfl, _, _, _⟩ := ha
  obtain ⟨xb, cb, rfl, _, _, _⟩ := hb
  refine (refSame7_none xa xb ca cb w).mono ?_
  rintro e w' ⟨rfl, rfl⟩
  exact ⟨rfl, 0, rfl⟩
 ·obtain ⟨ba, oa, ca, rfl, _, _, _, ha⟩ := ha.parts hne
  obtain ⟨bb, ob, cb, rfl, _, _, _, hb⟩ := hb.parts hne
  exact refSame7_some hl ha hb
end Go.Proofs.YtkjailahaopehaaGreat

namespace Go.Proofs.YtkjailahaopehaaGreat
set_option linter.unusedVariables false
set_option linter.unusedSimpArgs false
open Go.RowKit
attribute [local go_sem ↓] Go.wp_at_zero Go.wp_at_succ
theorem ecL_ins (l : List Ins) : ecL insE l = xcL l := by
 induction l with
 | nil => rfl
 | cons x r ih =>
  have h : ecL insE (x :: r) = insC x ++ ecL insE r := by simp [ecL, insE]
  rw [h, ih]; simp [xcL, insC]
theorem Es.toXs {w : World} {v : Value} {l : List Ins} (h : Es insE w v l) : Xs w v l := by
 obtain ⟨a, cap, rfl, h1, h2, h3⟩ := h
 rw [ecL_ins] at h3
 exact ⟨a, cap, rfl, h1, h2, h3⟩
theorem Xs.toEs {w : World} {v : Value} {l : List Ins} (h : Xs w v l) : Es insE w v l := by
 obtain ⟨a, cap, rfl, h1, h2, h3⟩ := h
 rw [← ecL_ins] at h3
 exact ⟨a, cap, rfl, h1, h2, h3⟩
theorem drew_below {w w' : World} (h : ∃ n, w' = w.drewN n) : Below w.heap.size w w' := by
 obtain ⟨n, rfl⟩ := h
 exact Below.drewN (Below.refl _ _) n

/-- Two like clauses, two like fields compared. -/
theorem neq_cl (W : World) (x : Cl) : (binOp .neq 69 (clV x) (clV x)).run Tryz.prog W = .ok (.bool false) W := by
 unfold clV
 simp [go_sem]
theorem neq_fd (W : World) (x : FD) : (binOp .neq 50 (fdV x) (fdV x)).run Tryz.prog W = .ok (.bool false) W := by
 unfold fdV
 simp [go_sem]
theorem neq_ty (W : World) (t : Ty) : (binOp .neq 37 (tv t) (tv t)).run Tryz.prog W = .ok (.bool false) W := by
 unfold tv
 simp [go_sem]

set_option maxHeartbeats 4000000 in
set_option maxRecDepth 100000 in
theorem sameMethod_yes {x y : MD} {w : World} (hx : x.ok w) (hy : y.ok w) (hl : x.like y) :
  Calls Tryz.prog 37 #[mdV x, mdV y] w fun e w' => e = .returned (.bool true) ∧ Below w.heap.size w w' := by
 obtain ⟨e1, e2, e3, e4, e5, e6, e7, e8, e9⟩ := hl
 obtain ⟨hy1, hy2, hy3, hy4⟩ := hy
 rw [← e4] at hy1
 rw [← e6] at hy2
 rw [← e8] at hy3
 rw [← e9] at hy4
 have hyV : mdV y = .agg #[.string x.nm, .int .i64 x.ow, .int .i64 x.fl, .slice y.pa x.ps.length y.pc, .int .i64 x.rt.1, .int .i64 x.rt.2.1, .int .i64 x.rt.2.2.1, .bool x.rt.2.2.2, .slice y.la x.ls.length y.lc, .int .i64 x.mx, .slice y.ca x.co.length y.cc, .slice y.ka x.cl.length y.kc] := by unfold mdV; rw [← e1, ← e2, ← e3, ← e4, ← e5, ← e6, ← e7, ← e8, ← e9]
 rw [hyV]
 clear e1 e2 e3 e4 e5 e6 e7 e8 e9 hyV
 obtain ⟨w0, hw0⟩ : ∃ W, W = (w.alloc (.cells #[.string x.nm, .int .i64 x.ow, .int .i64 x.fl, .slice x.pa x.ps.length x.pc, .int .i64 x.rt.1, .int .i64 x.rt.2.1, .int .i64 x.rt.2.2.1, .bool x.rt.2.2.2, .slice x.la x.ls.length x.lc, .int .i64 x.mx, .slice x.ca x.co.length x.cc, .slice x.ka x.cl.length x.kc] 58)).alloc (.cells #[.string x.nm, .int .i64 x.ow, .int .i64 x.fl, .slice y.pa x.ps.length y.pc, .int .i64 x.rt.1, .int .i64 x.rt.2.1, .int .i64 x.rt.2.2.1, .bool x.rt.2.2.2, .slice y.la x.ls.length y.lc, .int .i64 x.mx, .slice y.ca x.co.length y.cc, .slice y.ka x.cl.length y.kc] 58) := ⟨_, rfl⟩
 have HW0 : Hid (w0 = _) := hw0
 obtain ⟨hb0, hat⟩ := two_boxes hw0
 have HB0 : Hid (Below w.heap.size w w0) := hb0
 have HAT : Hid (∀ W, Below w0.heap.size w0 W → At W w.heap.size #[.string x.nm, .int .i64 x.ow, .int .i64 x.fl, .slice x.pa x.ps.length x.pc, .int .i64 x.rt.1, .int .i64 x.rt.2.1, .int .i64 x.rt.2.2.1, .bool x.rt.2.2.2, .slice x.la x.ls.length x.lc, .int .i64 x.mx, .slice x.ca x.co.length x.cc, .slice x.ka x.cl.length x.kc] 58 ∧ At W (w.heap.size + 1) #[.string x.nm, .int .i64 x.ow, .int .i64 x.fl, .slice y.pa x.ps.length y.pc, .int .i64 x.rt.1, .int .i64 x.rt.2.1, .int .i64 x.rt.2.2.1, .bool x.rt.2.2.2, .slice y.la x.ls.length y.lc, .int .i64 x.mx, .slice y.ca x.co.length y.cc, .slice y.ka x.cl.length y.kc] 58) := hat
 have HK1 : Hid (∀ W, Below w0.heap.size w0 W → Es clE9 W (.slice x.ka x.cl.length x.kc) x.cl) := fun W hW => hx.cl.later (bstep hb0 hW)
 have HK2 : Hid (∀ W, Below w0.heap.size w0 W → Es clE9 W (.slice y.ka x.cl.length y.kc) x.cl) := fun W hW => hy4.later (bstep hb0 hW)
 have HP : Hid (∀ W, Below w0.heap.size w0 W → Calls Tryz.prog 21 #[.slice x.pa x.ps.length x.pc, .slice y.pa x.ps.length y.pc] W fun e w' => e = .returned (.bool true) ∧ Below W.heap.size W w') := fun W hW => (sameTypes_yes (hx.ps.later (bstep hb0 hW)).toTs (hy1.later (bstep hb0 hW)).toTs).mono fun e w' ⟨h1, h2⟩ => ⟨h1, drew_below h2⟩
 have HL : Hid (∀ W, Below w0.heap.size w0 W → Calls Tryz.prog 21 #[.slice x.la x.ls.length x.lc, .slice y.la x.ls.length y.lc] W fun e w' => e = .returned (.bool true) ∧ Below W.heap.size W w') := fun W hW => (sameTypes_yes (hx.ls.later (bstep hb0 hW)).toTs (hy2.later (bstep hb0 hW)).toTs).mono fun e w' ⟨h1, h2⟩ => ⟨h1, drew_below h2⟩
 have HC : Hid (∀ W, Below w0.heap.size w0 W → Calls Tryz.prog 52 #[.slice x.ca x.co.length x.cc, .slice y.ca x.co.length y.cc] W fun e w' => e = .returned (.bool true) ∧ Below W.heap.size W w') := fun W hW => (refSame7_yes (hx.co.later (bstep hb0 hW)).toXs (hy3.later (bstep hb0 hW)).toXs).mono fun e w' ⟨h1, h2⟩ => ⟨h1, drew_below h2⟩
 have hkl := hx.cl.len
 unfold maxLen at hkl
 have hnt : ∀ W : World, (binOp .neq 37 (.agg #[.int .i64 x.rt.1, .int .i64 x.rt.2.1, .int .i64 x.rt.2.2.1, .bool x.rt.2.2.2]) (.agg #[.int .i64 x.rt.1, .int .i64 x.rt.2.1, .int .i64 x.rt.2.2.1, .bool x.rt.2.2.2])).run Tryz.prog W = .ok (.bool false) W := fun W => neq_ty W x.rt
 obtain ⟨hA1, hA2⟩ := hat w0 (Below.refl _ _)
 have c1 := hA1.cell
 have c2 := hA2.cell
 clear hw0 hb0 hat hA1 hA2 hx hy1 hy2 hy3 hy4
 unfold mdV
 go_enter Tryz.func37, Tryz.ntmps37
 go_wp2_with (rw [← HW0.out])
 clear c1 c2 hnt
 go_loopw [5] (fun z wr => ∃ q : Nat, q ≤ x.cl.length ∧ z = .int .i64 q ∧ Below w0.heap.size w0 wr) (fun z _ => x.cl.length - (intOf z).toNat)
 case atStart => exact ⟨0, Nat.zero_le _, rfl, Below.refl _ _⟩
 case round =>
  obtain ⟨q, hq, rfl, hB⟩ := hrel
  have HBr : Hid (Below w0.heap.size w0 wr) := hB
  obtain ⟨hA1, hA2⟩ := HAT.out wr hB
  have c1 := hA1.cell
  have c2 := hA2.cell
  clear hA1 hA2
  by_cases hql : q < x.cl.length
  ·obtain ⟨b, off, hfa, hb, h6, h7, hc⟩ := (HK1.out wr hB).at hql
   obtain ⟨b', off', hfa', hb', h6', h7', hc'⟩ := (HK2.out wr hB).at hql
   have k1 := (show El clE9 wr b (off + q * 10) x.cl[q] from hc q hql).ten
   have k2 := (show El clE9 wr b' (off' + q * 10) x.cl[q] from hc' q hql).ten
   generalize x.cl[q] = c at *
   obtain ⟨k10, k11, k12, k13, k14, k15, k16, k17, k18, k19⟩ := k1
   obtain ⟨k20, k21, k22, k23, k24, k25, k26, k27, k28, k29⟩ := k2
   have hnc : ∀ W : World, (binOp .neq 69 (.agg #[.int .i64 c.k, .int .i64 c.tf, .int .i64 c.tt, .int .i64 c.hf, .int .i64 c.ht, .int .i64 c.fi, .int .i64 c.t0, .int .i64 c.t1, .int .i64 c.t2, .bool c.t3]) (.agg #[.int .i64 c.k, .int .i64 c.tf, .int .i64 c.tt, .int .i64 c.hf, .int .i64 c.ht, .int .i64 c.fi, .int .i64 c.t0, .int .i64 c.t1, .int .i64 c.t2, .bool c.t3])).run Tryz.prog W = .ok (.bool false) W := fun W => neq_cl W c
   unfold maxLen at h7 h7'
   rw [hfa] at c1
   rw [hfa'] at c2
   clear hfa hfa' hc hc' hB
   go_wp2_with fail
   go_quiet (fail)
   go_wp2
   go_roundw
   case rel => exact ⟨q + 1, by omega, by go_num, Below.drewN HBr.out _⟩
   case measure => simp [intOf]; omega
  ·have HP1 := HP.out wr hB
   clear hB
   go_wp2_with fail
   refine Calls.mono HP1 ?_
   rintro e w1 ⟨rfl, hb1⟩
   have HB1 : Hid (Below w0.heap.size w0 w1) := bstep HBr.out hb1
   clear HP1 c1 c2 hb1
   obtain ⟨hA1, hA2⟩ := HAT.out w1 HB1.out
   have c1 := hA1.cell
   have c2 := hA2.cell
   have HL1 := HL.out w1 HB1.out
   clear hA1 hA2
   go_wp2_with fail
   refine Calls.mono HL1 ?_
   rintro e w2 ⟨rfl, hb2⟩
   have HB2 : Hid (Below w0.heap.size w0 w2) := bstep HB1.out hb2
   clear HL1 c1 c2 hb2
   obtain ⟨hA1, hA2⟩ := HAT.out w2 HB2.out
   have c1 := hA1.cell
   have c2 := hA2.cell
   have HC1 := HC.out w2 HB2.out
   clear hA1 hA2
   go_wp2_with fail
   refine Calls.mono HC1 ?_
   rintro e w3 ⟨rfl, hb3⟩
   have HB3 : Hid (Below w0.heap.size w0 w3) := bstep HB2.out hb3
   clear HC1 c1 c2 hb3
   go_wp2
   go_ret
   exact ⟨rfl, bstep HB0.out HB3.out⟩
end Go.Proofs.YtkjailahaopehaaGreat
