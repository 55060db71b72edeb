
/- Write of rows. -/
import Derived.Test.YtjmjpdamhondkaaPut4
namespace Go.Proofs.Ytjmjpdamhondkaa
set_option linter.unusedVariables false
set_option linter.unusedSimpArgs false
open Go.RowKit Go.Maps

theorem own_block4 {w w' : World} {base : Nat} {e : TypeId} {v : Value} {xs : List UInt8} (h : Own w base e v xs) (hb : ∀ k, v.ownBlock = some k → w'.heap[k]? = w.heap[k]?) : Own w' base e v xs := (h.v.of_block fun k hk _ => hb k hk).own

theorem cell_lt {w : World} {a : Addr} {u : Value} (h : w.cell? a = some u) : a.block < w.heap.size := by
  rcases Nat.lt_or_ge a.block w.heap.size with h' | h'
  · exact h'
  · simp [World.cell?, Array.getElem?_eq_none h'] at h
theorem cell_later {w W : World} {a : Addr} {u : Value} (h : w.cell? a = some u) (hb : Below w.heap.size w W) : W.cell? a = some u := by
  rw [← h]; exact World.cell?_of_block (hb.block _ (cell_lt h))

/-- What Write holds while it goes on: the counts so far, the rows so far, the box. -/
structure Wt (w0 w : World) (x : Array Value) (cv bv : Value) (H B : List UInt8) : Prop where
  hd : Own w w0.heap.size 5 cv H
  bd : Own w w0.heap.size 5 bv B
  ne : ∀ j, cv.ownBlock = some j → bv.ownBlock ≠ some j
  below : Below w0.heap.size w0 w
  box : w.heap[w0.heap.size]? = some (Obj.cells x 26 (0, 0))

theorem Wt.keep {w0 w w' : World} {x : Array Value} {cv bv v : Value} {H B X : List UInt8} (h : Wt w0 w x cv bv H B) (hv : Own w w0.heap.size 5 v X) (hg : w.grownBy w' v.ownBlock) : Below w0.heap.size w0 w' ∧ w'.heap[w0.heap.size]? = some (Obj.cells x 26 (0, 0)) := by
  refine ⟨h.below.trans ⟨hg.os, hg.tape, hg.output, hg.size, fun k hk => hg.block k (by have := h.below.size; omega) fun e => ?_⟩, (hg.block _ (Array.getElem?_eq_some_iff.1 h.box).1 fun e => ?_).trans h.box⟩
  · have := (hv.block k e.symm).1
    omega
  · obtain ⟨C, hC⟩ := own_typed hv _ e.symm
    rw [h.box] at hC
    simp only [Option.some.injEq, Obj.cells.injEq] at hC
    exact absurd hC.2.1 (by decide)
theorem Wt.body {w0 w w' : World} {x : Array Value} {cv bv bv' : Value} {H B B' : List UInt8} (h : Wt w0 w x cv bv H B) (ha : Ap w w' w0.heap.size bv bv' B') : Wt w0 w' x cv bv' H B' := by
  obtain ⟨k1, k2⟩ := h.keep h.bd ha.grown
  refine ⟨own_block4 h.hd fun k hk => ha.grown.block k (h.hd.block k hk).2 fun e => h.ne k hk e.symm, ha.own, fun j hj e => ?_, k1, k2⟩
  rcases ha.place with g | ⟨k, g, hk⟩
  · rw [g] at e; exact h.ne j hj e
  · rw [g] at e; cases e
    have := (h.hd.block _ hj).2
    omega
theorem Wt.head {w0 w w' : World} {x : Array Value} {cv cv' bv : Value} {H H' B : List UInt8} (h : Wt w0 w x cv bv H B) (ha : Ap w w' w0.heap.size cv cv' H') : Wt w0 w' x cv' bv H' B := by
  obtain ⟨k1, k2⟩ := h.keep h.hd ha.grown
  refine ⟨ha.own, own_block4 h.bd fun k hk => ha.grown.block k (h.bd.block k hk).2 fun e => h.ne k e.symm hk, fun j hj e => ?_, k1, k2⟩
  rcases ha.place with g | ⟨k, g, hk⟩
  · rw [g] at hj; exact h.ne j hj e
  · rw [g] at hj; cases hj
    have := (h.bd.block _ e).2
    omega

/-- A table one more. -/
theorem take_tab {T : List (List (List Int))} {i : Nat} (h : i < T.length) : T.take (i + 1) = T.take i ++ [T[i]] := List.take_succ_eq_append_getElem h
theorem cnt_step {T : List (List (List Int))} {i : Nat} (h : i < T.length) : cntB (T.take (i + 1)) = cntB (T.take i) ++ (if T[i].length = 0 then [] else leL T[i].length 2) := by
  rw [take_tab h, cntB_append]; simp [cntB]
theorem tabs_step {T : List (List (List Int))} {i : Nat} (h : i < T.length) : tabsB 0 (T.take (i + 1)) = tabsB 0 (T.take i) ++ tabB i T[i] := by
  rw [take_tab h, tabsB_append]
  have : (T.take i).length = i := by simp; omega
  simp [tabsB, this]
theorem tab_step {t : Nat} {l : List (List Int)} {k : Nat} (h : k < l.length) : tabB t (l.take (k + 1)) = tabB t (l.take k) ++ rowB t 0 l[k] := by
  rw [List.take_succ_eq_append_getElem h, tabB_append]; simp [tabB]
theorem there_snoc : ∀ (l : List (List (List Int))) (x : List (List Int)), thereB (l ++ [x]) = thereB l + (if x.length = 0 then 0 else 2 ^ l.length)
  | [], x => by simp [thereB]
  | y :: l, x => by
    have ih := there_snoc l x
    simp only [List.cons_append, thereB, ih, List.length_cons, Nat.pow_succ]
    (repeat' split) <;> omega
theorem there_step {T : List (List (List Int))} {i : Nat} (h : i < T.length) : thereB (T.take (i + 1)) = thereB (T.take i) + (if T[i].length = 0 then 0 else 2 ^ i) := by
  rw [take_tab h, there_snoc]
  have : (T.take i).length = i := by simp; omega
  rw [this]
theorem tabB_le {t : Nat} {l : List (List Int)} (h : ∀ row ∈ l, row.length = colsR t) : (tabB t l).length ≤ 24 * l.length := by
  induction l with
  | nil => simp [tabB]
  | cons r l ih =>
    have h6 : colsR t ≤ 6 := by unfold colsR; split <;> omega
    have h1 := rowB_le t r 0
    have h2 := h r (by simp)
    have h3 := ih fun row hr => h row (by simp [hr])
    have e : tabB t (r :: l) = rowB t 0 r ++ tabB t l := by simp [tabB]
    rw [e, List.length_append, List.length_cons]; omega
theorem tabs_le {T : List (List (List Int))} (hs : ∀ i (hi : i < T.length), ∀ row ∈ T[i], row.length = colsR i) (hf : ∀ i (hi : i < T.length), T[i].length < 65536) : ∀ i, i ≤ T.length → (tabsB 0 (T.take i)).length ≤ 1572864 * i
  | 0, _ => by simp [tabsB]
  | i + 1, h => by
    have ih := tabs_le hs hf i (by omega)
    have h1 := tabB_le (hs i (by omega))
    have h2 := hf i (by omega)
    rw [tabs_step (by omega), List.length_append]; omega
theorem cnt_le {T : List (List (List Int))} : (cntB T).length ≤ 2 * T.length := by
  induction T with
  | nil => simp [cntB]
  | cons l r ih =>
    have : cntB (l :: r) = (if l.length = 0 then [] else leL l.length 2) ++ cntB r := rfl
    rw [this, List.length_append, List.length_cons]
    split
    · simp; omega
    · rw [leL_length]; omega

theorem write_arg {w : World} {v : Value} {T : List (List (List Int))} (entry : Int) (hv : In3 w v T) (hno : (decide (T.length = 6) && shaped 0 T) = false) :
    Calls Try.prog 14 #[.agg #[.int .i64 entry, v]] w fun e w' => e = .returned (.tuple #[.slice none 0 0, .int .i64 17]) ∧ Below w.heap.size w w' := by
  have HV : Hid (∀ W, Below w.heap.size w W → In3 W v T) := fun W hW => hv.later hW
  have HS : Hid (∀ W, Below w.heap.size w W → Calls Try.prog 31 #[v] W fun e w' => e = .returned (.bool false) ∧ w' = W) := fun W hW => by
    have := shaped_any (HV.out W hW)
    rw [hno] at this
    exact this
  clear hno
  obtain ⟨a, c, rfl, -⟩ := Ns.shape hv
  clear hv
  go_enter Try.func14, Try.ntmps14
  go_wp2_with (go_at_call 31; refine (HS.out _ ((Below.refl _ _).alloc (Nat.le_refl _) _)).mono ?_; rintro e wz ⟨rfl, hz⟩; subst wz)
  go_ret2
  exact ⟨rfl, (Below.refl _ _).alloc (Nat.le_refl _) _⟩

theorem write_rng {w : World} {v : Value} {T : List (List (List Int))} (entry : Int) (hv : In3 w v T) (h6 : T.length = 6) (hsh : shaped 0 T = true) (hsm : SmallT T) (hen : entry < 9223372036854775808) (hno : (fitsR entry 2 && fitting 0 T) = false) :
    Calls Try.prog 14 #[.agg #[.int .i64 entry, v]] w fun e w' => e = .returned (.tuple #[.slice none 0 0, .int .i64 3]) ∧ Below w.heap.size w w' := by
  have HV : Hid (∀ W, Below w.heap.size w W → In3 W v T) := fun W hW => hv.later hW
  have HS : Hid (∀ W, Below w.heap.size w W → Calls Try.prog 31 #[v] W fun e w' => e = .returned (.bool true) ∧ w' = W) := fun W hW => by
    have := shaped_any (HV.out W hW)
    rw [hsh] at this
    simp only [h6, decide_true, Bool.true_and] at this
    exact this
  have HN : Hid (∀ W, Below w.heap.size w W → Calls Try.prog 32 #[.agg #[.int .i64 entry, v]] W fun e w' => e = .returned (.bool false) ∧ Below W.heap.size W w') := fun W hW => by
    have := narrow_any entry (HV.out W hW) h6 hsh hsm hen
    rw [hno] at this
    exact this
  clear hno
  obtain ⟨a, c, rfl, -⟩ := Ns.shape hv
  rw [h6] at HV HS HN ⊢
  clear hv h6 hsh hsm hen
  go_enter Try.func14, Try.ntmps14
  go_wp2_with fail
  refine (HS.out _ ((Below.refl _ _).alloc (Nat.le_refl _) _)).mono ?_
  rintro e wz ⟨rfl, hz⟩
  subst wz
  go_wp2_with fail
  refine (HN.out _ ((Below.refl _ _).alloc (Nat.le_refl _) _)).mono ?_
  rintro e w1 ⟨rfl, hb1⟩
  have HB1 : Hid (Below w.heap.size w w1) := ((Below.refl _ _).alloc (Nat.le_refl _) _).trans (hb1.mono (by simp))
  clear hb1
  go_wp2_with fail
  go_ret2
  exact ⟨rfl, HB1.out⟩

end Go.Proofs.Ytjmjpdamhondkaa
