
/- slices.IndexFunc and slices.ContainsFunc over whatever function value tells. -/
import Derived.Test.YtbfcdcdeohikpaaCls9
namespace Go.Proofs.Ytbfcdcdeohikpaa
set_option linter.unusedVariables false
set_option linter.unusedSimpArgs false
open Go.RowKit
attribute [local go_sem ↓] Go.wp_at_zero Go.wp_at_succ

/-- A function that has a body is entered. -/
theorem run_enter9 {P : Program} {f : FuncId} {fn : Func} {c : Code} (hf : P.funcs[f]? = some fn) (hname : (fn.name == "runtime.NumGoroutine") = false) (hb : fn.body = some c) (args : Array Value) (w : World) :
    (callFunc f args).run P w = .ok (.enter f args) w := by
  have h1 : ¬ fn.name = "runtime.NumGoroutine" := by simpa using hname
  simp [callFunc, hf, h1, hb]

theorem any_take9 {α : Type} {p : α → Bool} {l : List α} {q : Nat} (hq : q < l.length) (h : (l.take q).any p = false) (hx : p l[q] = false) : (l.take (q + 1)).any p = false := by
  rw [List.take_succ_eq_append_getElem hq, List.any_append, h]
  simpa using hx

/-- A function value that tells of an element, from a world on. -/
structure Tells {α : Type} (P : Program) (V : α → Value) (w : World) (f : FuncId) (bs cs : Array Value) (p : α → Bool) (l : List α) : Prop where
  enter : ∀ args W, (callFunc f args).run P W = .ok (.enter f args) W
  tells : ∀ W, Below w.heap.size w W → ∀ x ∈ l, Calls P f (bs.push (V x) ++ cs) W fun e w' => e = .returned (.bool (p x)) ∧ Below W.heap.size W w'
theorem Tells.later {α : Type} {P : Program} {V : α → Value} {w w' : World} {f : FuncId} {bs cs : Array Value} {p : α → Bool} {l : List α} (h : Tells P V w f bs cs p l) (hb : Below w.heap.size w w') : Tells P V w' f bs cs p l :=
  ⟨h.enter, fun W hW x hx => h.tells W (bstep hb hW) x hx⟩

set_option maxHeartbeats 1000000 in
theorem indexS_some {b off cap : Nat} {l : List Sp} {w : World} {f : FuncId} {bs cs : Array Value} {p : Sp → Bool} (hb : b < w.heap.size) (hc : ∀ i (hi : i < l.length), El spE w b (off + i * 2) l[i]) (hl : l.length ≤ maxLen) (hf : Tells Try.prog spV9 w f bs cs p l) :
    Calls Try.prog 76 #[.slice (some ⟨b, off, none⟩) l.length cap, .func (.func f) bs cs] w fun e w' =>
      (∃ k : Int, e = .returned (.int .i64 k) ∧ (0 ≤ k ↔ l.any p = true)) ∧ Below w.heap.size w w' := by
  unfold maxLen at hl
  have HC : Hid (∀ i (hi : i < l.length), El spE w b (off + i * 2) l[i]) := hc
  have HF : Hid (Tells Try.prog spV9 w f bs cs p l) := hf
  have hen := hf.enter
  clear hc hf
  go_enter Try.func76, Try.ntmps76
  go_wp2_with fail
  go_loopw [5, 8] (fun _ z wr => ∃ q : Nat, q ≤ l.length ∧ z = .int .i64 q ∧ Below w.heap.size w wr ∧ (l.take q).any p = false) (fun _ z _ => l.length - (intOf z).toNat)
  case atStart => exact ⟨0, Nat.zero_le _, rfl, Below.refl _ _, by simp⟩
  case round =>
    obtain ⟨q, hq, rfl, hB, hany⟩ := hrel
    have HAn : Hid ((l.take q).any p = false) := hany
    have hsz := hB.size
    clear hany
    by_cases hql : q < l.length
    · obtain ⟨c0, c1⟩ := ((HC.out q hql).below hB hb).two
      have HN : Hid (p l[q] = false → (l.take (q + 1)).any p = false) := any_take9 hql HAn.out
      have HY : Hid (p l[q] = true → l.any p = true) := fun h => List.any_eq_true.2 ⟨_, List.getElem_mem hql, h⟩
      have HL : Hid (Calls Try.prog f (bs.push (spV9 l[q]) ++ cs) wr fun e w' => e = .returned (.bool (p l[q])) ∧ Below wr.heap.size wr w') := HF.out.tells wr hB _ (List.getElem_mem hql)
      generalize l[q] = x at *
      have HBL : Hid (Below w.heap.size w wr) := hB
      clear hB
      cases hx : p x with
      | false =>
        have H1 : Hid ((l.take (q + 1)).any p = false) := HN.out hx
        rw [hx] at HL
        go_wp2_with fail
        refine Calls.mono HL.out ?_
        rintro e w1 ⟨rfl, hb1⟩
        have hB1 := bstep HBL.out hb1
        clear hb1
        go_wp2_with fail
        go_roundw
        case rel => exact ⟨q + 1, by omega, by go_num, hB1, H1.out⟩
        case measure => simp [intOf]; omega
      | true =>
        have H1 : Hid (l.any p = true) := HY.out hx
        rw [hx] at HL
        go_wp2_with fail
        refine Calls.mono HL.out ?_
        rintro e w1 ⟨rfl, hb1⟩
        have hB1 := bstep HBL.out hb1
        clear hb1
        go_wp2_with fail
        go_ret
        exact ⟨⟨_, rfl, ⟨fun _ => H1.out, fun _ => by omega⟩⟩, hB1⟩
    · have HF' : Hid (l.any p = false) := by
        show _ = _
        have := HAn.out
        rwa [List.take_of_length_le (by omega)] at this
      go_wp2
      go_ret
      exact ⟨⟨_, rfl, ⟨fun h => absurd h (by decide), fun h => absurd h (by rw [HF'.out]; decide)⟩⟩, hB⟩

theorem indexS_none (a : Option Addr) (cap : Nat) (f : Value) (w : World) :
    Calls Try.prog 76 #[.slice a 0 cap, f] w fun e w' => e = .returned (.int .i64 (-1)) ∧ w' = w := by
  go_enter Try.func76, Try.ntmps76
  go_wp2
  refine wp_loop_rounds 1 ?_; rw [rounds_succ]
  go_wp2
  go_ret
  exact ⟨rfl, rfl⟩

theorem containsS_any {v : Value} {l : List Sp} {w : World} (hX : Es spE w v l) {f : FuncId} {bs cs : Array Value} {p : Sp → Bool} (hf : Tells Try.prog spV9 w f bs cs p l) :
    Calls Try.prog 56 #[v, .func (.func f) bs cs] w fun e w' => e = .returned (.bool (l.any p)) ∧ Below w.heap.size w w' := by
  have HI : Hid (Calls Try.prog 76 #[v, .func (.func f) bs cs] w fun e w' => (∃ k : Int, e = .returned (.int .i64 k) ∧ (0 ≤ k ↔ l.any p = true)) ∧ Below w.heap.size w w') := by
    by_cases hne : l = []
    · subst hne
      obtain ⟨a, c, rfl, _, _⟩ := hX.shape
      refine (indexS_none a c _ w).mono ?_
      rintro e w' ⟨rfl, rfl⟩
      exact ⟨⟨_, rfl, ⟨fun h => absurd h (by decide), fun h => by simp at h⟩⟩, Below.refl _ _⟩
    · have hl := hX.len
      obtain ⟨b, off, cap, rfl, h1, h2, hb, hc⟩ := hX.parts hne
      exact indexS_some hb hc hl hf
  clear hX hf
  go_enter Try.func56, Try.ntmps56
  go_wp2_with fail
  refine Calls.mono HI.out ?_
  rintro e w1 ⟨⟨k, rfl, hk⟩, hb1⟩
  have HK : Hid (decide (0 ≤ k) = l.any p) := by
    show _ = _
    rw [Bool.eq_iff_iff, decide_eq_true_iff]; exact hk
  clear hk
  go_wp2
  go_ret
  exact ⟨ret_bool HK.out, hb1⟩

set_option maxHeartbeats 1000000 in
theorem indexR_some {b off cap : Nat} {l : List Sp} {w : World} {f : FuncId} {bs cs : Array Value} {p : Sp → Bool} (hb : b < w.heap.size) (hc : ∀ i (hi : i < l.length), El spE w b (off + i * 2) l[i]) (hl : l.length ≤ maxLen) (hf : Tells Try.prog spV9 w f bs cs p l) :
    Calls Try.prog 82 #[.slice (some ⟨b, off, none⟩) l.length cap, .func (.func f) bs cs] w fun e w' =>
      (∃ k : Int, e = .returned (.int .i64 k) ∧ (0 ≤ k ↔ l.any p = true)) ∧ Below w.heap.size w w' := by
  unfold maxLen at hl
  have HC : Hid (∀ i (hi : i < l.length), El spE w b (off + i * 2) l[i]) := hc
  have HF : Hid (Tells Try.prog spV9 w f bs cs p l) := hf
  have hen := hf.enter
  clear hc hf
  go_enter Try.func82, Try.ntmps82
  go_wp2_with fail
  go_loopw [5, 8] (fun _ z wr => ∃ q : Nat, q ≤ l.length ∧ z = .int .i64 q ∧ Below w.heap.size w wr ∧ (l.take q).any p = false) (fun _ z _ => l.length - (intOf z).toNat)
  case atStart => exact ⟨0, Nat.zero_le _, rfl, Below.refl _ _, by simp⟩
  case round =>
    obtain ⟨q, hq, rfl, hB, hany⟩ := hrel
    have HAn : Hid ((l.take q).any p = false) := hany
    have hsz := hB.size
    clear hany
    by_cases hql : q < l.length
    · obtain ⟨c0, c1⟩ := ((HC.out q hql).below hB hb).two
      have HN : Hid (p l[q] = false → (l.take (q + 1)).any p = false) := any_take9 hql HAn.out
      have HY : Hid (p l[q] = true → l.any p = true) := fun h => List.any_eq_true.2 ⟨_, List.getElem_mem hql, h⟩
      have HL : Hid (Calls Try.prog f (bs.push (spV9 l[q]) ++ cs) wr fun e w' => e = .returned (.bool (p l[q])) ∧ Below wr.heap.size wr w') := HF.out.tells wr hB _ (List.getElem_mem hql)
      generalize l[q] = x at *
      have HBL : Hid (Below w.heap.size w wr) := hB
      clear hB
      cases hx : p x with
      | false =>
        have H1 : Hid ((l.take (q + 1)).any p = false) := HN.out hx
        rw [hx] at HL
        go_wp2_with fail
        refine Calls.mono HL.out ?_
        rintro e w1 ⟨rfl, hb1⟩
        have hB1 := bstep HBL.out hb1
        clear hb1
        go_wp2_with fail
        go_roundw
        case rel => exact ⟨q + 1, by omega, by go_num, hB1, H1.out⟩
        case measure => simp [intOf]; omega
      | true =>
        have H1 : Hid (l.any p = true) := HY.out hx
        rw [hx] at HL
        go_wp2_with fail
        refine Calls.mono HL.out ?_
        rintro e w1 ⟨rfl, hb1⟩
        have hB1 := bstep HBL.out hb1
        clear hb1
        go_wp2_with fail
        go_ret
        exact ⟨⟨_, rfl, ⟨fun _ => H1.out, fun _ => by omega⟩⟩, hB1⟩
    · have HF' : Hid (l.any p = false) := by
        show _ = _
        have := HAn.out
        rwa [List.take_of_length_le (by omega)] at this
      go_wp2
      go_ret
      exact ⟨⟨_, rfl, ⟨fun h => absurd h (by decide), fun h => absurd h (by rw [HF'.out]; decide)⟩⟩, hB⟩

theorem indexR_none (a : Option Addr) (cap : Nat) (f : Value) (w : World) :
    Calls Try.prog 82 #[.slice a 0 cap, f] w fun e w' => e = .returned (.int .i64 (-1)) ∧ w' = w := by
  go_enter Try.func82, Try.ntmps82
  go_wp2
  refine wp_loop_rounds 1 ?_; rw [rounds_succ]
  go_wp2
  go_ret
  exact ⟨rfl, rfl⟩

theorem containsR_any {v : Value} {l : List Sp} {w : World} (hX : Es spE w v l) {f : FuncId} {bs cs : Array Value} {p : Sp → Bool} (hf : Tells Try.prog spV9 w f bs cs p l) :
    Calls Try.prog 70 #[v, .func (.func f) bs cs] w fun e w' => e = .returned (.bool (l.any p)) ∧ Below w.heap.size w w' := by
  have HI : Hid (Calls Try.prog 82 #[v, .func (.func f) bs cs] w fun e w' => (∃ k : Int, e = .returned (.int .i64 k) ∧ (0 ≤ k ↔ l.any p = true)) ∧ Below w.heap.size w w') := by
    by_cases hne : l = []
    · subst hne
      obtain ⟨a, c, rfl, _, _⟩ := hX.shape
      refine (indexR_none a c _ w).mono ?_
      rintro e w' ⟨rfl, rfl⟩
      exact ⟨⟨_, rfl, ⟨fun h => absurd h (by decide), fun h => by simp at h⟩⟩, Below.refl _ _⟩
    · have hl := hX.len
      obtain ⟨b, off, cap, rfl, h1, h2, hb, hc⟩ := hX.parts hne
      exact indexR_some hb hc hl hf
  clear hX hf
  go_enter Try.func70, Try.ntmps70
  go_wp2_with fail
  refine Calls.mono HI.out ?_
  rintro e w1 ⟨⟨k, rfl, hk⟩, hb1⟩
  have HK : Hid (decide (0 ≤ k) = l.any p) := by
    show _ = _
    rw [Bool.eq_iff_iff, decide_eq_true_iff]; exact hk
  clear hk
  go_wp2
  go_ret
  exact ⟨ret_bool HK.out, hb1⟩

set_option maxHeartbeats 1000000 in
theorem indexC_some {b off cap : Nat} {l : List Cl} {w : World} {f : FuncId} {bs cs : Array Value} {p : Cl → Bool} (hb : b < w.heap.size) (hc : ∀ i (hi : i < l.length), El clE9 w b (off + i * 10) l[i]) (hl : l.length ≤ maxLen) (hf : Tells Try.prog clV w f bs cs p l) :
    Calls Try.prog 62 #[.slice (some ⟨b, off, none⟩) l.length cap, .func (.func f) bs cs] w fun e w' =>
      (∃ k : Int, e = .returned (.int .i64 k) ∧ (0 ≤ k ↔ l.any p = true)) ∧ Below w.heap.size w w' := by
  unfold maxLen at hl
  have HC : Hid (∀ i (hi : i < l.length), El clE9 w b (off + i * 10) l[i]) := hc
  have HF : Hid (Tells Try.prog clV w f bs cs p l) := hf
  have hen := hf.enter
  clear hc hf
  go_enter Try.func62, Try.ntmps62
  go_wp2_with fail
  go_loopw [5, 8] (fun _ z wr => ∃ q : Nat, q ≤ l.length ∧ z = .int .i64 q ∧ Below w.heap.size w wr ∧ (l.take q).any p = false) (fun _ z _ => l.length - (intOf z).toNat)
  case atStart => exact ⟨0, Nat.zero_le _, rfl, Below.refl _ _, by simp⟩
  case round =>
    obtain ⟨q, hq, rfl, hB, hany⟩ := hrel
    have HAn : Hid ((l.take q).any p = false) := hany
    have hsz := hB.size
    clear hany
    by_cases hql : q < l.length
    · obtain ⟨c0, c1, c2, c3, c4, c5, c6, c7, c8, c9⟩ := ((HC.out q hql).below hB hb).ten
      have HN : Hid (p l[q] = false → (l.take (q + 1)).any p = false) := any_take9 hql HAn.out
      have HY : Hid (p l[q] = true → l.any p = true) := fun h => List.any_eq_true.2 ⟨_, List.getElem_mem hql, h⟩
      have HL : Hid (Calls Try.prog f (bs.push (clV l[q]) ++ cs) wr fun e w' => e = .returned (.bool (p l[q])) ∧ Below wr.heap.size wr w') := HF.out.tells wr hB _ (List.getElem_mem hql)
      generalize l[q] = x at *
      have HBL : Hid (Below w.heap.size w wr) := hB
      clear hB
      cases hx : p x with
      | false =>
        have H1 : Hid ((l.take (q + 1)).any p = false) := HN.out hx
        rw [hx] at HL
        go_wp2_with fail
        refine Calls.mono HL.out ?_
        rintro e w1 ⟨rfl, hb1⟩
        have hB1 := bstep HBL.out hb1
        clear hb1
        go_wp2_with fail
        go_roundw
        case rel => exact ⟨q + 1, by omega, by go_num, hB1, H1.out⟩
        case measure => simp [intOf]; omega
      | true =>
        have H1 : Hid (l.any p = true) := HY.out hx
        rw [hx] at HL
        go_wp2_with fail
        refine Calls.mono HL.out ?_
        rintro e w1 ⟨rfl, hb1⟩
        have hB1 := bstep HBL.out hb1
        clear hb1
        go_wp2_with fail
        go_ret
        exact ⟨⟨_, rfl, ⟨fun _ => H1.out, fun _ => by omega⟩⟩, hB1⟩
    · have HF' : Hid (l.any p = false) := by
        show _ = _
        have := HAn.out
        rwa [List.take_of_length_le (by omega)] at this
      go_wp2
      go_ret
      exact ⟨⟨_, rfl, ⟨fun h => absurd h (by decide), fun h => absurd h (by rw [HF'.out]; decide)⟩⟩, hB⟩

theorem indexC_none (a : Option Addr) (cap : Nat) (f : Value) (w : World) :
    Calls Try.prog 62 #[.slice a 0 cap, f] w fun e w' => e = .returned (.int .i64 (-1)) ∧ w' = w := by
  go_enter Try.func62, Try.ntmps62
  go_wp2
  refine wp_loop_rounds 1 ?_; rw [rounds_succ]
  go_wp2
  go_ret
  exact ⟨rfl, rfl⟩

theorem containsC_any {v : Value} {l : List Cl} {w : World} (hX : Es clE9 w v l) {f : FuncId} {bs cs : Array Value} {p : Cl → Bool} (hf : Tells Try.prog clV w f bs cs p l) :
    Calls Try.prog 32 #[v, .func (.func f) bs cs] w fun e w' => e = .returned (.bool (l.any p)) ∧ Below w.heap.size w w' := by
  have HI : Hid (Calls Try.prog 62 #[v, .func (.func f) bs cs] w fun e w' => (∃ k : Int, e = .returned (.int .i64 k) ∧ (0 ≤ k ↔ l.any p = true)) ∧ Below w.heap.size w w') := by
    by_cases hne : l = []
    · subst hne
      obtain ⟨a, c, rfl, _, _⟩ := hX.shape
      refine (indexC_none a c _ w).mono ?_
      rintro e w' ⟨rfl, rfl⟩
      exact ⟨⟨_, rfl, ⟨fun h => absurd h (by decide), fun h => by simp at h⟩⟩, Below.refl _ _⟩
    · have hl := hX.len
      obtain ⟨b, off, cap, rfl, h1, h2, hb, hc⟩ := hX.parts hne
      exact indexC_some hb hc hl hf
  clear hX hf
  go_enter Try.func32, Try.ntmps32
  go_wp2_with fail
  refine Calls.mono HI.out ?_
  rintro e w1 ⟨⟨k, rfl, hk⟩, hb1⟩
  have HK : Hid (decide (0 ≤ k) = l.any p) := by
    show _ = _
    rw [Bool.eq_iff_iff, decide_eq_true_iff]; exact hk
  clear hk
  go_wp2
  go_ret
  exact ⟨ret_bool HK.out, hb1⟩

end Go.Proofs.Ytbfcdcdeohikpaa
