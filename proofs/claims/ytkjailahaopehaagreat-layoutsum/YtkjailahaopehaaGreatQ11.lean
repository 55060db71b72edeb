/- Texts joined: Contains9, All9, Ints7. -/
import Derived.Test.YtkjailahaopehaaGreatQ04
import Derived.Test.YtkjailahaopehaaGreatQ09
import Derived.Test.YtkjailahaopehaaGreatQ02
import Derived.Test.YtkjailahaopehaaGreatQ01
namespace Go.Proofs.YtkjailahaopehaaGreat
set_option linter.unusedVariables false
set_option linter.unusedSimpArgs false
open Go.RowKit
attribute [local go_sem ↓] Go.wp_at_zero Go.wp_at_succ
/-- A function that has a body is entered. -/
theorem run_enter9 {P : Program} {f : FuncId} {fn : Func} {c : Code} (hf : P.funcs[f]? = some fn) (hname : (fn.name == "runtime.NumGoroutine") = false) (hb : fn.body = some c) (args : Array Value) (w : World) :
  (callFunc f args).run P w = .ok (.enter f args) w := by
 have h1 : ¬ fn.name = "runtime.NumGoroutine" := by simpa using hname
 simp [callFunc, hf, h1, hb]

theorem any_take9 {α : Type} {p : α → Bool} {l : List α} {q : Nat} (hq : q < l.length) (h : (l.take q).any p = false) (hx : p l[q] = false) : (l.take (q + 1)).any p = false := by
 rw [List.take_succ_eq_append_getElem hq, List.any_append, h]
 simpa using hx

/-- A function value that tells of an element, from a world on. -/
structure Tells {α : Type} (P : Program) (V : α → Value) (w : World) (f : FuncId) (bs cs : Array Value) (p : α → Bool) (l : List α) : Prop where
 enter : ∀ args W, (callFunc f args).run P W = .ok (.enter f args) W
 tells : ∀ W, Below w.heap.size w W → ∀ x ∈ l, Calls P f (bs.push (V x) ++ cs) W fun e w' => e = .returned (.bool (p x)) ∧ Below W.heap.size W w'
theorem Tells.later {α : Type} {P : Program} {V : α → Value} {w w' : World} {f : FuncId} {bs cs : Array Value} {p : α → Bool} {l : List α} (h : Tells P V w f bs cs p l) (hb : Below w.heap.size w w') : Tells P V w' f bs cs p l :=
 ⟨h.enter, fun W hW x hx => h.tells W (bstep hb hW) x hx⟩

set_option maxHeartbeats 1000000 in
theorem indexS_some {b off cap : Nat} {l : List Sp} {w : World} {f : FuncId} {bs cs : Array Value} {p : Sp → Bool} (hb : b < w.heap.size) (hc : ∀ i (hi : i < l.length), El spE w b (off + i * 2) l[i]) (hl : l.length ≤ maxLen) (hf : Tells Tryz.prog spV9 w f bs cs p l) :
  Calls Tryz.prog 209 #[.slice (some ⟨b, off, none⟩) l.length cap, .func (.func f) bs cs] w fun e w' =>
   (∃ k : Int, e = .returned (.int .i64 k) ∧ (0 ≤ k ↔ l.any p = true)) ∧ Below w.heap.size w w' := by
 unfold maxLen at hl
 have HC : Hid (∀ i (hi : i < l.length), El spE w b (off + i * 2) l[i]) := hc
 have HF : Hid (Tells Tryz.prog spV9 w f bs cs p l) := hf
 have hen := hf.enter
 clear hc hf
 go_enter Tryz.func209, Tryz.ntmps209
 go_wp2_with fail
 go_loopw [5, 8] (fun _ z wr => ∃ q : Nat, q ≤ l.length ∧ z = .int .i64 q ∧ Below w.heap.size w wr ∧ (l.take q).any p = false) (fun _ z _ => l.length - (intOf z).toNat)
 case atStart => exact ⟨0, Nat.zero_le _, rfl, Below.refl _ _, by simp⟩
 case round =>
  obtain ⟨q, hq, rfl, hB, hany⟩ := hrel
  have HAn : Hid ((l.take q).any p = false) := hany
  have hsz := hB.size
  clear hany
  by_cases hql : q < l.length
  ·obtain ⟨c0, c1⟩ := ((HC.out q hql).below hB hb).two
   have HN : Hid (p l[q] = false → (l.take (q + 1)).any p = false) := any_take9 hql HAn.out
   have HY : Hid (p l[q] = true → l.any p = true) := fun h => List.any_eq_true.2 ⟨_, List.getElem_mem hql, h⟩
   have HL : Hid (Calls Tryz.prog f (bs.push (spV9 l[q]) ++ cs) wr fun e w' => e = .returned (.bool (p l[q])) ∧ Below wr.heap.size wr w') := HF.out.tells wr hB _ (List.getElem_mem hql)
   generalize l[q] = x at *
   have HBL : Hid (Below w.heap.size w wr) := hB
   clear hB
   cases hx : p x with
   | false =>
    have H1 : Hid ((l.take (q + 1)).any p = false) := HN.out hx
    rw [hx] at HL
    go_wp2_with fail
    refine Calls.mono HL.out ?_
    rintro e w1 ⟨rfl, hb1⟩
    have hB1 := bstep HBL.out hb1
    clear hb1
    go_wp2_with fail
    go_roundw
    case rel => exact ⟨q + 1, by omega, by go_num, hB1, H1.out⟩
    case measure => simp [intOf]; omega
   | true =>
    have H1 : Hid (l.any p = true) := HY.out hx
    rw [hx] at HL
    go_wp2_with fail
    refine Calls.mono HL.out ?_
    rintro e w1 ⟨rfl, hb1⟩
    have hB1 := bstep HBL.out hb1
    clear hb1
    go_wp2_with fail
    go_ret
    exact ⟨⟨_, rfl, ⟨fun _ => H1.out, fun _ => by omega⟩⟩, hB1⟩
  ·have HF' : Hid (l.any p = false) := by
    show _ = _
    have := HAn.out
    rwa [List.take_of_length_le (by omega)] at this
   go_wp2
   go_ret
   exact ⟨⟨_, rfl, ⟨fun h => absurd h (by decide), fun h => absurd h (by rw [HF'.out]; decide)⟩⟩, hB⟩

theorem indexS_none (a : Option Addr) (cap : Nat) (f : Value) (w : World) :
  Calls Tryz.prog 209 #[.slice a 0 cap, f] w fun e w' => e = .returned (.int .i64 (-1)) ∧ w' = w := by
 go_enter Tryz.func209, Tryz.ntmps209
 go_wp2
 refine wp_loop_rounds 1 ?_; rw [rounds_succ]
 go_wp2
 go_ret
 exact ⟨rfl, rfl⟩

theorem containsS_any {v : Value} {l : List Sp} {w : World} (hX : Es spE w v l) {f : FuncId} {bs cs : Array Value} {p : Sp → Bool} (hf : Tells Tryz.prog spV9 w f bs cs p l) :
  Calls Tryz.prog 191 #[v, .func (.func f) bs cs] w fun e w' => e = .returned (.bool (l.any p)) ∧ Below w.heap.size w w' := by
 have HI : Hid (Calls Tryz.prog 209 #[v, .func (.func f) bs cs] w fun e w' => (∃ k : Int, e = .returned (.int .i64 k) ∧ (0 ≤ k ↔ l.any p = true)) ∧ Below w.heap.size w w') := by
  by_cases hne : l = []
  ·subst hne
   obtain ⟨a, c, rfl, _, _⟩ := hX.shape
   refine (indexS_none a c _ w).mono ?_
   rintro e w' ⟨rfl, rfl⟩
   exact ⟨⟨_, rfl, ⟨fun h => absurd h (by decide), fun h => by simp at h⟩⟩, Below.refl _ _⟩
  ·have hl := hX.len
   obtain ⟨b, off, cap, rfl, h1, h2, hb, hc⟩ := hX.parts hne
   exact indexS_some hb hc hl hf
 clear hX hf
 go_enter Tryz.func191, Tryz.ntmps191
 go_wp2_with fail
 refine Calls.mono HI.out ?_
 rintro e w1 ⟨⟨k, rfl, hk⟩, hb1⟩
 have HK : Hid (decide (0 ≤ k) = l.any p) := by
  show _ = _
  rw [Bool.eq_iff_iff, decide_eq_true_iff]; exact hk
 clear hk
 go_wp2
 go_ret
 exact ⟨ret_bool HK.out, hb1⟩

set_option maxHeartbeats 1000000 in
theorem indexC_some {b off cap : Nat} {l : List Cl} {w : World} {f : FuncId} {bs cs : Array Value} {p : Cl → Bool} (hb : b < w.heap.size) (hc : ∀ i (hi : i < l.length), El clE9 w b (off + i * 10) l[i]) (hl : l.length ≤ maxLen) (hf : Tells Tryz.prog clV w f bs cs p l) :
  Calls Tryz.prog 197 #[.slice (some ⟨b, off, none⟩) l.length cap, .func (.func f) bs cs] w fun e w' =>
   (∃ k : Int, e = .returned (.int .i64 k) ∧ (0 ≤ k ↔ l.any p = true)) ∧ Below w.heap.size w w' := by
 unfold maxLen at hl
 have HC : Hid (∀ i (hi : i < l.length), El clE9 w b (off + i * 10) l[i]) := hc
 have HF : Hid (Tells Tryz.prog clV w f bs cs p l) := hf
 have hen := hf.enter
 clear hc hf
 go_enter Tryz.func197, Tryz.ntmps197
 go_wp2_with fail
 go_loopw [5, 8] (fun _ z wr => ∃ q : Nat, q ≤ l.length ∧ z = .int .i64 q ∧ Below w.heap.size w wr ∧ (l.take q).any p = false) (fun _ z _ => l.length - (intOf z).toNat)
 case atStart => exact ⟨0, Nat.zero_le _, rfl, Below.refl _ _, by simp⟩
 case round =>
  obtain ⟨q, hq, rfl, hB, hany⟩ := hrel
  have HAn : Hid ((l.take q).any p = false) := hany
  have hsz := hB.size
  clear hany
  by_cases hql : q < l.length
  ·obtain ⟨c0, c1, c2, c3, c4, c5, c6, c7, c8, c9⟩ := ((HC.out q hql).below hB hb).ten
   have HN : Hid (p l[q] = false → (l.take (q + 1)).any p = false) := any_take9 hql HAn.out
   have HY : Hid (p l[q] = true → l.any p = true) := fun h => List.any_eq_true.2 ⟨_, List.getElem_mem hql, h⟩
   have HL : Hid (Calls Tryz.prog f (bs.push (clV l[q]) ++ cs) wr fun e w' => e = .returned (.bool (p l[q])) ∧ Below wr.heap.size wr w') := HF.out.tells wr hB _ (List.getElem_mem hql)
   generalize l[q] = x at *
   have HBL : Hid (Below w.heap.size w wr) := hB
   clear hB
   cases hx : p x with
   | false =>
    have H1 : Hid ((l.take (q + 1)).any p = false) := HN.out hx
    rw [hx] at HL
    go_wp2_with fail
    refine Calls.mono HL.out ?_
    rintro e w1 ⟨rfl, hb1⟩
    have hB1 := bstep HBL.out hb1
    clear hb1
    go_wp2_with fail
    go_roundw
    case rel => exact ⟨q + 1, by omega, by go_num, hB1, H1.out⟩
    case measure => simp [intOf]; omega
   | true =>
    have H1 : Hid (l.any p = true) := HY.out hx
    rw [hx] at HL
    go_wp2_with fail
    refine Calls.mono HL.out ?_
    rintro e w1 ⟨rfl, hb1⟩
    have hB1 := bstep HBL.out hb1
    clear hb1
    go_wp2_with fail
    go_ret
    exact ⟨⟨_, rfl, ⟨fun _ => H1.out, fun _ => by omega⟩⟩, hB1⟩
  ·have HF' : Hid (l.any p = false) := by
    show _ = _
    have := HAn.out
    rwa [List.take_of_length_le (by omega)] at this
   go_wp2
   go_ret
   exact ⟨⟨_, rfl, ⟨fun h => absurd h (by decide), fun h => absurd h (by rw [HF'.out]; decide)⟩⟩, hB⟩

theorem indexC_none (a : Option Addr) (cap : Nat) (f : Value) (w : World) :
  Calls Tryz.prog 197 #[.slice a 0 cap, f] w fun e w' => e = .returned (.int .i64 (-1)) ∧ w' = w := by
 go_enter Tryz.func197, Tryz.ntmps197
 go_wp2
 refine wp_loop_rounds 1 ?_; rw [rounds_succ]
 go_wp2
 go_ret
 exact ⟨rfl, rfl⟩

theorem containsC_any {v : Value} {l : List Cl} {w : World} (hX : Es clE9 w v l) {f : FuncId} {bs cs : Array Value} {p : Cl → Bool} (hf : Tells Tryz.prog clV w f bs cs p l) :
  Calls Tryz.prog 173 #[v, .func (.func f) bs cs] w fun e w' => e = .returned (.bool (l.any p)) ∧ Below w.heap.size w w' := by
 have HI : Hid (Calls Tryz.prog 197 #[v, .func (.func f) bs cs] w fun e w' => (∃ k : Int, e = .returned (.int .i64 k) ∧ (0 ≤ k ↔ l.any p = true)) ∧ Below w.heap.size w w') := by
  by_cases hne : l = []
  ·subst hne
   obtain ⟨a, c, rfl, _, _⟩ := hX.shape
   refine (indexC_none a c _ w).mono ?_
   rintro e w' ⟨rfl, rfl⟩
   exact ⟨⟨_, rfl, ⟨fun h => absurd h (by decide), fun h => by simp at h⟩⟩, Below.refl _ _⟩
  ·have hl := hX.len
   obtain ⟨b, off, cap, rfl, h1, h2, hb, hc⟩ := hX.parts hne
   exact indexC_some hb hc hl hf
 clear hX hf
 go_enter Tryz.func173, Tryz.ntmps173
 go_wp2_with fail
 refine Calls.mono HI.out ?_
 rintro e w1 ⟨⟨k, rfl, hk⟩, hb1⟩
 have HK : Hid (decide (0 ≤ k) = l.any p) := by
  show _ = _
  rw [Bool.eq_iff_iff, decide_eq_true_iff]; exact hk
 clear hk
 go_wp2
 go_ret
 exact ⟨ret_bool HK.out, hb1⟩
theorem any_not9 {α : Type} (p : α → Bool) : ∀ l : List α, l.all p = !(l.any fun x => !p x)
 | [] => rfl
 | x :: r => by rw [List.all_cons, List.any_cons, any_not9 p r]; cases p x <;> simp
/-- One cell in a block of its own. -/
theorem At.cell0 {w : World} {g : Nat} {v : Value} {t : TypeId} (h : At w g #[v] t) : w.cell? ⟨g, 0, none⟩ = some v := h.cell 0
theorem At.box2 {w : World} {g : Nat} {a b : Value} {t : TypeId} (h : At w g #[a, b] t) : w.cell? ⟨g, 0, none⟩ = some a ∧ w.cell? ⟨g, 1, none⟩ = some b := ⟨h.cell 0, h.cell 1⟩
/-- A new block, and what else there was. -/
theorem made_below (w : World) (C : Array Value) (t : TypeId) : Below w.heap.size w (w.alloc (.cells C t)) := (Below.refl _ _).alloc (Nat.le_refl _) _

set_option maxHeartbeats 1000000 in
theorem all1S_any {x : Sp} {g : Nat} {w : World} {f : FuncId} {bs cs : Array Value} {y : Bool} (hg : w.cell? ⟨g, 0, none⟩ = some (.func (.func f) bs cs)) (hlt : g < w.heap.size)
  (hen : ∀ args W, (callFunc f args).run Tryz.prog W = .ok (.enter f args) W) (hc : ∀ W, Below w.heap.size w W → Calls Tryz.prog f (bs.push (spV9 x) ++ cs) W fun e w' => e = .returned (.bool y) ∧ Below W.heap.size W w') :
  Calls Tryz.prog 210 #[spV9 x, .pointer (some ⟨g, 0, none⟩)] w fun e w' => e = .returned (.bool (!y)) ∧ Below w.heap.size w w' := by
 have HC : Hid (∀ W, Below w.heap.size w W → Calls Tryz.prog f (bs.push (spV9 x) ++ cs) W fun e w' => e = .returned (.bool y) ∧ Below W.heap.size W w') := hc
 obtain ⟨w0, hw0⟩ : ∃ W, W = w.alloc (.cells #[.int .i64 x.1, .int .i64 x.2] 158) := ⟨_, rfl⟩
 have HW0 : Hid (w0 = _) := hw0
 have hb0 : Below w.heap.size w w0 := by rw [hw0]; exact made_below _ _ _
 have HB0 : Hid (Below w.heap.size w w0) := hb0
 have hA : At w0 w.heap.size #[.int .i64 x.1, .int .i64 x.2] 158 := by rw [hw0]; exact At.made w _ _
 have hg0 : w0.cell? ⟨g, 0, none⟩ = some (.func (.func f) bs cs) := by rw [← hg]; exact hb0.cell (p := ⟨g, 0, none⟩) hlt
 have HCL : Hid (Calls Tryz.prog f (bs.push (.agg #[.int .i64 x.1, .int .i64 x.2]) ++ cs) w0 fun e w' => e = .returned (.bool y) ∧ Below w0.heap.size w0 w') := hc w0 hb0
 obtain ⟨c0, c1⟩ := hA.box2
 clear hc hg hw0 hb0 hA
 unfold spV9
 go_enter Tryz.func210, Tryz.ntmps210
 go_wp2_with (rw [← HW0.out])
 refine Calls.mono HCL.out ?_
 rintro e w1 ⟨rfl, hb1⟩
 have HB1 : Hid (Below w.heap.size w w1) := bstep HB0.out hb1
 clear hb1
 go_wp2
 go_ret
 exact ⟨rfl, HB1.out⟩

set_option maxHeartbeats 1000000 in
theorem allS_any {v : Value} {l : List Sp} {w : World} (hX : Es spE w v l) {f : FuncId} {bs cs : Array Value} {p : Sp → Bool} (hf : Tells Tryz.prog spV9 w f bs cs p l) :
  Calls Tryz.prog 193 #[v, .func (.func f) bs cs] w fun e w' => e = .returned (.bool (l.all p)) ∧ Below w.heap.size w w' := by
 have HR : Hid (l.all p = !(l.any fun x => !p x)) := any_not9 p l
 obtain ⟨w0, hw0⟩ : ∃ W, W = w.alloc (.cells #[.func (.func f) bs cs] 161) := ⟨_, rfl⟩
 have HW0 : Hid (w0 = _) := hw0
 have hb0 : Below w.heap.size w w0 := by rw [hw0]; exact made_below _ _ _
 have HB0 : Hid (Below w.heap.size w w0) := hb0
 have hA : At w0 w.heap.size #[.func (.func f) bs cs] 161 := by rw [hw0]; exact At.made w _ _
 have HCo : Hid (Calls Tryz.prog 191 #[v, .func (.func 210) #[] #[.pointer (some ⟨w.heap.size, 0, none⟩)]] w0 fun e w' => e = .returned (.bool (l.any fun x => !p x)) ∧ Below w0.heap.size w0 w') := by
  refine containsS_any (hX.later hb0) ⟨run_enter9 Tryz.func210 (by kernel_rfl) rfl, fun W hW x hx => ?_⟩
  have hA1 := hA.later hW
  have := all1S_any (x := x) (w := W) hA1.cell0 hA1.lt hf.enter (fun W2 hW2 => hf.tells W2 (bstep (bstep hb0 hW) hW2) x hx)
  simpa using this
 clear hw0 hb0 hA hX hf
 go_enter Tryz.func193, Tryz.ntmps193
 go_wp2_with (rw [← HW0.out])
 refine Calls.mono HCo.out ?_
 rintro e w1 ⟨rfl, hb1⟩
 have HB1 : Hid (Below w.heap.size w w1) := bstep HB0.out hb1
 clear hb1
 go_wp2
 go_ret
 exact ⟨ret_bool HR.out.symm, HB1.out⟩

/-- A span that shares, as a function value. -/
theorem tells_shares (s : Sp) (w : World) (l : List Sp) : Tells Tryz.prog spV9 w 196 #[spV9 s] #[] (shrB s) l :=
 ⟨run_enter9 Tryz.func196 (by kernel_rfl) rfl, fun W _ x _ => by simpa using shares9_any s x W⟩

set_option maxHeartbeats 1000000 in
theorem meet1_any {x : Sp} {g : Nat} {vb : Value} {lb : List Sp} {w : World} (hg : w.cell? ⟨g, 0, none⟩ = some vb) (hlt : g < w.heap.size) (hb : Es spE w vb lb) :
  Calls Tryz.prog 208 #[spV9 x, .pointer (some ⟨g, 0, none⟩)] w fun e w' => e = .returned (.bool (lb.any (shrB x))) ∧ Below w.heap.size w w' := by
 obtain ⟨w0, hw0⟩ : ∃ W, W = w.alloc (.cells #[.int .i64 x.1, .int .i64 x.2] 158) := ⟨_, rfl⟩
 have HW0 : Hid (w0 = _) := hw0
 have hb0 : Below w.heap.size w w0 := by rw [hw0]; exact made_below _ _ _
 have HB0 : Hid (Below w.heap.size w w0) := hb0
 have hA : At w0 w.heap.size #[.int .i64 x.1, .int .i64 x.2] 158 := by rw [hw0]; exact At.made w _ _
 have hg0 : w0.cell? ⟨g, 0, none⟩ = some vb := by rw [← hg]; exact hb0.cell (p := ⟨g, 0, none⟩) hlt
 have HCo : Hid (Calls Tryz.prog 191 #[vb, .func (.func 196) #[.agg #[.int .i64 x.1, .int .i64 x.2]] #[]] w0 fun e w' => e = .returned (.bool (lb.any (shrB x))) ∧ Below w0.heap.size w0 w') := containsS_any (hb.later hb0) (tells_shares x w0 lb)
 obtain ⟨c0, c1⟩ := hA.box2
 obtain ⟨va, vc, hvb, _, _⟩ := hb.shape
 clear hb hg hw0 hb0 hA
 subst hvb
 unfold spV9
 go_enter Tryz.func208, Tryz.ntmps208
 go_wp2_with (rw [← HW0.out])
 refine Calls.mono HCo.out ?_
 rintro e w1 ⟨rfl, hb1⟩
 have HB1 : Hid (Below w.heap.size w w1) := bstep HB0.out hb1
 clear hb1
 go_wp2
 go_ret
 exact ⟨rfl, HB1.out⟩

set_option maxHeartbeats 1000000 in
theorem meet_any {va vb : Value} {la lb : List Sp} {w : World} (ha : Es spE w va la) (hb : Es spE w vb lb) :
  Calls Tryz.prog 190 #[va, vb] w fun e w' => e = .returned (.bool (meetB la lb)) ∧ Below w.heap.size w w' := by
 obtain ⟨w0, hw0⟩ : ∃ W, W = w.alloc (.cells #[vb] 140) := ⟨_, rfl⟩
 have HW0 : Hid (w0 = _) := hw0
 have hb0 : Below w.heap.size w w0 := by rw [hw0]; exact made_below _ _ _
 have HB0 : Hid (Below w.heap.size w w0) := hb0
 have hA : At w0 w.heap.size #[vb] 140 := by rw [hw0]; exact At.made w _ _
 have HCo : Hid (Calls Tryz.prog 191 #[va, .func (.func 208) #[] #[.pointer (some ⟨w.heap.size, 0, none⟩)]] w0 fun e w' => e = .returned (.bool (meetB la lb)) ∧ Below w0.heap.size w0 w') := by
  refine containsS_any (ha.later hb0) ⟨run_enter9 Tryz.func208 (by kernel_rfl) rfl, fun W hW x hx => ?_⟩
  have hA1 := hA.later hW
  have := meet1_any (x := x) (w := W) hA1.cell0 hA1.lt ((hb.later hb0).later hW)
  simpa using this
 obtain ⟨aa, ca, hva, _, _⟩ := ha.shape
 obtain ⟨ab, cb, hvb, _, _⟩ := hb.shape
 clear ha hb hw0 hb0 hA
 subst hva hvb
 go_enter Tryz.func190, Tryz.ntmps190
 go_wp2_with (rw [← HW0.out])
 refine Calls.mono HCo.out ?_
 rintro e w1 ⟨rfl, hb1⟩
 have HB1 : Hid (Below w.heap.size w w1) := bstep HB0.out hb1
 clear hb1
 go_wp2
 go_ret
 exact ⟨rfl, HB1.out⟩
end Go.Proofs.YtkjailahaopehaaGreat

namespace Go.Proofs.YtkjailahaopehaaGreat
set_option linter.unusedVariables false
set_option linter.unusedSimpArgs false
open Go.RowKit
def OwnI (w : World) (base : Nat) (v : Value) (l : List Int) : Prop := OwnV w base 3 v (i64s l)
theorem i64s_append (a b : List Int) : i64s (a ++ b) = i64s a ++ i64s b := by simp [i64s]
theorem OwnI.is {w : World} {base : Nat} {v : Value} {l : List Int} (h : OwnI w base v l) : Is w v l := OwnV.sl h
theorem OwnI.later {w w' : World} {base : Nat} {v : Value} {l : List Int} (h : OwnI w base v l) (hb : Below w.heap.size w w') : OwnI w' base v l := OwnV.later h hb
theorem OwnI.of_block {w w' : World} {base : Nat} {v : Value} {l : List Int} (h : OwnI w base v l) (hb : ∀ k, v.ownBlock = some k → k < w.heap.size → w'.heap[k]? = w.heap[k]?) : OwnI w' base v l := OwnV.of_block h hb
theorem OwnI.block {w : World} {base : Nat} {v : Value} {l : List Int} (h : OwnI w base v l) : ∀ k, v.ownBlock = some k → base ≤ k ∧ k < w.heap.size := OwnV.block h
theorem OwnI.nil (w : World) (base : Nat) : OwnI w base (.slice none 0 0) [] := OwnV.nil w base 3
theorem OwnI.typed {w : World} {base : Nat} {v : Value} {l : List Int} (h : OwnI w base v l) : ∀ k, v.ownBlock = some k → ∃ C, At w k C 3 := OwnV.typed h
theorem OwnI.ne {w : World} {base g : Nat} {v : Value} {l : List Int} {C : Array Value} {t : TypeId} (ho : OwnI w base v l) (h : At w g C t) (ht : t ≠ 3) : v.ownBlock ≠ some g := by
 intro e
 obtain ⟨C', hC⟩ := ho.typed g e
 unfold At at h hC
 rw [h] at hC
 simp only [Option.some.injEq, Obj.cells.injEq] at hC
 exact ht hC.2.1
theorem At.grownI {w w' : World} {g base : Nat} {C : Array Value} {t : TypeId} {v : Value} {l : List Int} (h : At w g C t) (ho : OwnI w base v l) (ht : t ≠ 3) (hg : w.grownBy w' v.ownBlock) : At w' g C t := by
 have hl := h.lt
 have hne := ho.ne h ht
 unfold At at h ⊢
 rw [hg.block g hl (fun e => hne e.symm)]; exact h
/-- A row that isn't empty, cell by cell. -/
theorem OwnI.parts {w : World} {base : Nat} {v : Value} {l : List Int} (h : OwnI w base v l) (hne : l ≠ []) : ∃ g cap, v = .slice (some ⟨g, 0, none⟩) l.length cap ∧ l.length ≤ cap ∧ cap ≤ maxLen ∧ base ≤ g ∧ g < w.heap.size ∧ ∀ i (hi : i < l.length), w.cell? ⟨g, i, none⟩ = some (.int .i64 l[i]) := by
 have hs := OwnV.sl h
 rcases h.2 with ⟨rfl, h0⟩ | ⟨g, cap, cur, rfl, hg, hh, hn, hm, r⟩
 ·rw [i64s_length] at h0
  exact absurd (List.eq_nil_of_length_eq_zero h0) hne
 ·obtain ⟨a, c, e, _, _, h3⟩ := hs
  obtain ⟨b, off, ea, hb, hc⟩ := h3 (by simpa [i64s] using hne)
  cases e
  cases ea
  rw [i64s_length] at hn ⊢
  refine ⟨g, cap, rfl, hn, hm, hg, hb, fun i hi => ?_⟩
  have := hc i (by rw [i64s_length]; exact hi)
  rw [Nat.zero_add] at this
  rw [this]; simp [i64s]

theorem Tryz.infoInt7 : (Tryz.prog.info? 3).map (fun i => (i.zero, i.size, i.bytes)) = some (some (.int .i64 0), 1, 8) := by kernel_rfl

/-- As run_append_at; what stood in the row stands there. -/
theorem run_append_keep {P : Program} (w : World) (base : Nat) (t tx ty e : TypeId) (i : TypeInfo) (z : Value) (ht : P.underlying t = some (.slice e)) (hi : P.info? e = some i) (hz : i.zero = some z) (hs1 : i.size = 1) (hzs : z.cells.size = 1)
  {v y : Value} {xs news : List Value} {n : Nat} (hv : OwnV w base e v xs) (hs : Src P 1 tx y n news w) (h63 : xs.length + n ≤ maxLen) (hbytes : ((xs.length + n) + (xs.length + n) / 4 + 192) * i.bytes ≤ 281474976710656) (hbase : base ≤ w.heap.size) :
  ∃ v' w', (Builtin.append_ #[t, tx] ty #[v, y]).run P w = .ok v' w' ∧ OwnV w' base e v' (xs ++ news) ∧ w.grownBy w' v.ownBlock ∧ (v'.ownBlock = v.ownBlock ∨ v'.ownBlock = some w.heap.size) ∧ (∀ g, v.ownBlock = some g → ∀ j, j < xs.length → w'.cell? ⟨g, j, none⟩ = w.cell? ⟨g, j, none⟩) := by
 obtain ⟨v', w', hr, ho, hg, hp, _⟩ := run_append_at (P := P) w base t tx ty e i z ht hi hz hs1 hzs hv hs h63 hbytes hbase
 refine ⟨v', w', hr, ho, hg, hp, fun g hvg j hj => ?_⟩
 rcases hv.2 with ⟨rfl, h0⟩ | ⟨g', cap, cur, rfl, hbg, hgg, hnc, hcm, hcs, htake⟩
 ·simp [Value.ownBlock] at hvg
 ·have e1 : g' = g := by simpa [Value.ownBlock] using hvg
  subst e1
  have hnl : news.length = n := by have := hs.newsLen; omega
  have hadd : (⟨g', 0, none⟩ : Addr).add j = ⟨g', j, none⟩ := by unfold Addr.add; split <;> simp_all
  have hc0 := World.ownsRow.cells (w := w) (base := base) (e := e) (size := 1) (v := .slice (some ⟨g', 0, none⟩) xs.length cap) (n := xs.length) (xs := xs) hv (g := g') rfl j xs[j] (List.getElem?_eq_getElem hj)
  by_cases hroom : xs.length + n ≤ cap
  ·have hfit : xs.length * i.size + news.length ≤ cur.size := by rw [hs1, hcs, hnl]; omega
   have hst := run_storeCells_at P g' (xs.length * i.size) e news 0 cur w hgg (by simpa using hfit) hs.one
   simp only [Nat.add_zero] at hst
   have hr' : (Builtin.append_ #[t, tx] ty #[.slice (some ⟨g', 0, none⟩) xs.length cap, y]).run P w = .ok (.slice (some ⟨g', 0, none⟩) (xs.length + n) cap) (w.setRow g' (cur.toList.take (xs.length * i.size) ++ news ++ cur.toList.drop (xs.length * i.size + news.length)).toArray) := by
    have hc := hs.cells
    rw [hs1] at hst ⊢
    simp only [Nat.mul_one] at hst ⊢
    rcases hs.kind with ⟨e', hk⟩ | hk <;> simp [Builtin.append_, run_underlying ht, run_underlying hk, sizeOf, typeInfo, hi, hs1, hs.len, hc, hroom, Addr.add_lit, hst]
   rw [hr'] at hr
   simp only [Result.ok.injEq] at hr
   obtain ⟨hr1, hr2⟩ := hr
   subst hr1
   have hc1 := World.ownsRow.cells (w := w') (base := base) (e := e) (size := 1) (n := (xs ++ news).length) (xs := xs ++ news) ho (g := g') rfl j xs[j] (by rw [List.getElem?_append_left hj]; exact List.getElem?_eq_getElem hj)
   rw [hadd] at hc0 hc1
   rw [hc1, hc0]
  ·have hold : (Builtin.firstCells i.size xs.length (.slice (some ⟨g', 0, none⟩) xs.length cap)).run P w.drew = .ok xs.toArray w.drew := by
    rw [hs1]
    refine run_firstCells_some w.drew 1 xs.length ⟨g', 0, none⟩ xs.length cap xs (by omega) ?_
    intro j u hj
    exact World.ownsRow.cells (w := w.drew) (base := base) (e := e) (size := 1) (v := .slice (some ⟨g', 0, none⟩) xs.length cap) (n := xs.length) (xs := xs) hv (g := g') rfl j u hj
   have h63i : ((xs.length + n : Nat) : Int) ≤ 9223372036854775807 := by simp only [maxLen] at h63; omega
   have hr' := run_append_grow_src (P := P) w t tx ty e i z ht hi hz (some ⟨g', 0, none⟩) xs.length cap xs hold y n news (by rw [hs1]; exact hs) (by omega) h63i (growslice_fits_wide (by omega) hbytes)
   rw [hr'] at hr
   simp only [Result.ok.injEq] at hr
   obtain ⟨hr1, hr2⟩ := hr
   subst hr2
   have hlt := (Array.getElem?_eq_some_iff.1 hgg).1
   exact World.cell?_of_block (heap_alloc_old w.drew _ hlt)

/-- The same for the walk. -/
theorem wpList_append_int {ops : Array Oper} {Q : Exit → Act → World → Prop} {a : Act} {w : World} {rest : List Oper} {o : Oper} (hw : Region.wanted o (yielded ops a.tmps) = true) (s x : Operand)
  (ho : o.op = .call { callee := .builtin .append, args := #[s, x], argTypes := #[47, 47] }) (base : Nat)
  {v y : Value} {l : List Int} {n : Int} (hs : a.eval s = v) (hx : a.eval x = y) (hv : OwnI w base v l) (hy : Src Tryz.prog 1 47 y 1 [.int .i64 n] w) (hl : l.length ≤ 100000) (hbase : base ≤ w.heap.size)
  (h : ∀ v' w', OwnI w' base v' (l ++ [n]) → w.grownBy w' v.ownBlock → wpList Tryz.prog ops Q rest (a.put o.dst v') w') : wpList Tryz.prog ops Q (o :: rest) a w := by
 refine wpList_want hw fun K hK => ?_
 obtain ⟨i, hi, hz0, hz1, hz2⟩ := info_parts Tryz.infoInt7
 obtain ⟨v', w', hr, h2, h3, h4, h5⟩ := run_append_keep (P := Tryz.prog) w base 47 47 o.type 3 i _ Tryz.underlying47 hi hz0 hz1 rfl hv hy (by rw [i64s_length]; unfold maxLen; omega) (by rw [i64s_length, hz2]; omega) hbase
 unfold Oper.wp execOp
 simp only [ho, resolve, invoke, builtin, Sem.run_bind, Sem.run_pure, Result.andThen_ok, List.map_toArray, List.map_cons, List.map_nil, hs, hx, hr]
 refine hK _ _ (h v' w' ?_ h3)
 unfold OwnI
 rw [i64s_append]
 exact h2

theorem one_int (w : World) (n : Int) (g : Nat) (hg : g = w.heap.size) : Src Tryz.prog 1 47 (.slice (some ⟨g, 0, none⟩) 1 1) 1 [.int .i64 n] (w.alloc (Obj.cells #[.int .i64 n] 3)) :=
 one_src0 Tryz.underlying47 w (.int .i64 n) 3 g hg rfl
end Go.Proofs.YtkjailahaopehaaGreat
