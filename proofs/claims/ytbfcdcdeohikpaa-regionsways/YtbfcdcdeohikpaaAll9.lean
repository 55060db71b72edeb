
/- all, meet, overlaps over spans; all over regions. -/
import Derived.Test.YtbfcdcdeohikpaaContains9
namespace Go.Proofs.Ytbfcdcdeohikpaa
set_option linter.unusedVariables false
set_option linter.unusedSimpArgs false
open Go.RowKit
attribute [local go_sem ↓] Go.wp_at_zero Go.wp_at_succ

theorem any_not9 {α : Type} (p : α → Bool) : ∀ l : List α, l.all p = !(l.any fun x => !p x)
  | [] => rfl
  | x :: r => by rw [List.all_cons, List.any_cons, any_not9 p r]; cases p x <;> simp
/-- One cell in a block of its own. -/
theorem At.cell0 {w : World} {g : Nat} {v : Value} {t : TypeId} (h : At w g #[v] t) : w.cell? ⟨g, 0, none⟩ = some v := h.cell 0
theorem At.box2 {w : World} {g : Nat} {a b : Value} {t : TypeId} (h : At w g #[a, b] t) : w.cell? ⟨g, 0, none⟩ = some a ∧ w.cell? ⟨g, 1, none⟩ = some b := ⟨h.cell 0, h.cell 1⟩
/-- A new block, and what else there was. -/
theorem made_below (w : World) (C : Array Value) (t : TypeId) : Below w.heap.size w (w.alloc (.cells C t)) := (Below.refl _ _).alloc (Nat.le_refl _) _

set_option maxHeartbeats 1000000 in
theorem all1S_any {x : Sp} {g : Nat} {w : World} {f : FuncId} {bs cs : Array Value} {y : Bool} (hg : w.cell? ⟨g, 0, none⟩ = some (.func (.func f) bs cs)) (hlt : g < w.heap.size)
    (hen : ∀ args W, (callFunc f args).run Try.prog W = .ok (.enter f args) W) (hc : ∀ W, Below w.heap.size w W → Calls Try.prog f (bs.push (spV9 x) ++ cs) W fun e w' => e = .returned (.bool y) ∧ Below W.heap.size W w') :
    Calls Try.prog 77 #[spV9 x, .pointer (some ⟨g, 0, none⟩)] w fun e w' => e = .returned (.bool (!y)) ∧ Below w.heap.size w w' := by
  have HC : Hid (∀ W, Below w.heap.size w W → Calls Try.prog f (bs.push (spV9 x) ++ cs) W fun e w' => e = .returned (.bool y) ∧ Below W.heap.size W w') := hc
  obtain ⟨w0, hw0⟩ : ∃ W, W = w.alloc (.cells #[.int .i64 x.1, .int .i64 x.2] 63) := ⟨_, rfl⟩
  have HW0 : Hid (w0 = _) := hw0
  have hb0 : Below w.heap.size w w0 := by rw [hw0]; exact made_below _ _ _
  have HB0 : Hid (Below w.heap.size w w0) := hb0
  have hA : At w0 w.heap.size #[.int .i64 x.1, .int .i64 x.2] 63 := by rw [hw0]; exact At.made w _ _
  have hg0 : w0.cell? ⟨g, 0, none⟩ = some (.func (.func f) bs cs) := by rw [← hg]; exact hb0.cell (p := ⟨g, 0, none⟩) hlt
  have HCL : Hid (Calls Try.prog f (bs.push (.agg #[.int .i64 x.1, .int .i64 x.2]) ++ cs) w0 fun e w' => e = .returned (.bool y) ∧ Below w0.heap.size w0 w') := hc w0 hb0
  obtain ⟨c0, c1⟩ := hA.box2
  clear hc hg hw0 hb0 hA
  unfold spV9
  go_enter Try.func77, Try.ntmps77
  go_wp2_with (rw [← HW0.out])
  refine Calls.mono HCL.out ?_
  rintro e w1 ⟨rfl, hb1⟩
  have HB1 : Hid (Below w.heap.size w w1) := bstep HB0.out hb1
  clear hb1
  go_wp2
  go_ret
  exact ⟨rfl, HB1.out⟩

set_option maxHeartbeats 1000000 in
theorem allS_any {v : Value} {l : List Sp} {w : World} (hX : Es spE w v l) {f : FuncId} {bs cs : Array Value} {p : Sp → Bool} (hf : Tells Try.prog spV9 w f bs cs p l) :
    Calls Try.prog 58 #[v, .func (.func f) bs cs] w fun e w' => e = .returned (.bool (l.all p)) ∧ Below w.heap.size w w' := by
  have HR : Hid (l.all p = !(l.any fun x => !p x)) := any_not9 p l
  obtain ⟨w0, hw0⟩ : ∃ W, W = w.alloc (.cells #[.func (.func f) bs cs] 82) := ⟨_, rfl⟩
  have HW0 : Hid (w0 = _) := hw0
  have hb0 : Below w.heap.size w w0 := by rw [hw0]; exact made_below _ _ _
  have HB0 : Hid (Below w.heap.size w w0) := hb0
  have hA : At w0 w.heap.size #[.func (.func f) bs cs] 82 := by rw [hw0]; exact At.made w _ _
  have HCo : Hid (Calls Try.prog 56 #[v, .func (.func 77) #[] #[.pointer (some ⟨w.heap.size, 0, none⟩)]] w0 fun e w' => e = .returned (.bool (l.any fun x => !p x)) ∧ Below w0.heap.size w0 w') := by
    refine containsS_any (hX.later hb0) ⟨run_enter9 Try.func77 (by kernel_rfl) rfl, fun W hW x hx => ?_⟩
    have hA1 := hA.later hW
    have := all1S_any (x := x) (w := W) hA1.cell0 hA1.lt hf.enter (fun W2 hW2 => hf.tells W2 (bstep (bstep hb0 hW) hW2) x hx)
    simpa using this
  clear hw0 hb0 hA hX hf
  go_enter Try.func58, Try.ntmps58
  go_wp2_with (rw [← HW0.out])
  refine Calls.mono HCo.out ?_
  rintro e w1 ⟨rfl, hb1⟩
  have HB1 : Hid (Below w.heap.size w w1) := bstep HB0.out hb1
  clear hb1
  go_wp2
  go_ret
  exact ⟨ret_bool HR.out.symm, HB1.out⟩

set_option maxHeartbeats 1000000 in
theorem all1R_any {x : Sp} {g : Nat} {w : World} {f : FuncId} {bs cs : Array Value} {y : Bool} (hg : w.cell? ⟨g, 0, none⟩ = some (.func (.func f) bs cs)) (hlt : g < w.heap.size)
    (hen : ∀ args W, (callFunc f args).run Try.prog W = .ok (.enter f args) W) (hc : ∀ W, Below w.heap.size w W → Calls Try.prog f (bs.push (spV9 x) ++ cs) W fun e w' => e = .returned (.bool y) ∧ Below W.heap.size W w') :
    Calls Try.prog 71 #[spV9 x, .pointer (some ⟨g, 0, none⟩)] w fun e w' => e = .returned (.bool (!y)) ∧ Below w.heap.size w w' := by
  have HC : Hid (∀ W, Below w.heap.size w W → Calls Try.prog f (bs.push (spV9 x) ++ cs) W fun e w' => e = .returned (.bool y) ∧ Below W.heap.size W w') := hc
  obtain ⟨w0, hw0⟩ : ∃ W, W = w.alloc (.cells #[.int .i64 x.1, .int .i64 x.2] 46) := ⟨_, rfl⟩
  have HW0 : Hid (w0 = _) := hw0
  have hb0 : Below w.heap.size w w0 := by rw [hw0]; exact made_below _ _ _
  have HB0 : Hid (Below w.heap.size w w0) := hb0
  have hA : At w0 w.heap.size #[.int .i64 x.1, .int .i64 x.2] 46 := by rw [hw0]; exact At.made w _ _
  have hg0 : w0.cell? ⟨g, 0, none⟩ = some (.func (.func f) bs cs) := by rw [← hg]; exact hb0.cell (p := ⟨g, 0, none⟩) hlt
  have HCL : Hid (Calls Try.prog f (bs.push (.agg #[.int .i64 x.1, .int .i64 x.2]) ++ cs) w0 fun e w' => e = .returned (.bool y) ∧ Below w0.heap.size w0 w') := hc w0 hb0
  obtain ⟨c0, c1⟩ := hA.box2
  clear hc hg hw0 hb0 hA
  unfold spV9
  go_enter Try.func71, Try.ntmps71
  go_wp2_with (rw [← HW0.out])
  refine Calls.mono HCL.out ?_
  rintro e w1 ⟨rfl, hb1⟩
  have HB1 : Hid (Below w.heap.size w w1) := bstep HB0.out hb1
  clear hb1
  go_wp2
  go_ret
  exact ⟨rfl, HB1.out⟩

set_option maxHeartbeats 1000000 in
theorem allR_any {v : Value} {l : List Sp} {w : World} (hX : Es spE w v l) {f : FuncId} {bs cs : Array Value} {p : Sp → Bool} (hf : Tells Try.prog spV9 w f bs cs p l) :
    Calls Try.prog 48 #[v, .func (.func f) bs cs] w fun e w' => e = .returned (.bool (l.all p)) ∧ Below w.heap.size w w' := by
  have HR : Hid (l.all p = !(l.any fun x => !p x)) := any_not9 p l
  obtain ⟨w0, hw0⟩ : ∃ W, W = w.alloc (.cells #[.func (.func f) bs cs] 77) := ⟨_, rfl⟩
  have HW0 : Hid (w0 = _) := hw0
  have hb0 : Below w.heap.size w w0 := by rw [hw0]; exact made_below _ _ _
  have HB0 : Hid (Below w.heap.size w w0) := hb0
  have hA : At w0 w.heap.size #[.func (.func f) bs cs] 77 := by rw [hw0]; exact At.made w _ _
  have HCo : Hid (Calls Try.prog 70 #[v, .func (.func 71) #[] #[.pointer (some ⟨w.heap.size, 0, none⟩)]] w0 fun e w' => e = .returned (.bool (l.any fun x => !p x)) ∧ Below w0.heap.size w0 w') := by
    refine containsR_any (hX.later hb0) ⟨run_enter9 Try.func71 (by kernel_rfl) rfl, fun W hW x hx => ?_⟩
    have hA1 := hA.later hW
    have := all1R_any (x := x) (w := W) hA1.cell0 hA1.lt hf.enter (fun W2 hW2 => hf.tells W2 (bstep (bstep hb0 hW) hW2) x hx)
    simpa using this
  clear hw0 hb0 hA hX hf
  go_enter Try.func48, Try.ntmps48
  go_wp2_with (rw [← HW0.out])
  refine Calls.mono HCo.out ?_
  rintro e w1 ⟨rfl, hb1⟩
  have HB1 : Hid (Below w.heap.size w w1) := bstep HB0.out hb1
  clear hb1
  go_wp2
  go_ret
  exact ⟨ret_bool HR.out.symm, HB1.out⟩

/-- A span that shares, as a function value. -/
theorem tells_shares (s : Sp) (w : World) (l : List Sp) : Tells Try.prog spV9 w 61 #[spV9 s] #[] (shrB s) l :=
  ⟨run_enter9 Try.func61 (by kernel_rfl) rfl, fun W _ x _ => by simpa using shares9_any s x W⟩

set_option maxHeartbeats 1000000 in
theorem meet1_any {x : Sp} {g : Nat} {vb : Value} {lb : List Sp} {w : World} (hg : w.cell? ⟨g, 0, none⟩ = some vb) (hlt : g < w.heap.size) (hb : Es spE w vb lb) :
    Calls Try.prog 75 #[spV9 x, .pointer (some ⟨g, 0, none⟩)] w fun e w' => e = .returned (.bool (lb.any (shrB x))) ∧ Below w.heap.size w w' := by
  obtain ⟨w0, hw0⟩ : ∃ W, W = w.alloc (.cells #[.int .i64 x.1, .int .i64 x.2] 63) := ⟨_, rfl⟩
  have HW0 : Hid (w0 = _) := hw0
  have hb0 : Below w.heap.size w w0 := by rw [hw0]; exact made_below _ _ _
  have HB0 : Hid (Below w.heap.size w w0) := hb0
  have hA : At w0 w.heap.size #[.int .i64 x.1, .int .i64 x.2] 63 := by rw [hw0]; exact At.made w _ _
  have hg0 : w0.cell? ⟨g, 0, none⟩ = some vb := by rw [← hg]; exact hb0.cell (p := ⟨g, 0, none⟩) hlt
  have HCo : Hid (Calls Try.prog 56 #[vb, .func (.func 61) #[.agg #[.int .i64 x.1, .int .i64 x.2]] #[]] w0 fun e w' => e = .returned (.bool (lb.any (shrB x))) ∧ Below w0.heap.size w0 w') := containsS_any (hb.later hb0) (tells_shares x w0 lb)
  obtain ⟨c0, c1⟩ := hA.box2
  obtain ⟨va, vc, hvb, _, _⟩ := hb.shape
  clear hb hg hw0 hb0 hA
  subst hvb
  unfold spV9
  go_enter Try.func75, Try.ntmps75
  go_wp2_with (rw [← HW0.out])
  refine Calls.mono HCo.out ?_
  rintro e w1 ⟨rfl, hb1⟩
  have HB1 : Hid (Below w.heap.size w w1) := bstep HB0.out hb1
  clear hb1
  go_wp2
  go_ret
  exact ⟨rfl, HB1.out⟩

set_option maxHeartbeats 1000000 in
theorem meet_any {va vb : Value} {la lb : List Sp} {w : World} (ha : Es spE w va la) (hb : Es spE w vb lb) :
    Calls Try.prog 55 #[va, vb] w fun e w' => e = .returned (.bool (meetB la lb)) ∧ Below w.heap.size w w' := by
  obtain ⟨w0, hw0⟩ : ∃ W, W = w.alloc (.cells #[vb] 50) := ⟨_, rfl⟩
  have HW0 : Hid (w0 = _) := hw0
  have hb0 : Below w.heap.size w w0 := by rw [hw0]; exact made_below _ _ _
  have HB0 : Hid (Below w.heap.size w w0) := hb0
  have hA : At w0 w.heap.size #[vb] 50 := by rw [hw0]; exact At.made w _ _
  have HCo : Hid (Calls Try.prog 56 #[va, .func (.func 75) #[] #[.pointer (some ⟨w.heap.size, 0, none⟩)]] w0 fun e w' => e = .returned (.bool (meetB la lb)) ∧ Below w0.heap.size w0 w') := by
    refine containsS_any (ha.later hb0) ⟨run_enter9 Try.func75 (by kernel_rfl) rfl, fun W hW x hx => ?_⟩
    have hA1 := hA.later hW
    have := meet1_any (x := x) (w := W) hA1.cell0 hA1.lt ((hb.later hb0).later hW)
    simpa using this
  obtain ⟨aa, ca, hva, _, _⟩ := ha.shape
  obtain ⟨ab, cb, hvb, _, _⟩ := hb.shape
  clear ha hb hw0 hb0 hA
  subst hva hvb
  go_enter Try.func55, Try.ntmps55
  go_wp2_with (rw [← HW0.out])
  refine Calls.mono HCo.out ?_
  rintro e w1 ⟨rfl, hb1⟩
  have HB1 : Hid (Below w.heap.size w w1) := bstep HB0.out hb1
  clear hb1
  go_wp2
  go_ret
  exact ⟨rfl, HB1.out⟩

end Go.Proofs.Ytbfcdcdeohikpaa
