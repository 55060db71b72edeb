/- Texts joined: Contains9, All9. -/
import Derived.Test.YtclmafoelibihaaGreatJ06
/- slices.IndexFunc and slices.ContainsFunc over whatever function value tells. -/
namespace Go.Proofs.YtclmafoelibihaaGreat
set_option linter.unusedVariables false
set_option linter.unusedSimpArgs false
open Go.RowKit
attribute [local go_sem ↓] Go.wp_at_zero Go.wp_at_succ

/-- A function that has a body is entered. -/
theorem run_enter9 {P : Program} {f : FuncId} {fn : Func} {c : Code} (hf : P.funcs[f]? = some fn) (hname : (fn.name == "runtime.NumGoroutine") = false) (hb : fn.body = some c) (args : Array Value) (w : World) :
    (callFunc f args).run P w = .ok (.enter f args) w := by
  have h1 : ¬ fn.name = "runtime.NumGoroutine" := by simpa using hname
  simp [callFunc, hf, h1, hb]

theorem any_take9 {α : Type} {p : α → Bool} {l : List α} {q : Nat} (hq : q < l.length) (h : (l.take q).any p = false) (hx : p l[q] = false) : (l.take (q + 1)).any p = false := by
  rw [List.take_succ_eq_append_getElem hq, List.any_append, h]
  simpa using hx

/-- A function value that tells of an element, from a world on. -/
structure Tells {α : Type} (P : Program) (V : α → Value) (w : World) (f : FuncId) (bs cs : Array Value) (p : α → Bool) (l : List α) : Prop where
  enter : ∀ args W, (callFunc f args).run P W = .ok (.enter f args) W
  tells : ∀ W, Below w.heap.size w W → ∀ x ∈ l, Calls P f (bs.push (V x) ++ cs) W fun e w' => e = .returned (.bool (p x)) ∧ Below W.heap.size W w'
theorem Tells.later {α : Type} {P : Program} {V : α → Value} {w w' : World} {f : FuncId} {bs cs : Array Value} {p : α → Bool} {l : List α} (h : Tells P V w f bs cs p l) (hb : Below w.heap.size w w') : Tells P V w' f bs cs p l :=
  ⟨h.enter, fun W hW x hx => h.tells W (bstep hb hW) x hx⟩

set_option maxHeartbeats 1000000 in
theorem indexS_some {b off cap : Nat} {l : List Sp} {w : World} {f : FuncId} {bs cs : Array Value} {p : Sp → Bool} (hb : b < w.heap.size) (hc : ∀ i (hi : i < l.length), El spE w b (off + i * 2) l[i]) (hl : l.length ≤ maxLen) (hf : Tells Tryz.prog spV9 w f bs cs p l) :
    Calls Tryz.prog 202 #[.slice (some ⟨b, off, none⟩) l.length cap, .func (.func f) bs cs] w fun e w' =>
      (∃ k : Int, e = .returned (.int .i64 k) ∧ (0 ≤ k ↔ l.any p = true)) ∧ Below w.heap.size w w' := by
  unfold maxLen at hl
  have HC : Hid (∀ i (hi : i < l.length), El spE w b (off + i * 2) l[i]) := hc
  have HF : Hid (Tells Tryz.prog spV9 w f bs cs p l) := hf
  have hen := hf.enter
  clear hc hf
  go_enter Tryz.func202, Tryz.ntmps202
  go_wp2_with fail
  go_loopw [5, 8] (fun _ z wr => ∃ q : Nat, q ≤ l.length ∧ z = .int .i64 q ∧ Below w.heap.size w wr ∧ (l.take q).any p = false) (fun _ z _ => l.length - (intOf z).toNat)
  case atStart => exact ⟨0, Nat.zero_le _, rfl, Below.refl _ _, by simp⟩
  case round =>
    obtain ⟨q, hq, rfl, hB, hany⟩ := hrel
    have HAn : Hid ((l.take q).any p = false) := hany
    have hsz := hB.size
    clear hany
    by_cases hql : q < l.length
    · obtain ⟨c0, c1⟩ := ((HC.out q hql).below hB hb).two
      have HN : Hid (p l[q] = false → (l.take (q + 1)).any p = false) := any_take9 hql HAn.out
      have HY : Hid (p l[q] = true → l.any p = true) := fun h => List.any_eq_true.2 ⟨_, List.getElem_mem hql, h⟩
      have HL : Hid (Calls Tryz.prog f (bs.push (spV9 l[q]) ++ cs) wr fun e w' => e = .returned (.bool (p l[q])) ∧ Below wr.heap.size wr w') := HF.out.tells wr hB _ (List.getElem_mem hql)
      generalize l[q] = x at *
      have HBL : Hid (Below w.heap.size w wr) := hB
      clear hB
      cases hx : p x with
      | false =>
        have H1 : Hid ((l.take (q + 1)).any p = false) := HN.out hx
        rw [hx] at HL
        go_wp2_with fail
        refine Calls.mono HL.out ?_
        rintro e w1 ⟨rfl, hb1⟩
        have hB1 := bstep HBL.out hb1
        clear hb1
        go_wp2_with fail
        go_roundw
        case rel => exact ⟨q + 1, by omega, by go_num, hB1, H1.out⟩
        case measure => simp [intOf]; omega
      | true =>
        have H1 : Hid (l.any p = true) := HY.out hx
        rw [hx] at HL
        go_wp2_with fail
        refine Calls.mono HL.out ?_
        rintro e w1 ⟨rfl, hb1⟩
        have hB1 := bstep HBL.out hb1
        clear hb1
        go_wp2_with fail
        go_ret
        exact ⟨⟨_, rfl, ⟨fun _ => H1.out, fun _ => by omega⟩⟩, hB1⟩
    · have HF' : Hid (l.any p = false) := by
        show _ = _
        have := HAn.out
        rwa [List.take_of_length_le (by omega)] at this
      go_wp2
      go_ret
      exact ⟨⟨_, rfl, ⟨fun h => absurd h (by decide), fun h => absurd h (by rw [HF'.out]; decide)⟩⟩, hB⟩

theorem indexS_none (a : Option Addr) (cap : Nat) (f : Value) (w : World) :
    Calls Tryz.prog 202 #[.slice a 0 cap, f] w fun e w' => e = .returned (.int .i64 (-1)) ∧ w' = w := by
  go_enter Tryz.func202, Tryz.ntmps202
  go_wp2
  refine wp_loop_rounds 1 ?_; rw [rounds_succ]
  go_wp2
  go_ret
  exact ⟨rfl, rfl⟩

theorem containsS_any {v : Value} {l : List Sp} {w : World} (hX : Es spE w v l) {f : FuncId} {bs cs : Array Value} {p : Sp → Bool} (hf : Tells Tryz.prog spV9 w f bs cs p l) :
    Calls Tryz.prog 182 #[v, .func (.func f) bs cs] w fun e w' => e = .returned (.bool (l.any p)) ∧ Below w.heap.size w w' := by
  have HI : Hid (Calls Tryz.prog 202 #[v, .func (.func f) bs cs] w fun e w' => (∃ k : Int, e = .returned (.int .i64 k) ∧ (0 ≤ k ↔ l.any p = true)) ∧ Below w.heap.size w w') := by
    by_cases hne : l = []
    · subst hne
      obtain ⟨a, c, rfl, _, _⟩ := hX.shape
      refine (indexS_none a c _ w).mono ?_
      rintro e w' ⟨rfl, rfl⟩
      exact ⟨⟨_, rfl, ⟨fun h => absurd h (by decide), fun h => by simp at h⟩⟩, Below.refl _ _⟩
    · have hl := hX.len
      obtain ⟨b, off, cap, rfl, h1, h2, hb, hc⟩ := hX.parts hne
      exact indexS_some hb hc hl hf
  clear hX hf
  go_enter Tryz.func182, Tryz.ntmps182
  go_wp2_with fail
  refine Calls.mono HI.out ?_
  rintro e w1 ⟨⟨k, rfl, hk⟩, hb1⟩
  have HK : Hid (decide (0 ≤ k) = l.any p) := by
    show _ = _
    rw [Bool.eq_iff_iff, decide_eq_true_iff]; exact hk
  clear hk
  go_wp2
  go_ret
  exact ⟨ret_bool HK.out, hb1⟩

set_option maxHeartbeats 1000000 in
theorem indexC_some {b off cap : Nat} {l : List Cl} {w : World} {f : FuncId} {bs cs : Array Value} {p : Cl → Bool} (hb : b < w.heap.size) (hc : ∀ i (hi : i < l.length), El clE9 w b (off + i * 10) l[i]) (hl : l.length ≤ maxLen) (hf : Tells Tryz.prog clV w f bs cs p l) :
    Calls Tryz.prog 188 #[.slice (some ⟨b, off, none⟩) l.length cap, .func (.func f) bs cs] w fun e w' =>
      (∃ k : Int, e = .returned (.int .i64 k) ∧ (0 ≤ k ↔ l.any p = true)) ∧ Below w.heap.size w w' := by
  unfold maxLen at hl
  have HC : Hid (∀ i (hi : i < l.length), El clE9 w b (off + i * 10) l[i]) := hc
  have HF : Hid (Tells Tryz.prog clV w f bs cs p l) := hf
  have hen := hf.enter
  clear hc hf
  go_enter Tryz.func188, Tryz.ntmps188
  go_wp2_with fail
  go_loopw [5, 8] (fun _ z wr => ∃ q : Nat, q ≤ l.length ∧ z = .int .i64 q ∧ Below w.heap.size w wr ∧ (l.take q).any p = false) (fun _ z _ => l.length - (intOf z).toNat)
  case atStart => exact ⟨0, Nat.zero_le _, rfl, Below.refl _ _, by simp⟩
  case round =>
    obtain ⟨q, hq, rfl, hB, hany⟩ := hrel
    have HAn : Hid ((l.take q).any p = false) := hany
    have hsz := hB.size
    clear hany
    by_cases hql : q < l.length
    · obtain ⟨c0, c1, c2, c3, c4, c5, c6, c7, c8, c9⟩ := ((HC.out q hql).below hB hb).ten
      have HN : Hid (p l[q] = false → (l.take (q + 1)).any p = false) := any_take9 hql HAn.out
      have HY : Hid (p l[q] = true → l.any p = true) := fun h => List.any_eq_true.2 ⟨_, List.getElem_mem hql, h⟩
      have HL : Hid (Calls Tryz.prog f (bs.push (clV l[q]) ++ cs) wr fun e w' => e = .returned (.bool (p l[q])) ∧ Below wr.heap.size wr w') := HF.out.tells wr hB _ (List.getElem_mem hql)
      generalize l[q] = x at *
      have HBL : Hid (Below w.heap.size w wr) := hB
      clear hB
      cases hx : p x with
      | false =>
        have H1 : Hid ((l.take (q + 1)).any p = false) := HN.out hx
        rw [hx] at HL
        go_wp2_with fail
        refine Calls.mono HL.out ?_
        rintro e w1 ⟨rfl, hb1⟩
        have hB1 := bstep HBL.out hb1
        clear hb1
        go_wp2_with fail
        go_roundw
        case rel => exact ⟨q + 1, by omega, by go_num, hB1, H1.out⟩
        case measure => simp [intOf]; omega
      | true =>
        have H1 : Hid (l.any p = true) := HY.out hx
        rw [hx] at HL
        go_wp2_with fail
        refine Calls.mono HL.out ?_
        rintro e w1 ⟨rfl, hb1⟩
        have hB1 := bstep HBL.out hb1
        clear hb1
        go_wp2_with fail
        go_ret
        exact ⟨⟨_, rfl, ⟨fun _ => H1.out, fun _ => by omega⟩⟩, hB1⟩
    · have HF' : Hid (l.any p = false) := by
        show _ = _
        have := HAn.out
        rwa [List.take_of_length_le (by omega)] at this
      go_wp2
      go_ret
      exact ⟨⟨_, rfl, ⟨fun h => absurd h (by decide), fun h => absurd h (by rw [HF'.out]; decide)⟩⟩, hB⟩

theorem indexC_none (a : Option Addr) (cap : Nat) (f : Value) (w : World) :
    Calls Tryz.prog 188 #[.slice a 0 cap, f] w fun e w' => e = .returned (.int .i64 (-1)) ∧ w' = w := by
  go_enter Tryz.func188, Tryz.ntmps188
  go_wp2
  refine wp_loop_rounds 1 ?_; rw [rounds_succ]
  go_wp2
  go_ret
  exact ⟨rfl, rfl⟩

theorem containsC_any {v : Value} {l : List Cl} {w : World} (hX : Es clE9 w v l) {f : FuncId} {bs cs : Array Value} {p : Cl → Bool} (hf : Tells Tryz.prog clV w f bs cs p l) :
    Calls Tryz.prog 164 #[v, .func (.func f) bs cs] w fun e w' => e = .returned (.bool (l.any p)) ∧ Below w.heap.size w w' := by
  have HI : Hid (Calls Tryz.prog 188 #[v, .func (.func f) bs cs] w fun e w' => (∃ k : Int, e = .returned (.int .i64 k) ∧ (0 ≤ k ↔ l.any p = true)) ∧ Below w.heap.size w w') := by
    by_cases hne : l = []
    · subst hne
      obtain ⟨a, c, rfl, _, _⟩ := hX.shape
      refine (indexC_none a c _ w).mono ?_
      rintro e w' ⟨rfl, rfl⟩
      exact ⟨⟨_, rfl, ⟨fun h => absurd h (by decide), fun h => by simp at h⟩⟩, Below.refl _ _⟩
    · have hl := hX.len
      obtain ⟨b, off, cap, rfl, h1, h2, hb, hc⟩ := hX.parts hne
      exact indexC_some hb hc hl hf
  clear hX hf
  go_enter Tryz.func164, Tryz.ntmps164
  go_wp2_with fail
  refine Calls.mono HI.out ?_
  rintro e w1 ⟨⟨k, rfl, hk⟩, hb1⟩
  have HK : Hid (decide (0 ≤ k) = l.any p) := by
    show _ = _
    rw [Bool.eq_iff_iff, decide_eq_true_iff]; exact hk
  clear hk
  go_wp2
  go_ret
  exact ⟨ret_bool HK.out, hb1⟩

end Go.Proofs.YtclmafoelibihaaGreat

/- all, meet, overlaps over spans; all over regions. -/
namespace Go.Proofs.YtclmafoelibihaaGreat
set_option linter.unusedVariables false
set_option linter.unusedSimpArgs false
open Go.RowKit
attribute [local go_sem ↓] Go.wp_at_zero Go.wp_at_succ

theorem any_not9 {α : Type} (p : α → Bool) : ∀ l : List α, l.all p = !(l.any fun x => !p x)
  | [] => rfl
  | x :: r => by rw [List.all_cons, List.any_cons, any_not9 p r]; cases p x <;> simp
/-- One cell in a block of its own. -/
theorem At.cell0 {w : World} {g : Nat} {v : Value} {t : TypeId} (h : At w g #[v] t) : w.cell? ⟨g, 0, none⟩ = some v := h.cell 0
theorem At.box2 {w : World} {g : Nat} {a b : Value} {t : TypeId} (h : At w g #[a, b] t) : w.cell? ⟨g, 0, none⟩ = some a ∧ w.cell? ⟨g, 1, none⟩ = some b := ⟨h.cell 0, h.cell 1⟩
/-- A new block, and what else there was. -/
theorem made_below (w : World) (C : Array Value) (t : TypeId) : Below w.heap.size w (w.alloc (.cells C t)) := (Below.refl _ _).alloc (Nat.le_refl _) _

set_option maxHeartbeats 1000000 in
theorem all1S_any {x : Sp} {g : Nat} {w : World} {f : FuncId} {bs cs : Array Value} {y : Bool} (hg : w.cell? ⟨g, 0, none⟩ = some (.func (.func f) bs cs)) (hlt : g < w.heap.size)
    (hen : ∀ args W, (callFunc f args).run Tryz.prog W = .ok (.enter f args) W) (hc : ∀ W, Below w.heap.size w W → Calls Tryz.prog f (bs.push (spV9 x) ++ cs) W fun e w' => e = .returned (.bool y) ∧ Below W.heap.size W w') :
    Calls Tryz.prog 203 #[spV9 x, .pointer (some ⟨g, 0, none⟩)] w fun e w' => e = .returned (.bool (!y)) ∧ Below w.heap.size w w' := by
  have HC : Hid (∀ W, Below w.heap.size w W → Calls Tryz.prog f (bs.push (spV9 x) ++ cs) W fun e w' => e = .returned (.bool y) ∧ Below W.heap.size W w') := hc
  obtain ⟨w0, hw0⟩ : ∃ W, W = w.alloc (.cells #[.int .i64 x.1, .int .i64 x.2] 171) := ⟨_, rfl⟩
  have HW0 : Hid (w0 = _) := hw0
  have hb0 : Below w.heap.size w w0 := by rw [hw0]; exact made_below _ _ _
  have HB0 : Hid (Below w.heap.size w w0) := hb0
  have hA : At w0 w.heap.size #[.int .i64 x.1, .int .i64 x.2] 171 := by rw [hw0]; exact At.made w _ _
  have hg0 : w0.cell? ⟨g, 0, none⟩ = some (.func (.func f) bs cs) := by rw [← hg]; exact hb0.cell (p := ⟨g, 0, none⟩) hlt
  have HCL : Hid (Calls Tryz.prog f (bs.push (.agg #[.int .i64 x.1, .int .i64 x.2]) ++ cs) w0 fun e w' => e = .returned (.bool y) ∧ Below w0.heap.size w0 w') := hc w0 hb0
  obtain ⟨c0, c1⟩ := hA.box2
  clear hc hg hw0 hb0 hA
  unfold spV9
  go_enter Tryz.func203, Tryz.ntmps203
  go_wp2_with (rw [← HW0.out])
  refine Calls.mono HCL.out ?_
  rintro e w1 ⟨rfl, hb1⟩
  have HB1 : Hid (Below w.heap.size w w1) := bstep HB0.out hb1
  clear hb1
  go_wp2
  go_ret
  exact ⟨rfl, HB1.out⟩

set_option maxHeartbeats 1000000 in
theorem allS_any {v : Value} {l : List Sp} {w : World} (hX : Es spE w v l) {f : FuncId} {bs cs : Array Value} {p : Sp → Bool} (hf : Tells Tryz.prog spV9 w f bs cs p l) :
    Calls Tryz.prog 184 #[v, .func (.func f) bs cs] w fun e w' => e = .returned (.bool (l.all p)) ∧ Below w.heap.size w w' := by
  have HR : Hid (l.all p = !(l.any fun x => !p x)) := any_not9 p l
  obtain ⟨w0, hw0⟩ : ∃ W, W = w.alloc (.cells #[.func (.func f) bs cs] 174) := ⟨_, rfl⟩
  have HW0 : Hid (w0 = _) := hw0
  have hb0 : Below w.heap.size w w0 := by rw [hw0]; exact made_below _ _ _
  have HB0 : Hid (Below w.heap.size w w0) := hb0
  have hA : At w0 w.heap.size #[.func (.func f) bs cs] 174 := by rw [hw0]; exact At.made w _ _
  have HCo : Hid (Calls Tryz.prog 182 #[v, .func (.func 203) #[] #[.pointer (some ⟨w.heap.size, 0, none⟩)]] w0 fun e w' => e = .returned (.bool (l.any fun x => !p x)) ∧ Below w0.heap.size w0 w') := by
    refine containsS_any (hX.later hb0) ⟨run_enter9 Tryz.func203 (by kernel_rfl) rfl, fun W hW x hx => ?_⟩
    have hA1 := hA.later hW
    have := all1S_any (x := x) (w := W) hA1.cell0 hA1.lt hf.enter (fun W2 hW2 => hf.tells W2 (bstep (bstep hb0 hW) hW2) x hx)
    simpa using this
  clear hw0 hb0 hA hX hf
  go_enter Tryz.func184, Tryz.ntmps184
  go_wp2_with (rw [← HW0.out])
  refine Calls.mono HCo.out ?_
  rintro e w1 ⟨rfl, hb1⟩
  have HB1 : Hid (Below w.heap.size w w1) := bstep HB0.out hb1
  clear hb1
  go_wp2
  go_ret
  exact ⟨ret_bool HR.out.symm, HB1.out⟩

/-- A span that shares, as a function value. -/
theorem tells_shares (s : Sp) (w : World) (l : List Sp) : Tells Tryz.prog spV9 w 187 #[spV9 s] #[] (shrB s) l :=
  ⟨run_enter9 Tryz.func187 (by kernel_rfl) rfl, fun W _ x _ => by simpa using shares9_any s x W⟩

set_option maxHeartbeats 1000000 in
theorem meet1_any {x : Sp} {g : Nat} {vb : Value} {lb : List Sp} {w : World} (hg : w.cell? ⟨g, 0, none⟩ = some vb) (hlt : g < w.heap.size) (hb : Es spE w vb lb) :
    Calls Tryz.prog 201 #[spV9 x, .pointer (some ⟨g, 0, none⟩)] w fun e w' => e = .returned (.bool (lb.any (shrB x))) ∧ Below w.heap.size w w' := by
  obtain ⟨w0, hw0⟩ : ∃ W, W = w.alloc (.cells #[.int .i64 x.1, .int .i64 x.2] 171) := ⟨_, rfl⟩
  have HW0 : Hid (w0 = _) := hw0
  have hb0 : Below w.heap.size w w0 := by rw [hw0]; exact made_below _ _ _
  have HB0 : Hid (Below w.heap.size w w0) := hb0
  have hA : At w0 w.heap.size #[.int .i64 x.1, .int .i64 x.2] 171 := by rw [hw0]; exact At.made w _ _
  have hg0 : w0.cell? ⟨g, 0, none⟩ = some vb := by rw [← hg]; exact hb0.cell (p := ⟨g, 0, none⟩) hlt
  have HCo : Hid (Calls Tryz.prog 182 #[vb, .func (.func 187) #[.agg #[.int .i64 x.1, .int .i64 x.2]] #[]] w0 fun e w' => e = .returned (.bool (lb.any (shrB x))) ∧ Below w0.heap.size w0 w') := containsS_any (hb.later hb0) (tells_shares x w0 lb)
  obtain ⟨c0, c1⟩ := hA.box2
  obtain ⟨va, vc, hvb, _, _⟩ := hb.shape
  clear hb hg hw0 hb0 hA
  subst hvb
  unfold spV9
  go_enter Tryz.func201, Tryz.ntmps201
  go_wp2_with (rw [← HW0.out])
  refine Calls.mono HCo.out ?_
  rintro e w1 ⟨rfl, hb1⟩
  have HB1 : Hid (Below w.heap.size w w1) := bstep HB0.out hb1
  clear hb1
  go_wp2
  go_ret
  exact ⟨rfl, HB1.out⟩

set_option maxHeartbeats 1000000 in
theorem meet_any {va vb : Value} {la lb : List Sp} {w : World} (ha : Es spE w va la) (hb : Es spE w vb lb) :
    Calls Tryz.prog 181 #[va, vb] w fun e w' => e = .returned (.bool (meetB la lb)) ∧ Below w.heap.size w w' := by
  obtain ⟨w0, hw0⟩ : ∃ W, W = w.alloc (.cells #[vb] 154) := ⟨_, rfl⟩
  have HW0 : Hid (w0 = _) := hw0
  have hb0 : Below w.heap.size w w0 := by rw [hw0]; exact made_below _ _ _
  have HB0 : Hid (Below w.heap.size w w0) := hb0
  have hA : At w0 w.heap.size #[vb] 154 := by rw [hw0]; exact At.made w _ _
  have HCo : Hid (Calls Tryz.prog 182 #[va, .func (.func 201) #[] #[.pointer (some ⟨w.heap.size, 0, none⟩)]] w0 fun e w' => e = .returned (.bool (meetB la lb)) ∧ Below w0.heap.size w0 w') := by
    refine containsS_any (ha.later hb0) ⟨run_enter9 Tryz.func201 (by kernel_rfl) rfl, fun W hW x hx => ?_⟩
    have hA1 := hA.later hW
    have := meet1_any (x := x) (w := W) hA1.cell0 hA1.lt ((hb.later hb0).later hW)
    simpa using this
  obtain ⟨aa, ca, hva, _, _⟩ := ha.shape
  obtain ⟨ab, cb, hvb, _, _⟩ := hb.shape
  clear ha hb hw0 hb0 hA
  subst hva hvb
  go_enter Tryz.func181, Tryz.ntmps181
  go_wp2_with (rw [← HW0.out])
  refine Calls.mono HCo.out ?_
  rintro e w1 ⟨rfl, hb1⟩
  have HB1 : Hid (Below w.heap.size w w1) := bstep HB0.out hb1
  clear hb1
  go_wp2
  go_ret
  exact ⟨rfl, HB1.out⟩

end Go.Proofs.YtclmafoelibihaaGreat
