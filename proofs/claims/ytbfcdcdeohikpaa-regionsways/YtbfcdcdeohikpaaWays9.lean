
/- mayEnter, mayLeave, Pass, Leave; opens, ways, Pass, Leave of the references. -/
import Derived.Test.YtbfcdcdeohikpaaApart9
namespace Go.Proofs.Ytbfcdcdeohikpaa
set_option linter.unusedVariables false
set_option linter.unusedSimpArgs false
open Go.RowKit
attribute [local go_sem ↓] Go.wp_at_zero Go.wp_at_succ

set_option maxHeartbeats 2000000 in
theorem enter1_any {r : Sp} {l : List Cl} {lv : Value} {g1 g2 : Nat} {n : Int} {w : World} (hv : ValR l r) (h1 : w.cell? ⟨g1, 0, none⟩ = some lv) (l1 : g1 < w.heap.size) (h2 : w.cell? ⟨g2, 0, none⟩ = some (.int .i64 n)) (l2 : g2 < w.heap.size) (hE : Es clE9 w lv l) :
    Calls Try.prog 72 #[spV9 r, .pointer (some ⟨g1, 0, none⟩), .pointer (some ⟨g2, 0, none⟩)] w fun e w' => e = .returned (.bool (opB l n r)) ∧ Below w.heap.size w w' := by
  obtain ⟨k, hk, hr, _⟩ := hv
  have hne : l ≠ [] := by intro e; subst e; simp at hk
  have HR : Hid (opB l n r = (decide (r.2 = 1) && decide (l[k].tf = n))) := opB_eq hk hr
  have hll := hE.len
  unfold maxLen at hll
  obtain ⟨b, off, cap, rfl, _, hcm, hb, hc⟩ := hE.parts hne
  obtain ⟨r1, r2⟩ := r
  simp only at hr HR
  subst hr
  obtain ⟨w0, hw0⟩ : ∃ W, W = w.alloc (.cells #[.int .i64 (k : Int), .int .i64 r2] 46) := ⟨_, rfl⟩
  have HW0 : Hid (w0 = _) := hw0
  have hb0 : Below w.heap.size w w0 := by rw [hw0]; exact made_below _ _ _
  have HB0 : Hid (Below w.heap.size w w0) := hb0
  have hA : At w0 w.heap.size #[.int .i64 (k : Int), .int .i64 r2] 46 := by rw [hw0]; exact At.made w _ _
  obtain ⟨d0, d1⟩ := hA.box2
  have k1 : w0.cell? ⟨g1, 0, none⟩ = some (.slice (some ⟨b, off, none⟩) l.length cap) := by rw [← h1]; exact hb0.cell (p := ⟨g1, 0, none⟩) l1
  have k2 : w0.cell? ⟨g2, 0, none⟩ = some (.int .i64 n) := by rw [← h2]; exact hb0.cell (p := ⟨g2, 0, none⟩) l2
  obtain ⟨c0, c1, c2, c3, c4, c5, c6, c7, c8, c9⟩ := ((hc k hk).below hb0 hb).ten
  have z : clE9.size = 10 := rfl
  rw [z] at c1
  have n1 : (k : Int) < (l.length : Int) := by omega
  have n2 : (0 : Int) ≤ (k : Int) := by omega
  clear hw0 hb0 hA h1 h2 hE hc hne z c0 c2 c3 c4 c5 c6 c7 c8 c9
  generalize l[k] = c at *
  unfold spV9
  go_enter Try.func72, Try.ntmps72
  go_wp2_with (rw [← HW0.out])
  by_cases hp : r2 = 1
  · subst hp
    go_quiet (fail)
    go_wp2_with fail
    go_ret
    refine ⟨ret_bool ?_, bstep HB0.out (Below.drewN (Below.refl _ _) _)⟩
    rw [HR.out, Bool.eq_iff_iff]; simp
  · have hp' : (r2 == 1) = false := by rw [beq_eq_false_iff_ne]; exact hp
    have HR2 : Hid (opB l n (↑k, r2) = false) := by show _ = _; rw [HR.out, decide_eq_false hp]; rfl
    clear hp
    go_quiet (fail)
    go_wp2_with fail
    go_ret
    exact ⟨ret_bool HR2.out.symm, bstep HB0.out (Below.drewN (Below.refl _ _) _)⟩

set_option maxHeartbeats 2000000 in
theorem leave1_any {r : Sp} {l : List Cl} {lv : Value} {g1 : Nat} {w : World} (hv : ValR l r) (h1 : w.cell? ⟨g1, 0, none⟩ = some lv) (l1 : g1 < w.heap.size) (hE : Es clE9 w lv l) :
    Calls Try.prog 73 #[spV9 r, .pointer (some ⟨g1, 0, none⟩)] w fun e w' => e = .returned (.bool (lvB l r)) ∧ Below w.heap.size w w' := by
  obtain ⟨k, hk, hr, _⟩ := hv
  have hne : l ≠ [] := by intro e; subst e; simp at hk
  have HR : Hid (∀ x : Int, lvB l ((k : Int), x) = (decide (x = 1) || (decide (x = 2) && (decide (l[k].k = 1) || decide (l[k].k = 2))))) := fun x => lvB_eq (r := ((k : Int), x)) hk rfl
  have hll := hE.len
  unfold maxLen at hll
  obtain ⟨b, off, cap, rfl, _, hcm, hb, hc⟩ := hE.parts hne
  obtain ⟨r1, r2⟩ := r
  simp only at hr
  subst hr
  obtain ⟨w0, hw0⟩ : ∃ W, W = w.alloc (.cells #[.int .i64 (k : Int), .int .i64 r2] 46) := ⟨_, rfl⟩
  have HW0 : Hid (w0 = _) := hw0
  have hb0 : Below w.heap.size w w0 := by rw [hw0]; exact made_below _ _ _
  have HB0 : Hid (Below w.heap.size w w0) := hb0
  have hA : At w0 w.heap.size #[.int .i64 (k : Int), .int .i64 r2] 46 := by rw [hw0]; exact At.made w _ _
  obtain ⟨d0, d1⟩ := hA.box2
  have k1 : w0.cell? ⟨g1, 0, none⟩ = some (.slice (some ⟨b, off, none⟩) l.length cap) := by rw [← h1]; exact hb0.cell (p := ⟨g1, 0, none⟩) l1
  obtain ⟨c0, c1, c2, c3, c4, c5, c6, c7, c8, c9⟩ := ((hc k hk).below hb0 hb).ten
  have z : clE9.size = 10 := rfl
  rw [z] at c0
  have n1 : (k : Int) < (l.length : Int) := by omega
  have n2 : (0 : Int) ≤ (k : Int) := by omega
  clear hw0 hb0 hA h1 hE hc hne z c1 c2 c3 c4 c5 c6 c7 c8 c9
  generalize l[k] = c at *
  unfold spV9
  go_enter Try.func73, Try.ntmps73
  go_wp2_with (rw [← HW0.out])
  all_goals go_ret
  all_goals refine ⟨ret_bool ?_, HB0.out⟩
  all_goals (rw [HR.out, Bool.eq_iff_iff]; simp_all)

theorem mayEnter_any (lv : Value) (a : Option Addr) (m c : Nat) (hlv : lv = .slice a m c) (n : Int) (w : World) :
    Calls Try.prog 49 #[lv, .int .i64 n] w fun e w' => e = .returned (.func (.func 72) #[] #[.pointer (some ⟨w.heap.size, 0, none⟩), .pointer (some ⟨w.heap.size + 1, 0, none⟩)]) ∧ w' = (w.alloc (.cells #[lv] 22)).alloc (.cells #[.int .i64 n] 3) := by
  subst hlv
  go_enter Try.func49, Try.ntmps49
  go_wp2
  go_ret
  exact ⟨rfl, rfl⟩
theorem mayLeave_any (lv : Value) (a : Option Addr) (m c : Nat) (hlv : lv = .slice a m c) (w : World) :
    Calls Try.prog 50 #[lv] w fun e w' => e = .returned (.func (.func 73) #[] #[.pointer (some ⟨w.heap.size, 0, none⟩)]) ∧ w' = w.alloc (.cells #[lv] 22) := by
  subst hlv
  go_enter Try.func50, Try.ntmps50
  go_wp2
  go_ret
  exact ⟨rfl, rfl⟩

/-- Both as function values. -/
theorem tells_enter {l : List Cl} {lv : Value} {w : World} (hE : Es clE9 w lv l) (n : Int) (L : List Sp) (hL : ∀ r ∈ L, ValR l r) :
    Tells Try.prog spV9 ((w.alloc (.cells #[lv] 22)).alloc (.cells #[.int .i64 n] 3)) 72 #[] #[.pointer (some ⟨w.heap.size, 0, none⟩), .pointer (some ⟨w.heap.size + 1, 0, none⟩)] (opB l n) L := by
  refine ⟨run_enter9 Try.func72 (by kernel_rfl) rfl, fun W hW x hx => ?_⟩
  have hA : At ((w.alloc (.cells #[lv] 22)).alloc (.cells #[.int .i64 n] 3)) w.heap.size #[lv] 22 := (At.made w _ _).next _
  have hA2 : At ((w.alloc (.cells #[lv] 22)).alloc (.cells #[.int .i64 n] 3)) (w.heap.size + 1) #[.int .i64 n] 3 := At.made2 w _ _ _
  have h1 := hA.later hW
  have h2 := hA2.later hW
  have := enter1_any (r := x) (n := n) (hL x hx) h1.cell0 h1.lt h2.cell0 h2.lt ((hE.later (bbox (made_below _ _ _) _)).later hW)
  simpa using this
theorem tells_leave {l : List Cl} {lv : Value} {w : World} (hE : Es clE9 w lv l) (L : List Sp) (hL : ∀ r ∈ L, ValR l r) :
    Tells Try.prog spV9 (w.alloc (.cells #[lv] 22)) 73 #[] #[.pointer (some ⟨w.heap.size, 0, none⟩)] (lvB l) L := by
  refine ⟨run_enter9 Try.func73 (by kernel_rfl) rfl, fun W hW x hx => ?_⟩
  have h1 := (At.made w #[lv] 22).later hW
  have := leave1_any (r := x) (hL x hx) h1.cell0 h1.lt ((hE.later (made_below _ _ _)).later hW)
  simpa using this

set_option maxHeartbeats 4000000 in
theorem pass_any {v : Value} {l : List Cl} {w : World} {m : Int} (h : Es clE9 w v l) (hr : RightL m l) (hm : m ≤ 100000) (a b : Int) :
    Calls Try.prog 20 #[v, .int .i64 a, .int .i64 b] w fun e w' => ∃ r : Bool, e = .returned (.bool r) ∧ (r = true ↔ WayR l false b (chR l a) (chR l b)) ∧ Below w.heap.size w w' := by
  have HCa : Hid (Calls Try.prog 13 #[v, .int .i64 a] w fun e w' => ∃ v', e = .returned v' ∧ OwnE spE w' w.heap.size 46 v' (chR l a) ∧ Below w.heap.size w w') := chain_any h hr hm a
  have HCb : Hid (∀ W, Below w.heap.size w W → Calls Try.prog 13 #[v, .int .i64 b] W fun e w' => ∃ v', e = .returned v' ∧ OwnE spE w' W.heap.size 46 v' (chR l b) ∧ Below W.heap.size W w') := fun W hW => chain_any (h.later hW) hr hm b
  have HLa : Hid ((chR l a).length ≤ 18) := chain_len hr a
  have HLb : Hid ((chR l b).length ≤ 18) := chain_len hr b
  have HE : Hid (∀ W, Below w.heap.size w W → Es clE9 W v l) := fun W hW => h.later hW
  obtain ⟨va, vc, hv, _, _⟩ := h.shape
  obtain ⟨vm, hvm⟩ : ∃ z, z = l.length := ⟨_, rfl⟩
  rw [← hvm] at hv
  clear hvm h hr
  subst hv
  go_enter Try.func20, Try.ntmps20
  go_wp2_with fail
  refine Calls.mono HCa.out ?_
  rintro e w1 ⟨v1, rfl, ho1, hb1⟩
  have HO1 : Hid (OwnE spE w1 w.heap.size 46 v1 (chR l a)) := ho1
  have HB1 : Hid (Below w.heap.size w w1) := hb1
  clear ho1 hb1
  go_wp2_with fail
  refine (HCb.out w1 HB1.out).mono ?_
  rintro e w2 ⟨v2, rfl, ho2, hb2⟩
  have HAp : Hid (Calls Try.prog 47 #[v1, v2] w2 fun e w' => ∃ i k a' ca b' cb, e = .returned (.tuple #[.slice a' i ca, .slice b' k cb]) ∧ ApR (chR l a) (chR l b) i k ∧ Below w2.heap.size w2 w' ∧ Es spE w' (.slice a' i ca) ((chR l a).take i) ∧ Es spE w' (.slice b' k cb) ((chR l b).take k)) := apart_any (HO1.out.later hb2).es ho2.es (by have := HLa.out; omega) (by have := HLb.out; omega)
  have HB2 : Hid (Below w.heap.size w w2) := bstep HB1.out hb2
  clear ho2 hb2 HCa HCb
  go_wp2_with fail
  refine Calls.mono HAp.out ?_
  rintro e w3 ⟨i, k, aq, caq, bq, cbq, rfl, hap, hb3, h3a, h3b⟩
  have HB3 : Hid (Below w.heap.size w w3) := bstep HB2.out hb3
  clear hb3 HAp
  have HPs : Hid ((decide (i = 0) && ((chR l b).take k).all (opB l b)) = true ↔ WayR l false b (chR l a) (chR l b)) := hap.pass
  by_cases hi : i = 0
  · subst hi
    have HAl : Hid (∀ w4, w4 = (w3.alloc (.cells #[.slice va vm vc] 22)).alloc (.cells #[.int .i64 b] 3) → Calls Try.prog 48 #[.slice bq k cbq, .func (.func 72) #[] #[.pointer (some ⟨w3.heap.size, 0, none⟩), .pointer (some ⟨w3.heap.size + 1, 0, none⟩)]] w4 fun e w' => e = .returned (.bool (((chR l b).take k).all (opB l b))) ∧ Below w4.heap.size w4 w') := fun w4 h4 => by
      subst h4
      exact allR_any (h3b.later (bbox (made_below _ _ _) _)) (tells_enter (HE.out w3 HB3.out) b _ (fun r hr => chain_val l b r (List.mem_of_mem_take hr)))
    clear h3a h3b hap
    go_wp2_with fail
    refine (mayEnter_any _ va vm vc rfl b w3).mono ?_
    rintro e w4 ⟨rfl, h4⟩
    have HA4 : Hid (Calls Try.prog 48 #[.slice bq k cbq, .func (.func 72) #[] #[.pointer (some ⟨w3.heap.size, 0, none⟩), .pointer (some ⟨w3.heap.size + 1, 0, none⟩)]] w4 fun e w' => e = .returned (.bool (((chR l b).take k).all (opB l b))) ∧ Below w4.heap.size w4 w') := HAl.out w4 h4
    have HB4 : Hid (Below w.heap.size w w4) := by show Below _ _ _; rw [h4]; exact bstep HB3.out (bbox (made_below _ _ _) _)
    clear h4 HAl
    go_wp2_with fail
    refine Calls.mono HA4.out ?_
    rintro e w5 ⟨rfl, hb5⟩
    have HB5 : Hid (Below w.heap.size w w5) := bstep HB4.out hb5
    clear hb5
    go_wp2_with fail
    go_ret
    exact ⟨_, rfl, by rw [← HPs.out]; simp, HB5.out⟩
  · have HPs2 : Hid (¬ WayR l false b (chR l a) (chR l b)) := fun hw => by
      have := HPs.out.2 hw
      rw [decide_eq_false hi] at this
      exact absurd this (by simp)
    have hi' : ((i : Int) == 0) = false := by rw [beq_eq_false_iff_ne]; omega
    have hi2 : ¬ (i : Int) = 0 := by omega
    clear h3a h3b hap hi
    go_wp2_with fail
    go_ret
    exact ⟨false, rfl, ⟨fun hf => absurd hf (by decide), fun hw => absurd hw HPs2.out⟩, HB3.out⟩

set_option maxHeartbeats 4000000 in
theorem leave_any {v : Value} {l : List Cl} {w : World} {m : Int} (h : Es clE9 w v l) (hr : RightL m l) (hm : m ≤ 100000) (a b : Int) :
    Calls Try.prog 21 #[v, .int .i64 a, .int .i64 b] w fun e w' => ∃ r : Bool, e = .returned (.bool r) ∧ (r = true ↔ WayR l true b (chR l a) (chR l b)) ∧ Below w.heap.size w w' := by
  have HCa : Hid (Calls Try.prog 13 #[v, .int .i64 a] w fun e w' => ∃ v', e = .returned v' ∧ OwnE spE w' w.heap.size 46 v' (chR l a) ∧ Below w.heap.size w w') := chain_any h hr hm a
  have HCb : Hid (∀ W, Below w.heap.size w W → Calls Try.prog 13 #[v, .int .i64 b] W fun e w' => ∃ v', e = .returned v' ∧ OwnE spE w' W.heap.size 46 v' (chR l b) ∧ Below W.heap.size W w') := fun W hW => chain_any (h.later hW) hr hm b
  have HLa : Hid ((chR l a).length ≤ 18) := chain_len hr a
  have HLb : Hid ((chR l b).length ≤ 18) := chain_len hr b
  have HE : Hid (∀ W, Below w.heap.size w W → Es clE9 W v l) := fun W hW => h.later hW
  obtain ⟨va, vc, hv, _, _⟩ := h.shape
  obtain ⟨vm, hvm⟩ : ∃ z, z = l.length := ⟨_, rfl⟩
  rw [← hvm] at hv
  clear hvm h hr
  subst hv
  go_enter Try.func21, Try.ntmps21
  go_wp2_with fail
  refine Calls.mono HCa.out ?_
  rintro e w1 ⟨v1, rfl, ho1, hb1⟩
  have HO1 : Hid (OwnE spE w1 w.heap.size 46 v1 (chR l a)) := ho1
  have HB1 : Hid (Below w.heap.size w w1) := hb1
  clear ho1 hb1
  go_wp2_with fail
  refine (HCb.out w1 HB1.out).mono ?_
  rintro e w2 ⟨v2, rfl, ho2, hb2⟩
  have HAp : Hid (Calls Try.prog 47 #[v1, v2] w2 fun e w' => ∃ i k a' ca b' cb, e = .returned (.tuple #[.slice a' i ca, .slice b' k cb]) ∧ ApR (chR l a) (chR l b) i k ∧ Below w2.heap.size w2 w' ∧ Es spE w' (.slice a' i ca) ((chR l a).take i) ∧ Es spE w' (.slice b' k cb) ((chR l b).take k)) := apart_any (HO1.out.later hb2).es ho2.es (by have := HLa.out; omega) (by have := HLb.out; omega)
  have HB2 : Hid (Below w.heap.size w w2) := bstep HB1.out hb2
  clear ho2 hb2 HCa HCb
  go_wp2_with fail
  refine Calls.mono HAp.out ?_
  rintro e w3 ⟨i, k, aq, caq, bq, cbq, rfl, hap, hb3, h3a, h3b⟩
  have HB3 : Hid (Below w.heap.size w w3) := bstep HB2.out hb3
  clear hb3 HAp
  have HPs : Hid ((((chR l a).take i).all (lvB l) && ((chR l b).take k).all (opB l b)) = true ↔ WayR l true b (chR l a) (chR l b)) := hap.leave
  have HAo : Hid (∀ w4, w4 = w3.alloc (.cells #[.slice va vm vc] 22) → Calls Try.prog 48 #[.slice aq i caq, .func (.func 73) #[] #[.pointer (some ⟨w3.heap.size, 0, none⟩)]] w4 fun e w' => e = .returned (.bool (((chR l a).take i).all (lvB l))) ∧ Below w4.heap.size w4 w') := fun w4 h4 => by
    subst h4
    exact allR_any (h3a.later (made_below _ _ _)) (tells_leave (HE.out w3 HB3.out) _ (fun r hr => chain_val l a r (List.mem_of_mem_take hr)))
  have HE3 : Hid (Es spE w3 (.slice bq k cbq) ((chR l b).take k)) := h3b
  clear h3a h3b hap
  go_wp2_with fail
  refine (mayLeave_any _ va vm vc rfl w3).mono ?_
  rintro e w4 ⟨rfl, h4⟩
  have HA4 : Hid (Calls Try.prog 48 #[.slice aq i caq, .func (.func 73) #[] #[.pointer (some ⟨w3.heap.size, 0, none⟩)]] w4 fun e w' => e = .returned (.bool (((chR l a).take i).all (lvB l))) ∧ Below w4.heap.size w4 w') := HAo.out w4 h4
  have HB4 : Hid (Below w3.heap.size w3 w4) := by show Below _ _ _; rw [h4]; exact made_below _ _ _
  clear h4 HAo
  go_wp2_with fail
  refine Calls.mono HA4.out ?_
  rintro e w5 ⟨rfl, hb5⟩
  have HB5 : Hid (Below w3.heap.size w3 w5) := bstep HB4.out hb5
  clear hb5 HA4
  cases hlv : ((chR l a).take i).all (lvB l) with
  | true =>
    have HAl : Hid (∀ w6, w6 = (w5.alloc (.cells #[.slice va vm vc] 22)).alloc (.cells #[.int .i64 b] 3) → Calls Try.prog 48 #[.slice bq k cbq, .func (.func 72) #[] #[.pointer (some ⟨w5.heap.size, 0, none⟩), .pointer (some ⟨w5.heap.size + 1, 0, none⟩)]] w6 fun e w' => e = .returned (.bool (((chR l b).take k).all (opB l b))) ∧ Below w6.heap.size w6 w') := fun w6 h6 => by
      subst h6
      exact allR_any ((HE3.out.later HB5.out).later (bbox (made_below _ _ _) _)) (tells_enter (HE.out w5 (bstep HB3.out HB5.out)) b _ (fun r hr => chain_val l b r (List.mem_of_mem_take hr)))
    go_wp2_with fail
    refine (mayEnter_any _ va vm vc rfl b w5).mono ?_
    rintro e w6 ⟨rfl, h6⟩
    have HA6 : Hid (Calls Try.prog 48 #[.slice bq k cbq, .func (.func 72) #[] #[.pointer (some ⟨w5.heap.size, 0, none⟩), .pointer (some ⟨w5.heap.size + 1, 0, none⟩)]] w6 fun e w' => e = .returned (.bool (((chR l b).take k).all (opB l b))) ∧ Below w6.heap.size w6 w') := HAl.out w6 h6
    have HB6 : Hid (Below w.heap.size w w6) := by show Below _ _ _; rw [h6]; exact bstep (bstep HB3.out HB5.out) (bbox (made_below _ _ _) _)
    clear h6 HAl
    go_wp2_with fail
    refine Calls.mono HA6.out ?_
    rintro e w7 ⟨rfl, hb7⟩
    have HB7 : Hid (Below w.heap.size w w7) := bstep HB6.out hb7
    clear hb7
    go_wp2_with fail
    go_ret
    exact ⟨_, rfl, by rw [← HPs.out, hlv]; simp, HB7.out⟩
  | false =>
    have HPs2 : Hid (¬ WayR l true b (chR l a) (chR l b)) := fun hw => by
      have := HPs.out.2 hw
      rw [hlv] at this
      exact absurd this (by simp)
    go_wp2_with fail
    go_ret
    exact ⟨false, rfl, ⟨fun hf => absurd hf (by decide), fun hw => absurd hw HPs2.out⟩, bstep HB3.out HB5.out⟩

end Go.Proofs.Ytbfcdcdeohikpaa
