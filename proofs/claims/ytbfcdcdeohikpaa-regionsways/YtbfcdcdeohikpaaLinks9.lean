
/- Links in memory; how two are compared; sorting links that lie in order. -/
import Derived.Test.YtbfcdcdeohikpaaCheckF9
import Derived.Test.YtbfcdcdeohikpaaRegMath
namespace Go.Proofs.Ytbfcdcdeohikpaa
set_option linter.unusedVariables false
set_option linter.unusedSimpArgs false
open Go.RowKit
attribute [local go_sem ↓] Go.wp_at_zero Go.wp_at_succ

def lkC (x : Lk) : List Value := [.int .i64 x.1, .int .i64 x.2.1, .int .i64 x.2.2.1, .int .i64 x.2.2.2]
def lkE : Enc Lk := ⟨lkC, 4, by decide, fun _ => rfl, fun x u hu => by
  simp only [lkC, List.mem_cons, List.not_mem_nil, or_false] at hu
  rcases hu with rfl | rfl | rfl | rfl <;> rfl⟩
def lkV (x : Lk) : Value := .agg #[.int .i64 x.1, .int .i64 x.2.1, .int .i64 x.2.2.1, .int .i64 x.2.2.2]
/-- Four cells at a place hold this link. -/
def Four9 (w : World) (b o : Nat) (x : Lk) : Prop := w.cell? ⟨b, o, none⟩ = some (.int .i64 x.1) ∧ w.cell? ⟨b, o + 1, none⟩ = some (.int .i64 x.2.1) ∧ w.cell? ⟨b, o + 2, none⟩ = some (.int .i64 x.2.2.1) ∧ w.cell? ⟨b, o + 3, none⟩ = some (.int .i64 x.2.2.2)
theorem El.four {w : World} {b o : Nat} {x : Lk} (h : El lkE w b o x) : Four9 w b o x := ⟨h 0 _ rfl, h 1 _ rfl, h 2 _ rfl, h 3 _ rfl⟩
theorem At.four {w : World} {g : Nat} {x : Lk} {t : TypeId} (h : At w g (lkC x).toArray t) : Four9 w g 0 x := ⟨h.cell 0, h.cell 1, h.cell 2, h.cell 3⟩

theorem At.made2' (w : World) (o : Obj) (C : Array Value) (t : TypeId) : At ((w.alloc o).alloc (.cells C t)) (w.heap.size + 1) C t := by
  have := At.made (w.alloc o) C t
  simpa using this

def cmpI (a b : Int) : Int := if a < b then -1 else if b < a then 1 else 0

theorem nanU_any (a : Int) (w : World) : Calls Try.prog 80 #[.int .u64 a] w fun e w' => e = .returned (.bool false) ∧ w' = w := by
  go_enter Try.func80, Try.ntmps80
  go_wp2
  go_ret
  exact ⟨rfl, rfl⟩
theorem nanI_any (a : Int) (w : World) : Calls Try.prog 81 #[.int .i64 a] w fun e w' => e = .returned (.bool false) ∧ w' = w := by
  go_enter Try.func81, Try.ntmps81
  go_wp2
  go_ret
  exact ⟨rfl, rfl⟩
theorem compareU_any (a b : Int) (w : World) : Calls Try.prog 67 #[.int .u64 a, .int .u64 b] w fun e w' => e = .returned (.int .i64 (cmpI a b)) ∧ w' = w := by
  go_enter Try.func67, Try.ntmps67
  go_wp2_with (go_at_call 80; refine (nanU_any _ _).mono ?_; rintro e wz ⟨rfl, hz⟩; subst wz)
  all_goals (go_ret; exact ⟨ret_int (by unfold cmpI; omega), rfl⟩)
theorem compareI_any (a b : Int) (w : World) : Calls Try.prog 69 #[.int .i64 a, .int .i64 b] w fun e w' => e = .returned (.int .i64 (cmpI a b)) ∧ w' = w := by
  go_enter Try.func69, Try.ntmps69
  go_wp2_with (go_at_call 81; refine (nanI_any _ _).mono ?_; rintro e wz ⟨rfl, hz⟩; subst wz)
  all_goals (go_ret; exact ⟨ret_int (by unfold cmpI; omega), rfl⟩)

theorem size9_any (s : Sp) (h0 : 0 ≤ s.1) (h1 : s.1 ≤ s.2) (h2 : s.2 ≤ 1000000) (w : World) :
    Calls Try.prog 68 #[spV9 s] w fun e w' => e = .returned (.int .u64 (s.2 - s.1)) ∧ Below w.heap.size w w' := by
  have hb0 : Hid (Below w.heap.size w (w.alloc (.cells (spC s).toArray 63))) := made_below _ _ _
  unfold spV9
  go_enter Try.func68, Try.ntmps68
  go_wp2
  go_ret
  exact ⟨ret_int (by omega), hb0.out⟩

def orI (a b : Int) : Int := if a = 0 then b else a

set_option maxHeartbeats 1000000 in
theorem or_two {w : World} {g : Nat} {a b : Int} {t : TypeId} (h : At w g #[.int .i64 a, .int .i64 b] t) :
    Calls Try.prog 66 #[.slice (some ⟨g, 0, none⟩) 2 2] w fun e w' => e = .returned (.int .i64 (if a = 0 then b else a)) ∧ w' = w := by
  obtain ⟨c0, c1⟩ := h.box2
  clear h
  go_enter Try.func66, Try.ntmps66
  go_wp2
  refine wp_loop_rounds 3 ?_; rw [rounds_succ]
  by_cases ha : a = 0
  · subst ha
    go_wp2
    rw [rounds_succ]
    by_cases hb : b = 0
    · subst hb
      go_wp2
      rw [rounds_succ]
      go_wp2
      go_ret
      exact ⟨rfl, rfl⟩
    · have hb' : (b == 0) = false := by rw [beq_eq_false_iff_ne]; exact hb
      go_wp2
      go_ret
      exact ⟨rfl, rfl⟩
  · have ha' : (a == 0) = false := by rw [beq_eq_false_iff_ne]; exact ha
    have HR : Hid ((if a = 0 then b else a) = a) := if_neg ha
    go_wp2
    go_ret
    first | exact ⟨rfl, rfl⟩ | exact ⟨ret_int HR.out.symm, rfl⟩

theorem cmpI_le {a b : Int} (h : b ≤ a) : 0 ≤ cmpI a b := by unfold cmpI; split <;> (try split) <;> omega
theorem cmpI_self (a : Int) : cmpI a a = 0 := by unfold cmpI; simp
/-- A link whose numbers are small. -/
def SmL (x : Lk) : Prop := 0 ≤ x.2.2.1 ∧ x.2.2.1 ≤ x.2.2.2 ∧ x.2.2.2 ≤ 1000000
def bysI (x y : Lk) : Int := if cmpI (lkN x) (lkN y) = 0 then cmpI x.2.2.1 y.2.2.1 else cmpI (lkN x) (lkN y)
theorem bysI_nest {x y : Lk} (h : Nst x y) : 0 ≤ bysI y x := by
  have hle := h.le
  unfold bysI
  split
  · rename_i h0
    have he : lkN y ≤ lkN x := by
      unfold cmpI at h0
      split at h0
      · omega
      · split at h0 <;> omega
    have := h.eq he
    unfold lkSp at this
    simp only [Prod.mk.injEq] at this
    exact cmpI_le (by omega)
  · exact cmpI_le hle

set_option maxHeartbeats 2000000 in
theorem bySize_any (x y : Lk) (hx : SmL x) (hy : SmL y) (w : World) :
    Calls Try.prog 37 #[lkV x, lkV y] w fun e w' => e = .returned (.int .i64 (bysI x y)) ∧ Below w.heap.size w w' := by
  obtain ⟨w0, hw0⟩ : ∃ W, W = (w.alloc (.cells #[.int .i64 x.1, .int .i64 x.2.1, .int .i64 x.2.2.1, .int .i64 x.2.2.2] 65)).alloc (.cells #[.int .i64 y.1, .int .i64 y.2.1, .int .i64 y.2.2.1, .int .i64 y.2.2.2] 65) := ⟨_, rfl⟩
  have HW0 : Hid (w0 = _) := hw0
  have HB0 : Hid (Below w.heap.size w w0) := by rw [hw0]; exact bbox (made_below _ _ _) _
  have hA : At w0 w.heap.size (lkC x).toArray 65 := by rw [hw0]; exact (At.made w (lkC x).toArray _).next _
  have hA2 : At w0 (w.heap.size + 1) (lkC y).toArray 65 := by rw [hw0]; exact At.made2' w _ (lkC y).toArray 65
  have HK : Hid (∀ W, Below w0.heap.size w0 W → (W.cell? ⟨w.heap.size, 2, none⟩ = some (.int .i64 x.2.2.1) ∧ W.cell? ⟨w.heap.size, 3, none⟩ = some (.int .i64 x.2.2.2)) ∧ (W.cell? ⟨w.heap.size + 1, 2, none⟩ = some (.int .i64 y.2.2.1) ∧ W.cell? ⟨w.heap.size + 1, 3, none⟩ = some (.int .i64 y.2.2.2))) := fun W hW => ⟨⟨(hA.later hW).four.2.2.1, (hA.later hW).four.2.2.2⟩, (hA2.later hW).four.2.2.1, (hA2.later hW).four.2.2.2⟩
  obtain ⟨⟨c0, c1⟩, d0, d1⟩ := HK.out w0 (Below.refl _ _)
  have HSx : Hid (∀ W, Calls Try.prog 68 #[.agg #[.int .i64 x.2.2.1, .int .i64 x.2.2.2]] W fun e w' => e = .returned (.int .u64 (lkN x)) ∧ Below W.heap.size W w') := fun W => size9_any (x.2.2.1, x.2.2.2) hx.1 hx.2.1 hx.2.2 W
  have HSy : Hid (∀ W, Calls Try.prog 68 #[.agg #[.int .i64 y.2.2.1, .int .i64 y.2.2.2]] W fun e w' => e = .returned (.int .u64 (lkN y)) ∧ Below W.heap.size W w') := fun W => size9_any (y.2.2.1, y.2.2.2) hy.1 hy.2.1 hy.2.2 W
  have HCu : Hid (∀ W, Calls Try.prog 67 #[.int .u64 (lkN x), .int .u64 (lkN y)] W fun e w' => e = .returned (.int .i64 (cmpI (lkN x) (lkN y))) ∧ w' = W) := fun W => compareU_any _ _ W
  have HCi : Hid (∀ W, Calls Try.prog 69 #[.int .i64 x.2.2.1, .int .i64 y.2.2.1] W fun e w' => e = .returned (.int .i64 (cmpI x.2.2.1 y.2.2.1)) ∧ w' = W) := fun W => compareI_any _ _ W
  have HOr : Hid (∀ (W : World) (a b : Int), Calls Try.prog 66 #[.slice (some ⟨W.heap.size, 0, none⟩) 2 2] (W.alloc (.cells #[.int .i64 a, .int .i64 b] 3)) fun e w' => e = .returned (.int .i64 (orI a b)) ∧ w' = W.alloc (.cells #[.int .i64 a, .int .i64 b] 3)) := fun W a b => or_two (At.made W _ _)
  clear hw0 hA hA2 hx hy
  unfold lkV
  go_enter Try.func37, Try.ntmps37
  go_wp2_with (rw [← HW0.out])
  generalize hnx : lkN x = nx at *
  generalize hny : lkN y = ny at *
  have HR : Hid (bysI x y = orI (cmpI nx ny) (cmpI x.2.2.1 y.2.2.1)) := by show _ = _; unfold bysI orI; rw [hnx, hny]
  clear hnx hny
  go_region_held3 (fun W => (W.cell? ⟨w.heap.size, 2, none⟩ = some (.int .i64 x.2.2.1) ∧ W.cell? ⟨w.heap.size, 3, none⟩ = some (.int .i64 x.2.2.2)) ∧ (W.cell? ⟨w.heap.size + 1, 2, none⟩ = some (.int .i64 y.2.2.1) ∧ W.cell? ⟨w.heap.size + 1, 3, none⟩ = some (.int .i64 y.2.2.2)))
    (first | (exact HK.out _ (bdrew _)) | (exact HK.out _ (bstep (bdrew _) hb1)) | (exact HK.out _ (bstep (bstep (bdrew _) hb1) hb2)) | (exact HK.out _ (bbox (bstep (bstep (bdrew _) hb1) hb2) _)))
    (first
      | (go_at_call_of 68 (Value.agg #[Value.int IntKind.i64 x.2.2.1, Value.int IntKind.i64 x.2.2.2]); refine (HSx.out _).mono ?_; rintro e w1 ⟨rfl, hb1⟩)
      | (go_at_call 68; refine (HSy.out _).mono ?_; rintro e w2 ⟨rfl, hb2⟩)
      | (go_at_call 67; refine (HCu.out _).mono ?_; rintro e wz ⟨rfl, hz⟩; subst wz)
      | (go_at_call 69; refine (HCi.out _).mono ?_; rintro e wz ⟨rfl, hz⟩; subst wz)
      | (go_at_call 66; refine (HOr.out _ _ _).mono ?_; rintro e wz ⟨rfl, hz⟩; subst wz))
  all_goals
    rename_i hheld
    clear hheld
    have HB2 : Hid (Below w.heap.size w w2) := bstep HB0.out (bstep (bstep (bdrew _) hb1) hb2)
    clear hb1 hb2
    go_wp2_with fail
    go_ret
    exact ⟨ret_int HR.out.symm, bbox HB2.out _⟩

end Go.Proofs.Ytbfcdcdeohikpaa
