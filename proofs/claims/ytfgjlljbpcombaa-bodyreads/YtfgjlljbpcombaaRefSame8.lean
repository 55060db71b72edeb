
/- Same of layer 8's references, of like bodies. -/
import Derived.Test.YtfgjlljbpcombaaLaws8
import Derived.Test.YtfgjlljbpcombaaSame
namespace Go.Proofs.Ytfgjlljbpcombaa
set_option linter.unusedVariables false
set_option linter.unusedSimpArgs false
open Go.RowKit
attribute [local go_sem ↓] Go.wp_at_zero Go.wp_at_succ

/-- Two clauses compared. -/
theorem ne_raw (W : World) (a b c d e f : Int) : (binOp .neq 52 (.agg #[.int .i64 a, .int .i64 b, .int .i64 c, .int .i64 d, .int .i64 e, .int .i64 f]) (.agg #[.int .i64 a, .int .i64 b, .int .i64 c, .int .i64 d, .int .i64 e, .int .i64 f])).run Try.prog W = .ok (.bool false) W := by
  simp [go_sem]

/-- Both boxes. -/
structure Bx2 (w0 w : World) (a b c d : Value) : Prop where
  one : At w w0.heap.size #[a, b] 25
  two : At w (w0.heap.size + 1) #[c, d] 25
  bel : Below w0.heap.size w0 w
theorem Bx2.later {w0 w w' : World} {a b c d : Value} (h : Bx2 w0 w a b c d) (hb : Below w.heap.size w w') : Bx2 w0 w' a b c d := ⟨h.one.later hb, h.two.later hb, h.bel.trans (hb.mono h.bel.size)⟩
theorem Bx2.mk0 (w : World) (a b c d : Value) : Bx2 w ((w.alloc (.cells #[a, b] 25)).alloc (.cells #[c, d] 25)) a b c d := by
  refine ⟨(At.made _ _ _).next _, ?_, ((Below.refl _ _).alloc (Nat.le_refl _) _).alloc (by simp) _⟩
  have := At.made (w.alloc (.cells #[a, b] 25)) #[c, d] 25
  rw [World.size_alloc] at this
  exact this

set_option maxHeartbeats 1000000 in
theorem refSame8_yes {w : World} {va la vb lb : Value} {c : List UInt8} {l : List Rw} (ha : Bs w va c) (hb : Bs w vb c) (hla : Ws w la l) (hlb : Ws w lb l) :
    Calls Try.prog 14 #[.agg #[va, la], .agg #[vb, lb]] w fun e w' => e = .returned (.bool true) ∧ Below w.heap.size w w' := by
  have hll := hla.len
  unfold maxLen at hll
  have hx0 := Bx2.mk0 w va la vb lb
  have HX0 : Hid (Bx2 w ((w.alloc (.cells #[va, la] 25)).alloc (.cells #[vb, lb] 25)) va la vb lb) := hx0
  have HS : Hid (Calls Try.prog 13 #[va, vb] ((w.alloc (.cells #[va, la] 25)).alloc (.cells #[vb, lb] 25)) fun e w' => e = .returned (.bool true) ∧ Bx2 w w' va la vb lb) := by
    refine (same_any (ha.later hx0.bel) (hb.later hx0.bel)).mono ?_
    rintro e w' ⟨rfl, n, rfl⟩
    exact ⟨by simp, hx0.later (Below.drewN (Below.refl _ _) n)⟩
  have HLA : Hid (∀ W, Below w.heap.size w W → Ws W la l) := fun W h => hla.later h
  have HLB : Hid (∀ W, Below w.heap.size w W → Ws W lb l) := fun W h => hlb.later h
  obtain ⟨xa, cxa, rfl, q1, q2⟩ := hla.shape
  obtain ⟨xb, cxb, rfl, q3, q4⟩ := hlb.shape
  obtain ⟨ya, cya, rfl, q5, q6, q7⟩ := ha
  obtain ⟨yb, cyb, rfl, q8, q9, q10⟩ := hb
  clear hx0 hla hlb q1 q2 q3 q4 q5 q6 q7 q8 q9 q10
  go_enter Try.func14, Try.ntmps14
  go_wp2_with fail
  refine Calls.mono HS.out ?_
  rintro e w1 ⟨rfl, h1⟩
  have tc1 := h1.one.cell
  have td1 := h1.two.cell
  have HX1 : Hid (Bx2 w w1 (.slice ya c.length cya) (.slice xa l.length cxa) (.slice yb c.length cyb) (.slice xb l.length cxb)) := h1
  have hne : ((l.length : Int) != (l.length : Int)) = false := by simp
  clear h1 HS HX0
  go_wp2
  go_loopw [5] (fun z wr => ∃ q : Nat, q ≤ l.length ∧ z = .int .i64 (q : Int) ∧ Bx2 w wr (.slice ya c.length cya) (.slice xa l.length cxa) (.slice yb c.length cyb) (.slice xb l.length cxb)) (fun z _ => l.length - (intOf z).toNat)
  case atStart => exact ⟨0, Nat.zero_le _, rfl, HX1.out⟩
  case round =>
    obtain ⟨q, hq, rfl, hx⟩ := hrel
    have HX : Hid (Bx2 w wr (.slice ya c.length cya) (.slice xa l.length cxa) (.slice yb c.length cyb) (.slice xb l.length cxb)) := hx
    have tc := hx.one.cell
    have td := hx.two.cell
    clear hx tc1 td1 HX1
    by_cases hql : q < l.length
    · have hne' : l ≠ [] := by intro e; rw [e] at hql; simp at hql
      obtain ⟨ba, oa, ca', e1, _, _, _, hca⟩ := (HLA.out wr HX.out.bel).parts hne'
      obtain ⟨bb, ob, cb', e2, _, _, _, hcb⟩ := (HLB.out wr HX.out.bel).parts hne'
      simp only [Value.slice.injEq] at e1 e2
      obtain ⟨rfl, -, rfl⟩ := e1
      obtain ⟨rfl, -, rfl⟩ := e2
      obtain ⟨c0, c1, c2, c3, c4, c5⟩ := hca q hql
      obtain ⟨d0, d1, d2, d3, d4, d5⟩ := hcb q hql
      clear hca hcb hne'
      generalize l[q] = t at *
      obtain ⟨x0, x1, x2, x3, x4, x5⟩ := t
      simp only at c0 c1 c2 c3 c4 c5 d0 d1 d2 d3 d4 d5
      have hnr := fun W => ne_raw W x0 x1 x2 x3 x4 x5
      go_wp2
      go_quiet (fail)
      go_wp2
      go_roundw
      case rel => exact ⟨q + 1, by omega, by go_num, HX.out.later (Below.drewN (Below.refl _ _) nq)⟩
      case measure => simp [intOf]; omega
    · go_wp2
      go_ret
      exact ⟨rfl, HX.out.bel⟩

end Go.Proofs.Ytfgjlljbpcombaa
