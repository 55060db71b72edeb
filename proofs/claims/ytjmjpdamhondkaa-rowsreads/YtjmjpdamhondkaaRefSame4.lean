
/- Same and Long of layer 4's references. -/
import Derived.Test.YtjmjpdamhondkaaLaws4
namespace Go.Proofs.Ytjmjpdamhondkaa
set_option linter.unusedVariables false
set_option linter.unusedSimpArgs false
open Go.RowKit Go.Maps

theorem In1.is {w : World} {v : Value} {l : List Int} (h : In1 w v l) : Is w v l := h

set_option maxHeartbeats 2000000 in
theorem refSame4_yes {w : World} {va vb : Value} {T : List (List (List Int))} (en : Int) (ha : In3 w va T) (hb : In3 w vb T) :
    Calls Try.prog 11 #[.agg #[.int .i64 en, va], .agg #[.int .i64 en, vb]] w fun e w' => e = .returned (.bool true) ∧ Below w.heap.size w w' := by
  obtain ⟨aa, ca, rfl, ha1, ha2⟩ := Ns.shape ha
  obtain ⟨ab, cb, rfl, hb1, hb2⟩ := Ns.shape hb
  unfold maxLen at ha2 hb2
  obtain ⟨w2, hw2⟩ : ∃ w2, w2 = (w.alloc (Obj.cells #[.int .i64 en, .slice aa T.length ca] 26)).alloc (Obj.cells #[.int .i64 en, .slice ab T.length cb] 26) := ⟨_, rfl⟩
  have hbl : Below w.heap.size w w2 := by rw [hw2]; exact ((Below.refl _ _).alloc (Nat.le_refl _) _).alloc (by simp) _
  have HA : Hid (In3 w2 (.slice aa T.length ca) T) := ha.later hbl
  have HB : Hid (In3 w2 (.slice ab T.length cb) T) := hb.later hbl
  have HBL : Hid (Below w.heap.size w w2) := hbl
  have hx : w2.heap[w.heap.size]? = some (Obj.cells #[.int .i64 en, .slice aa T.length ca] 26 (0, 0)) := by
    rw [hw2]; exact (heap_alloc_old _ _ (by simp)).trans (heap_alloc_new w _)
  have hy : w2.heap[w.heap.size + 1]? = some (Obj.cells #[.int .i64 en, .slice ab T.length cb] 26 (0, 0)) := by
    have := heap_alloc_new (w.alloc (Obj.cells #[.int .i64 en, .slice aa T.length ca] 26)) (Obj.cells #[.int .i64 en, .slice ab T.length cb] 26)
    rw [World.size_alloc] at this
    rw [hw2]; exact this
  obtain ⟨x0, x1⟩ := box2 hx
  obtain ⟨y0, y1⟩ := box2 hy
  have HW2 : Hid (w2 = (w.alloc (Obj.cells #[.int .i64 en, .slice aa T.length ca] 26)).alloc (Obj.cells #[.int .i64 en, .slice ab T.length cb] 26)) := hw2
  clear ha hb hbl hx hy hw2
  have h1 : (en != en) = false := by simp
  go_enter Try.func11, Try.ntmps11
  go_wp2_with fail
  rw [← HW2.out]
  go_loopw [5] (fun x wr => ∃ i n : Nat, i ≤ T.length ∧ x = .int .i64 i ∧ wr = w2.drewN n) (fun x _ => T.length - (intOf x).toNat)
  case atStart => exact ⟨0, 0, by omega, rfl, rfl⟩
  case round =>
    obtain ⟨i, n, hi, rfl, rfl⟩ := hrel
    by_cases hlt : i < T.length
    · obtain ⟨ba, oa, c1, a1, p1, e1, hc1, hi1, hm1⟩ := HA.out.tab i hlt
      obtain ⟨bb, ob, c2, a2, p2, e2, hc2, hi2, hm2⟩ := HB.out.tab i hlt
      simp only [Value.slice.injEq] at e1 e2
      obtain ⟨rfl, -, rfl⟩ := e1
      obtain ⟨rfl, -, rfl⟩ := e2
      unfold maxLen at hm1 hm2
      have HI1 : Hid (In2 w2 (.slice a1 (T[i]).length p1) T[i]) := hi1
      have HI2 : Hid (In2 w2 (.slice a2 (T[i]).length p2) T[i]) := hi2
      clear hi1 hi2
      generalize T[i] = l at *
      have hdi : decide ((i : Int) < (T.length : Int)) = true := by rw [decide_eq_true_eq]; omega
      have hii : (i : Int) < (T.length : Int) := by omega
      have hll : ((l.length : Int) != (l.length : Int)) = false := by simp
      go_wp2_with fail
      go_quiet (fail)
      go_wp2_with fail
      go_loopw [6] (fun x wr => ∃ k n : Nat, k ≤ l.length ∧ x = .int .i64 k ∧ wr = w2.drewN n) (fun x _ => l.length - (intOf x).toNat)
      case atStart => exact ⟨0, _, by omega, rfl, World.drewN_drewN _ _ _⟩
      case round =>
        obtain ⟨k, nn, hk, rfl, rfl⟩ := hrel
        by_cases hkl : k < l.length
        · obtain ⟨b3, o3, c3, a3, p3, e3, hc3, hi3, hm3⟩ := HI1.out.row k hkl
          obtain ⟨b4, o4, c4, a4, p4, e4, hc4, hi4, hm4⟩ := HI2.out.row k hkl
          simp only [Value.slice.injEq] at e3 e4
          obtain ⟨rfl, -, rfl⟩ := e3
          obtain ⟨rfl, -, rfl⟩ := e4
          unfold maxLen at hm3 hm4
          have HSM : Hid (∀ z, Calls Try.prog 30 #[.slice a3 (l[k]).length p3, .slice a4 (l[k]).length p4] (w2.drewN (nn + z)) fun e w'' => e = .returned (.bool true) ∧ ∃ m, w'' = w2.drewN (nn + m)) := fun z => by
            have := quiet_on_draws (sameI_any (In1.is (hi3.later (Below.drewN (Below.refl _ _) (nn + z)))) (In1.is (hi4.later (Below.drewN (Below.refl _ _) (nn + z)))))
            rwa [decide_eq_true rfl] at this
          clear hi3 hi4
          generalize (l[k]).length = m at *
          have hkk : (k : Int) < (l.length : Int) := by omega
          have hdk : decide ((k : Int) < (l.length : Int)) = true := by rw [decide_eq_true_eq]; omega
          go_wp2_with fail
          go_quiet ((go_at_call 30; go_must (exact HSM.out _)))
          go_wp2_with fail
          go_roundw
          case rel => exact ⟨k + 1, _, by omega, by go_num, rfl⟩
          case measure => simp [intOf]; omega
        · have hdk : decide ((k : Int) < (l.length : Int)) = false := by rw [decide_eq_false_iff_not]; omega
          go_wp2_with fail
          go_roundw
          case rel => exact ⟨i + 1, _, by omega, by go_num, rfl⟩
          case measure => simp [intOf]; omega
    · have hdi : decide ((i : Int) < (T.length : Int)) = false := by rw [decide_eq_false_iff_not]; omega
      go_wp2_with fail
      go_ret
      exact ⟨rfl, Below.drewN HBL.out n⟩

end Go.Proofs.Ytjmjpdamhondkaa
