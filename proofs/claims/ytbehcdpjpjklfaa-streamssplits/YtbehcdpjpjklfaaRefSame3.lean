
/- Same of the references, of streams that are alike; long of the statements. -/
import Derived.Test.YtbehcdpjpjklfaaRows
import Derived.Test.YtbehcdpjpjklfaaParts
namespace Go.Proofs.Ytbehcdpjpjklfaa
set_option linter.unusedVariables false
set_option linter.unusedSimpArgs false
open Go.RowKit
attribute [local go_sem ↓] Go.wp_at_zero Go.wp_at_succ

set_option maxRecDepth 100000 in
set_option maxHeartbeats 1000000 in
theorem refSame_yes {va vb : Value} {s : Strm} {w : World} (ha : Sv w va s) (hb : Sv w vb s) :
    Calls Try.prog 12 #[va, vb] w fun e w' => e = .returned (.bool true) ∧ Below w.heap.size w w' := by
  obtain ⟨p0, p1, p2, p3, rfl, h0, h1, h2, h3⟩ := ha
  obtain ⟨q0, q1, q2, q3, rfl, g0, g1, g2, g3⟩ := hb
  have HA : Hid (∀ k, Bs w (pickV k p0 p1 p2 p3) (s.part k)) := fun k => pickV_bs h0 h1 h2 h3 k
  have HB : Hid (∀ k, Bs w (pickV k q0 q1 q2 q3) (s.part k)) := fun k => pickV_bs g0 g1 g2 g3 k
  obtain ⟨a0, c0, rfl, -⟩ := h0
  obtain ⟨a1, c1, rfl, -⟩ := h1
  obtain ⟨a2, c2, rfl, -⟩ := h2
  obtain ⟨a3, c3, rfl, -⟩ := h3
  obtain ⟨b0, d0, rfl, -⟩ := g0
  obtain ⟨b1, d1, rfl, -⟩ := g1
  obtain ⟨b2, d2, rfl, -⟩ := g2
  obtain ⟨b3, d3, rfl, -⟩ := g3
  have HP : Hid (∀ k, s.part k = s.part k) := fun k => rfl
  have HS : Hid (∃ l : Nat → List UInt8, l = s.part) := ⟨_, rfl⟩
  generalize s.r.length = l0 at *
  generalize s.n.length = l1 at *
  generalize s.b.length = l2 at *
  generalize s.c.length = l3 at *
  generalize s.part = pt at *
  clear HP HS
  go_enter Try.func12, Try.ntmps12
  go_wp2_with fail
  go_loopw [5] (fun i wr => ∃ k : Nat, k ≤ 4 ∧ i = .int .i64 k ∧ Below (w.heap.size + 2) ((w.alloc (Obj.cells #[.slice a0 l0 c0, .slice a1 l1 c1, .slice a2 l2 c2, .slice a3 l3 c3] 25)).alloc (Obj.cells #[.slice b0 l0 d0, .slice b1 l1 d1, .slice b2 l2 d2, .slice b3 l3 d3] 25)) wr) (fun i _ => 4 - (intOf i).toNat)
  case atStart => exact ⟨0, by omega, rfl, Below.refl _ _⟩
  case round =>
    obtain ⟨k, hk, rfl, hbel⟩ := hrel
    have HW : Hid (Below w.heap.size w wr) := (((Below.refl _ _).alloc (Nat.le_refl _) _).alloc (by simp) _).trans (hbel.mono (by omega))
    have HBL : Hid (Below (w.heap.size + 2) ((w.alloc (Obj.cells #[.slice a0 l0 c0, .slice a1 l1 c1, .slice a2 l2 c2, .slice a3 l3 c3] 25)).alloc (Obj.cells #[.slice b0 l0 d0, .slice b1 l1 d1, .slice b2 l2 d2, .slice b3 l3 d3] 25)) wr) := hbel
    have hsz := hbel.size
    simp only [World.size_alloc] at hsz
    have e1 : wr.heap[w.heap.size]? = some (Obj.cells #[.slice a0 l0 c0, .slice a1 l1 c1, .slice a2 l2 c2, .slice a3 l3 c3] 25 (0, 0)) := by
      rw [hbel.block _ (by omega), heap_alloc_old _ _ (by simp)]; exact heap_alloc_new w _
    have e2 : wr.heap[w.heap.size + 1]? = some (Obj.cells #[.slice b0 l0 d0, .slice b1 l1 d1, .slice b2 l2 d2, .slice b3 l3 d3] 25 (0, 0)) := by
      rw [hbel.block _ (by omega)]
      have := heap_alloc_new (w.alloc (Obj.cells #[.slice a0 l0 c0, .slice a1 l1 c1, .slice a2 l2 c2, .slice a3 l3 c3] 25)) (Obj.cells #[.slice b0 l0 d0, .slice b1 l1 d1, .slice b2 l2 d2, .slice b3 l3 d3] 25)
      simpa using this
    have k0 : wr.cell? ⟨w.heap.size, 0, none⟩ = some (.slice a0 l0 c0) := by simp [World.cell?, e1]
    have k1 : wr.cell? ⟨w.heap.size, 1, none⟩ = some (.slice a1 l1 c1) := by simp [World.cell?, e1]
    have k2 : wr.cell? ⟨w.heap.size, 2, none⟩ = some (.slice a2 l2 c2) := by simp [World.cell?, e1]
    have k3 : wr.cell? ⟨w.heap.size, 3, none⟩ = some (.slice a3 l3 c3) := by simp [World.cell?, e1]
    have j0 : wr.cell? ⟨w.heap.size + 1, 0, none⟩ = some (.slice b0 l0 d0) := by simp [World.cell?, e2]
    have j1 : wr.cell? ⟨w.heap.size + 1, 1, none⟩ = some (.slice b1 l1 d1) := by simp [World.cell?, e2]
    have j2 : wr.cell? ⟨w.heap.size + 1, 2, none⟩ = some (.slice b2 l2 d2) := by simp [World.cell?, e2]
    have j3 : wr.cell? ⟨w.heap.size + 1, 3, none⟩ = some (.slice b3 l3 d3) := by simp [World.cell?, e2]
    have n1 := World.new_ne wr ⟨w.heap.size, 0, none⟩ k0
    have n2 := World.new_ne wr ⟨w.heap.size + 1, 0, none⟩ j0
    clear e1 e2 hbel
    by_cases hlt : k < 4
    · have hp := HA.out k
      have hq := HB.out k
      have HPQ : Hid (∀ W, Below w.heap.size w W → Calls Try.prog 13 #[pickV k (.slice a0 l0 c0) (.slice a1 l1 c1) (.slice a2 l2 c2) (.slice a3 l3 c3), pickV k (.slice b0 l0 d0) (.slice b1 l1 d1) (.slice b2 l2 d2) (.slice b3 l3 d3)] W fun e w' => e = .returned (.bool true) ∧ ∃ n, w' = W.drewN n) := fun W hW => by
        have := same_any (hp.later hW) (hq.later hW)
        simpa using this
      clear hp hq
      go_wp2_with fail
      go_region_held3 (fun w' => w'.cell? ⟨w.heap.size, 0, none⟩ = some (.slice a0 l0 c0) ∧ w'.cell? ⟨w.heap.size, 1, none⟩ = some (.slice a1 l1 c1) ∧ w'.cell? ⟨w.heap.size, 2, none⟩ = some (.slice a2 l2 c2) ∧ w'.cell? ⟨w.heap.size, 3, none⟩ = some (.slice a3 l3 c3) ∧ w'.cell? ⟨w.heap.size + 1, 0, none⟩ = some (.slice b0 l0 d0) ∧ w'.cell? ⟨w.heap.size + 1, 1, none⟩ = some (.slice b1 l1 d1) ∧ w'.cell? ⟨w.heap.size + 1, 2, none⟩ = some (.slice b2 l2 d2) ∧ w'.cell? ⟨w.heap.size + 1, 3, none⟩ = some (.slice b3 l3 d3)) (go_keep)
        (first
          | (go_at_call 27; refine (part_run _ _ _ _ _ _ _ _ _ _ _ _ k hlt _).mono ?_; rintro e w' ⟨rfl, rfl⟩)
          | (go_at_call 13; refine (HPQ.out _ ?_).mono ?_; (exact Below.alloc (Below.alloc (Below.drewN HW.out _) (by simp; omega) _) (by simp; omega) _); rintro e w' ⟨rfl, nq, rfl⟩))
      go_wp2_with fail
      go_roundw
      case rel => exact ⟨k + 1, by omega, by go_num, Below.drewN (Below.alloc (Below.alloc HBL.out (by omega) _) (by simp; omega) _) _⟩
      case measure => simp [intOf]; omega
    · go_wp2_with fail
      go_ret
      exact ⟨rfl, HW.out⟩

/-- A stream longer than a statement takes. -/
def longS (s : Strm) : Bool := decide (2000 < s.r.length) || decide (2000 < s.n.length) || decide (2000 < s.b.length) || decide (2000 < s.c.length)
theorem longS_no {s : Strm} (h : longS s = false) : s.r.length ≤ 2000 ∧ s.n.length ≤ 2000 ∧ s.b.length ≤ 2000 ∧ s.c.length ≤ 2000 := by
  simp [longS] at h; omega

set_option maxHeartbeats 1000000 in
theorem long3_any {v : Value} {s : Strm} {w : World} (h : Sv w v s) :
    Calls Try.prog 14 #[v] w fun e w' => e = .returned (.bool (longS s)) ∧ Below w.heap.size w w' := by
  obtain ⟨p0, p1, p2, p3, rfl, h0, h1, h2, h3⟩ := h
  obtain ⟨a0, c0, rfl, x0, y0, -⟩ := h0
  obtain ⟨a1, c1, rfl, x1, y1, -⟩ := h1
  obtain ⟨a2, c2, rfl, x2, y2, -⟩ := h2
  obtain ⟨a3, c3, rfl, x3, y3, -⟩ := h3
  unfold longS
  unfold maxLen at *
  generalize s.r.length = l0 at *
  generalize s.n.length = l1 at *
  generalize s.b.length = l2 at *
  generalize s.c.length = l3 at *
  go_enter Try.func14, Try.ntmps14
  go_wp2_with fail
  all_goals (go_ret; refine ⟨ret_bool ?_, (Below.refl _ _).alloc (Nat.le_refl _) _⟩)
  all_goals (rw [Bool.eq_iff_iff]; simp only [Bool.or_eq_true, decide_eq_true_eq, true_iff]; omega)

end Go.Proofs.Ytbehcdpjpjklfaa
