
/- Sorting links that lie in order leaves them as they are. -/
import Derived.Test.YtbfcdcdeohikpaaLinks9
namespace Go.Proofs.Ytbfcdcdeohikpaa
set_option linter.unusedVariables false
set_option linter.unusedSimpArgs false
open Go.RowKit
attribute [local go_sem ↓] Go.wp_at_zero Go.wp_at_succ

/-- Links in order, their numbers small. -/
def InOrd (L : List Lk) : Prop := (∀ x ∈ L, SmL x) ∧ ∀ q (h : q + 1 < L.length), 0 ≤ bysI L[q + 1] L[q]

set_option maxHeartbeats 4000000 in
theorem insertion_some {b off cap : Nat} {L : List Lk} {w : World} (hb : b < w.heap.size) (hc : ∀ i (hi : i < L.length), El lkE w b (off + i * 4) L[i]) (hl : L.length ≤ 20) (hcap : L.length ≤ cap) (hm : cap ≤ maxLen) (ho : InOrd L) :
    Calls Try.prog 78 #[.slice (some ⟨b, off, none⟩) L.length cap, .int .i64 0, .int .i64 (L.length : Int), .func (.func 37) #[] #[]] w fun e w' => e = .returned (.tuple #[]) ∧ Below w.heap.size w w' := by
  unfold maxLen at hm
  have HC : Hid (∀ i (hi : i < L.length), ∀ W, Below w.heap.size w W → Four9 W b (off + i * 4) L[i]) := fun i hi W hW => ((hc i hi).below hW hb).four
  have HO : Hid (InOrd L) := ho
  clear hc ho
  go_enter Try.func78, Try.ntmps78
  go_wp2_with fail
  go_loopw [8] (fun z wr => ∃ q : Nat, q ≤ L.length ∧ z = .int .i64 ((q : Int) + 1) ∧ Below w.heap.size w wr) (fun z _ => L.length + 1 - (intOf z).toNat)
  case atStart => exact ⟨0, Nat.zero_le _, rfl, Below.refl _ _⟩
  case round =>
    obtain ⟨q, hq, rfl, hB⟩ := hrel
    have HBL : Hid (Below w.heap.size w wr) := hB
    by_cases hql : q + 1 < L.length
    · have hqi : (q : Int) + 1 < (L.length : Int) := by omega
      have HCx : Hid (∀ W, Below w.heap.size w W → Four9 W b (off + (q + 1) * 4) L[q + 1]) := HC.out (q + 1) hql
      have HCy : Hid (∀ W, Below w.heap.size w W → Four9 W b (off + q * 4) L[q]) := HC.out q (by omega)
      have h1 : Hid (0 ≤ bysI L[q + 1] L[q]) := HO.out.2 q hql
      have h2 : Hid (SmL L[q + 1]) := HO.out.1 _ (List.getElem_mem hql)
      have h3 : Hid (SmL L[q]) := HO.out.1 _ (List.getElem_mem (by omega))
      generalize L[q + 1] = x at *
      generalize L[q] = y at *
      have HS : Hid (∀ W, Below w.heap.size w W → Four9 W b (off + (q + 1) * 4) x ∧ Four9 W b (off + q * 4) y) := fun W hW => ⟨HCx.out W hW, HCy.out W hW⟩
      obtain ⟨⟨c0, c1, c2, c3⟩, d0, d1, d2, d3⟩ := HS.out wr hB
      have HBy : Hid (∀ W, Calls Try.prog 37 #[.agg #[.int .i64 x.1, .int .i64 x.2.1, .int .i64 x.2.2.1, .int .i64 x.2.2.2], .agg #[.int .i64 y.1, .int .i64 y.2.1, .int .i64 y.2.2.1, .int .i64 y.2.2.2]] W fun e w' => e = .returned (.int .i64 (bysI x y)) ∧ Below W.heap.size W w') := fun W => bySize_any x y h2.out h3.out W
      have e1 : IntKind.i64.wrap (q : Int) = (q : Int) := by simp [IntKind.wrap, IntKind.bits, IntKind.signed]; omega
      have n0 : (0 : Int) ≤ (q : Int) + 1 := by omega
      have n1 : (0 : Int) ≤ (q : Int) := by omega
      have n2 : (q : Int) < (L.length : Int) := by omega
      have n3 : ((q : Int) + 1).toNat = q + 1 := by omega
      generalize bysI x y = z at *
      have hz := h1.out
      clear hB
      go_wp2_with fail
      refine wp_loop_rounds 1 ?_; rw [rounds_succ]
      go_wp2_with fail
      go_region_held3 (fun w' => (w'.cell? ⟨b, off + (q + 1) * 4, none⟩ = some (.int .i64 x.1) ∧ w'.cell? ⟨b, off + (q + 1) * 4 + 1, none⟩ = some (.int .i64 x.2.1) ∧ w'.cell? ⟨b, off + (q + 1) * 4 + 2, none⟩ = some (.int .i64 x.2.2.1) ∧ w'.cell? ⟨b, off + (q + 1) * 4 + 3, none⟩ = some (.int .i64 x.2.2.2)) ∧ (w'.cell? ⟨b, off + q * 4, none⟩ = some (.int .i64 y.1) ∧ w'.cell? ⟨b, off + q * 4 + 1, none⟩ = some (.int .i64 y.2.1) ∧ w'.cell? ⟨b, off + q * 4 + 2, none⟩ = some (.int .i64 y.2.2.1) ∧ w'.cell? ⟨b, off + q * 4 + 3, none⟩ = some (.int .i64 y.2.2.2)))
        (first | (exact HS.out _ (bstep HBL.out (bdrew _))) | (exact HS.out _ (bstep HBL.out (bstep (bdrew _) hb1))))
        (first | (go_at_call 37; refine (HBy.out _).mono ?_; rintro e w1 ⟨rfl, hb1⟩))
      rename_i hheld
      clear hheld
      have HB1 : Hid (Below w.heap.size w w1) := bstep HBL.out (bstep (bdrew _) hb1)
      clear hb1 c0 c1 c2 c3 d0 d1 d2 d3
      go_wp2_with fail
      go_roundw
      case rel => exact ⟨q + 1, by omega, by go_num, HB1.out⟩
      case measure => simp [intOf]; omega
    · have hqi : ¬ (q : Int) + 1 < (L.length : Int) := by omega
      go_wp2
      go_end0
      exact ⟨rfl, HBL.out⟩

theorem insertion_none (a : Option Addr) (cap : Nat) (f : Value) (w : World) :
    Calls Try.prog 78 #[.slice a 0 cap, .int .i64 0, .int .i64 0, f] w fun e w' => e = .returned (.tuple #[]) ∧ w' = w := by
  go_enter Try.func78, Try.ntmps78
  go_wp2
  refine wp_loop_rounds 1 ?_; rw [rounds_succ]
  go_wp2
  go_end0
  exact ⟨rfl, rfl⟩

theorem insertion_any {v : Value} {L : List Lk} {w : World} (h : Es lkE w v L) (hl : L.length ≤ 19) (ho : InOrd L) :
    Calls Try.prog 78 #[v, .int .i64 0, .int .i64 (L.length : Int), .func (.func 37) #[] #[]] w fun e w' => e = .returned (.tuple #[]) ∧ Below w.heap.size w w' := by
  by_cases hne : L = []
  · subst hne
    obtain ⟨a, c, rfl, _, _⟩ := h.shape
    refine (insertion_none a c _ w).mono ?_
    rintro e w' ⟨rfl, rfl⟩
    exact ⟨rfl, Below.refl _ _⟩
  · obtain ⟨b, off, cap, rfl, h1, h2, hb, hc⟩ := h.parts hne
    exact insertion_some hb hc (by omega) h1 h2 ho

theorem stable_any {v : Value} {L : List Lk} {w : World} (h : Es lkE w v L) (hl : L.length ≤ 19) (ho : InOrd L) :
    Calls Try.prog 65 #[v, .int .i64 (L.length : Int), .func (.func 37) #[] #[]] w fun e w' => e = .returned (.tuple #[]) ∧ Below w.heap.size w w' := by
  have HI : Hid (Calls Try.prog 78 #[v, .int .i64 0, .int .i64 (L.length : Int), .func (.func 37) #[] #[]] w fun e w' => e = .returned (.tuple #[]) ∧ Below w.heap.size w w') := insertion_any h hl ho
  have h20 : ¬ (20 : Int) ≤ (L.length : Int) := by omega
  have h20' : ¬ (20 : Int) < (L.length : Int) := by omega
  clear h ho
  go_enter Try.func65, Try.ntmps65
  go_wp2_with fail
  refine wp_loop_rounds 1 ?_; rw [rounds_succ]
  go_wp2_with fail
  refine Calls.mono HI.out ?_
  rintro e w1 ⟨rfl, hb1⟩
  have HB1 : Hid (Below w.heap.size w w1) := hb1
  clear hb1
  go_wp2_with fail
  refine wp_loop_rounds 1 ?_; rw [rounds_succ]
  go_wp2_with fail
  go_end0
  exact ⟨rfl, HB1.out⟩

theorem sort_any {v : Value} {L : List Lk} {w : World} (h : Es lkE w v L) (hl : L.length ≤ 19) (ho : InOrd L) :
    Calls Try.prog 36 #[v, .func (.func 37) #[] #[]] w fun e w' => e = .returned (.tuple #[]) ∧ Below w.heap.size w w' := by
  have HI : Hid (Calls Try.prog 65 #[v, .int .i64 (L.length : Int), .func (.func 37) #[] #[]] w fun e w' => e = .returned (.tuple #[]) ∧ Below w.heap.size w w') := stable_any h hl ho
  obtain ⟨a, c, rfl, _, _⟩ := h.shape
  clear h ho
  go_enter Try.func36, Try.ntmps36
  go_wp2_with fail
  refine Calls.mono HI.out ?_
  rintro e w1 ⟨rfl, hb1⟩
  have HB1 : Hid (Below w.heap.size w w1) := hb1
  clear hb1
  go_wp2_with fail
  go_end0
  exact ⟨rfl, HB1.out⟩

end Go.Proofs.Ytbfcdcdeohikpaa
