
/- isNarrowRow: whether a row's numbers fit. -/
import Derived.Test.YtjmjpdamhondkaaSigns4
namespace Go.Proofs.Ytjmjpdamhondkaa
set_option linter.unusedVariables false
set_option linter.unusedSimpArgs false
open Go.RowKit

theorem rowFits_no {t c : Nat} {l : List Int} (h : c < l.length) (hf : fitsR l[c] (widR t c 0) = false) : rowFits t 0 l = false := by
  cases e : rowFits t 0 l with
  | false => rfl
  | true =>
    have := rowFits_get t l 0 c h e
    rw [Nat.zero_add] at this
    rw [this] at hf; simp at hf
theorem rowFits_step {t c : Nat} {l : List Int} (h : c < l.length) (h0 : rowFits t 0 (l.take c) = true) (hf : fitsR l[c] (widR t c 0) = true) : rowFits t 0 (l.take (c + 1)) = true := by
  rw [List.take_succ_eq_append_getElem h, rowFits_append, h0]
  have : (l.take c).length = c := by simp; omega
  simp [this, rowFits, hf]

/-- Nothing below has turned, and the iterator in block k stands there. -/
theorem iter_next {w wr : World} {k : Nat} {s : ByteArray} {c d : Nat} (hb : Below k w wr) (hk : wr.heap[k]? = some (.stringIter s c)) : Below k w (wr.iterAt k s d) ∧ (wr.iterAt k s d).heap[k]? = some (.stringIter s d) :=
  ⟨Lib.below_iterAt hb (Nat.le_refl _) s d, Lib.iterAt_heap wr k s c d hk⟩

set_option maxHeartbeats 1000000 in
theorem narrowRow_any {w : World} {v : Value} {l : List Int} (t : Nat) (hv : In1 w v l) (hl : l.length = colsR t) (hr : ∀ x ∈ l, x < 9223372036854775808) :
    Calls Try.prog 43 #[.int .i64 (t : Int), v] w fun e w' => e = .returned (.bool (rowFits t 0 l)) ∧ Below w.heap.size w w' := by
  have HV : Hid (∀ W, Below w.heap.size w W → In1 W v l) := fun W hW => hv.later hW
  obtain ⟨a, cp, rfl, hc1, hc2⟩ := hv.shape
  unfold maxLen at hc2
  have HR : Hid (∀ x ∈ l, x < 9223372036854775808) := hr
  clear hv hr
  generalize hll : l.length = ll at *
  have HLL : Hid (l.length = ll) := hll
  have HL : Hid (ll = colsR t) := hl
  clear hll hl
  go_enter Try.func43, Try.ntmps43
  go_wp2_with (go_at_call 37; refine (signs_any _ _).mono ?_; rintro e wz ⟨rfl, hz⟩; subst wz)
  go_loopw [5] (fun _ wr => ∃ c : Nat, c ≤ ll ∧ Below w.heap.size w wr ∧ wr.heap[w.heap.size]? = some (.stringIter (sgB (t : Int)) c) ∧ rowFits t 0 (l.take c) = true) (fun _ wr => ll - wr.iterPos w.heap.size)
  case atStart => exact ⟨0, Nat.zero_le _, (Below.refl _ _).alloc (Nat.le_refl _) _, World.iter_heap _ _ _, by simp [rowFits]⟩
  case round =>
    obtain ⟨c, hcl, hb, hit, hrf⟩ := hrel
    have HB : Hid (Below w.heap.size w wr) := hb
    have HRF : Hid (rowFits t 0 (l.take c) = true) := hrf
    have hmp : wr.iterPos w.heap.size = c := by simp [World.iterPos, hit]
    have HMP : Hid (wr.iterPos w.heap.size = c) := hmp
    clear hb hrf hmp
    by_cases hlt : c < ll
    · obtain ⟨s, hs, hnx⟩ := next_sign (P := Try.prog) wr w.heap.size t c hit (by have := HL.out; omega)
      obtain ⟨hb2, hit2⟩ := iter_next (d := c + 1) HB.out hit
      have HB2 : Hid (Below w.heap.size w (wr.iterAt w.heap.size (sgB (t : Int)) (c + 1))) := hb2
      have HI2 : Hid ((wr.iterAt w.heap.size (sgB (t : Int)) (c + 1)).heap[w.heap.size]? = some (.stringIter (sgB (t : Int)) (c + 1))) := hit2
      clear hb2 hit2 hit
      have hin := HV.out _ HB2.out
      obtain ⟨a', cp', he, _, _, h3⟩ := hin
      simp only [Value.slice.injEq] at he
      obtain ⟨rfl, -, rfl⟩ := he
      have hlc : c < l.length := by rw [HLL.out]; exact hlt
      obtain ⟨b, off, rfl, hbl, hcell⟩ := h3 (by intro e; rw [List.map_eq_nil_iff] at e; subst e; simp at hlc)
      have hcl2 := hcell c (by simpa using hlc)
      rw [List.getElem_map] at hcl2
      have hx := HR.out l[c] (List.getElem_mem _)
      have hs0 := hs 0 (by omega)
      clear h3 hcell hs
      have hw := widR_cases t c 0
      have HF0 : Hid (fitsR l[c] (widR t c 0) = false → rowFits t 0 l = false) := fun h => rowFits_no hlc h
      have HF1 : Hid (fitsR l[c] (widR t c 0) = true → rowFits t 0 (l.take (c + 1)) = true) := fun h => rowFits_step hlc HRF.out h
      have HW : Hid (∀ W, Calls Try.prog 45 #[.int .i32 s, .int .u64 0] W fun e w' => e = .returned (.int .i64 (widR t c 0 : Int)) ∧ w' = W) := fun W => by
        have := width_any s 0 (by omega) W
        rw [hs0] at this
        exact this
      have HFT : Hid (∀ W, Calls Try.prog 42 #[.int .i64 l[c], .int .i64 (widR t c 0 : Int)] W fun e w' => e = .returned (.bool (fitsR l[c] (widR t c 0))) ∧ w' = W) := fun W => fits4_any _ _ hw hx W
      clear hs0 hx
      generalize l[c] = x at *
      generalize widR t c 0 = wd at *
      generalize hwn : wr.iterAt w.heap.size (sgB (t : Int)) (c + 1) = wn at *
      clear hwn
      cases hfx : fitsR x wd with
      | false =>
        rw [hfx] at HF0 HFT
        go_wp2_with fail
        go_quiet (first | (go_at_call 45; go_must (exact Calls.quiet_of_same (HW.out _))) | (go_at_call 42; go_must (exact Calls.quiet_of_same (HFT.out _))))
        go_wp2_with fail
        go_ret
        exact ⟨ret_bool (HF0.out trivial).symm, Below.drewN HB2.out _⟩
      | true =>
        rw [hfx] at HF1 HFT
        go_wp2_with fail
        go_quiet (first | (go_at_call 45; go_must (exact Calls.quiet_of_same (HW.out _))) | (go_at_call 42; go_must (exact Calls.quiet_of_same (HFT.out _))))
        go_wp2_with fail
        go_roundw
        case rel => exact ⟨c + 1, by omega, Below.drewN HB2.out _, HI2.out, HF1.out trivial⟩
        case measure =>
          have h1 : (wn.drewN nq).iterPos w.heap.size = c + 1 := by simp [World.iterPos, HI2.out]
          rw [HMP.out, h1]; omega
    · have hnx := fun ty => next_done (P := Try.prog) wr w.heap.size t c hit (by have := HL.out; omega) ty
      have HF : Hid (rowFits t 0 l = true) := by
        have := HRF.out
        rw [List.take_of_length_le (by have := HLL.out; omega)] at this
        exact this
      go_wp2_with fail
      go_ret
      exact ⟨ret_bool HF.out.symm, HB.out⟩

end Go.Proofs.Ytjmjpdamhondkaa
