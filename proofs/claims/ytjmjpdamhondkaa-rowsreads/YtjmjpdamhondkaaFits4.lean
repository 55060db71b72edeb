
/- isNarrow: whether all numbers of tables fit. -/
import Derived.Test.YtjmjpdamhondkaaShape4
namespace Go.Proofs.Ytjmjpdamhondkaa
set_option linter.unusedVariables false
set_option linter.unusedSimpArgs false
open Go.RowKit

/-- All numbers are some that an int holds. -/
def SmallT (T : List (List (List Int))) : Prop := ∀ l ∈ T, ∀ row ∈ l, ∀ x ∈ row, x < 9223372036854775808

theorem fitsR_len (n : Nat) : fitsR (n : Int) 2 = decide (n < 65536) := by
  unfold fitsR
  rw [Bool.eq_iff_iff]; simp; omega

theorem box2 {w : World} {g : Nat} {x y : Value} {t : TypeId} (h : w.heap[g]? = some (Obj.cells #[x, y] t (0, 0))) : w.cell? ⟨g, 0, none⟩ = some x ∧ w.cell? ⟨g, 1, none⟩ = some y := by
  refine ⟨?_, ?_⟩ <;> simp [World.cell?, h]

set_option maxHeartbeats 1000000 in
theorem narrow_any {w : World} {v : Value} {T : List (List (List Int))} (entry : Int) (hv : In3 w v T) (h6 : T.length = 6) (hsh : shaped 0 T = true) (hsm : SmallT T) (hen : entry < 9223372036854775808) :
    Calls Try.prog 32 #[.agg #[.int .i64 entry, v]] w fun e w' => e = .returned (.bool (fitsR entry 2 && fitting 0 T)) ∧ Below w.heap.size w w' := by
  have HV : Hid (∀ W, Below w.heap.size w W → In3 W v T) := fun W hW => hv.later hW
  have H6 : Hid (T.length = 6) := h6
  have HSH : Hid (∀ i (hi : i < T.length), ∀ row ∈ T[i], row.length = colsR i) := fun i hi row hr => by
    have := shaped_get T 0 i hi hsh row hr
    rwa [Nat.zero_add] at this
  have HSM : Hid (∀ i (hi : i < T.length), ∀ row ∈ T[i], ∀ x ∈ row, x < 9223372036854775808) := fun i hi row hr => hsm _ (List.getElem_mem _) row hr
  obtain ⟨b, off, c, -, -, rfl, -⟩ := In3.tab hv 0 (by omega)
  rw [h6] at HV ⊢
  clear hv h6 hsh hsm
  go_enter Try.func32, Try.ntmps32
  go_wp2_with fail
  go_loopw [10] (fun x wr => ∃ i : Nat, i ≤ 6 ∧ x = .int .i64 i ∧ Below w.heap.size w wr ∧ wr.heap[w.heap.size]? = some (Obj.cells #[.int .i64 entry, .slice (some ⟨b, off, none⟩) 6 c] 26 (0, 0)) ∧ ∀ j (h : j < T.length), j < i → T[j].length < 65536 ∧ ∀ row ∈ T[j], rowFits j 0 row = true) (fun x _ => 6 - (intOf x).toNat)
  case atStart => exact ⟨0, by omega, rfl, (Below.refl _ _).alloc (Nat.le_refl _) _, heap_alloc_new _ _, fun j _ h => by omega⟩
  case round =>
    obtain ⟨i, hi, rfl, hb, hbx, hd⟩ := hrel
    have HB : Hid (Below w.heap.size w wr) := hb
    have HBX : Hid (wr.heap[w.heap.size]? = some (Obj.cells #[.int .i64 entry, .slice (some ⟨b, off, none⟩) 6 c] 26 (0, 0))) := hbx
    have HD : Hid (∀ j (h : j < T.length), j < i → T[j].length < 65536 ∧ ∀ row ∈ T[j], rowFits j 0 row = true) := hd
    clear hb hbx hd
    by_cases hlt : i < 6
    · have hiT : i < T.length := by have := H6.out; omega
      obtain ⟨b', off', c', a1, cp1, he, hcell, hin, hlm⟩ := In3.tab (HV.out wr HB.out) i hiT
      simp only [Value.slice.injEq, Option.some.injEq, Addr.mk.injEq, and_true] at he
      obtain ⟨⟨rfl, rfl⟩, -, rfl⟩ := he
      unfold maxLen at hlm
      obtain ⟨l, hl⟩ : ∃ l, l = T[i] := ⟨_, rfl⟩
      have HTL : Hid (l = T[i]) := hl
      have HIN : Hid (∀ W, Below wr.heap.size wr W → In2 W (.slice a1 (T[i]).length cp1) T[i]) := fun W hW => hin.later hW
      clear hin
      rw [← hl] at hcell HIN hlm
      clear hl
      have hd6 : decide ((i : Int) < 6) = true := by rw [decide_eq_true_eq]; omega
      have HFL : Hid (∀ W, Calls Try.prog 42 #[.int .i64 (l.length : Int), .int .i64 2] W fun e w' => e = .returned (.bool (decide (l.length < 65536))) ∧ w' = W) := fun W => by
        have := fits4_any (l.length : Int) 2 (.inl rfl) (by omega) W
        rw [fitsR_len] at this
        exact this
      by_cases hfl : l.length < 65536
      · rw [decide_eq_true hfl] at HFL
        go_wp2_with (go_at_call 42; refine (HFL.out _).mono ?_; rintro e wz ⟨rfl, hz⟩; subst wz)
        obtain ⟨wo, rfl⟩ : ∃ wo, wo = wr := ⟨_, rfl⟩
        have hso := HB.out.size
        have hsx := (Array.getElem?_eq_some_iff.1 HBX.out).1
        go_loopw [21] (fun x wq => ∃ k : Nat, k ≤ l.length ∧ x = .int .i64 k ∧ Below wo.heap.size wo wq ∧ ∀ row ∈ l.take k, rowFits i 0 row = true) (fun x _ => l.length - (intOf x).toNat)
        case atStart => exact ⟨0, by omega, rfl, Below.refl _ _, by simp⟩
        case round =>
          obtain ⟨k, hk, rfl, hbq, hr⟩ := hrel
          have HBQ : Hid (Below wo.heap.size wo wr) := hbq
          have HR : Hid (∀ row ∈ l.take k, rowFits i 0 row = true) := hr
          have hsq := hbq.size
          clear hbq hr
          by_cases hkl : k < l.length
          · obtain ⟨b2, off2, c2, a2, cp2, he2, hcell2, hin2, hlm2⟩ := (HIN.out wr HBQ.out).row k hkl
            simp only [Value.slice.injEq] at he2
            obtain ⟨rfl, -, rfl⟩ := he2
            unfold maxLen at hlm2
            have hm : l[k] ∈ T[i] := by have := HTL.out; simp only [← this]; exact List.getElem_mem _
            have HNR : Hid (Calls Try.prog 43 #[.int .i64 (i : Int), .slice a2 (l[k]).length cp2] wr fun e w' => e = .returned (.bool (rowFits i 0 l[k])) ∧ Below wr.heap.size wr w') := narrowRow_any i hin2 (HSH.out i hiT _ hm) (HSM.out i hiT _ hm)
            have HF0 : Hid (rowFits i 0 l[k] = false → fitting 0 T = false) := fun h => fitting_no hiT (.inr ⟨_, hm, h⟩)
            have HF1 : Hid (rowFits i 0 l[k] = true → ∀ row ∈ l.take (k + 1), rowFits i 0 row = true) := fun h row hrw => by
              rw [List.take_succ_eq_append_getElem hkl] at hrw
              rcases List.mem_append.1 hrw with h' | h'
              · exact HR.out row h'
              · simp at h'; subst h'; exact h
            clear hin2 hm
            generalize rowFits i 0 l[k] = rf at *
            generalize (l[k]).length = m at *
            cases rf with
            | false =>
              go_wp2_with fail
              refine HNR.out.mono ?_
              rintro e w3 ⟨rfl, hb3⟩
              have HB3 : Hid (Below w.heap.size w w3) := HB.out.trans ((HBQ.out.trans (hb3.mono hsq)).mono hso)
              clear hb3
              go_wp2_with fail
              go_ret
              exact ⟨ret_bool (by rw [HF0.out trivial]; simp), HB3.out⟩
            | true =>
              go_wp2_with fail
              refine HNR.out.mono ?_
              rintro e w3 ⟨rfl, hb3⟩
              have HB3 : Hid (Below wo.heap.size wo w3) := HBQ.out.trans (hb3.mono hsq)
              clear hb3
              go_wp2_with fail
              go_roundw
              case rel => exact ⟨k + 1, by omega, by go_num, HB3.out, HF1.out trivial⟩
              case measure => simp [intOf]; omega
          · have HD2 : Hid (∀ j (h : j < T.length), j < i + 1 → T[j].length < 65536 ∧ ∀ row ∈ T[j], rowFits j 0 row = true) := by
              intro j h hj
              by_cases hji : j < i
              · exact HD.out j h hji
              · have : j = i := by omega
                subst this
                have e := HTL.out
                refine ⟨by rw [← e]; exact hfl, fun row hr => HR.out row ?_⟩
                rw [List.take_of_length_le (by omega), e]; exact hr
            have hdk : decide ((k : Int) < (l.length : Int)) = false := by rw [decide_eq_false_iff_not]; omega
            go_wp2_with fail
            go_roundw
            case rel => exact ⟨i + 1, by omega, by go_num, HB.out.trans (HBQ.out.mono hso), (HBQ.out.block _ hsx).trans HBX.out, HD2.out⟩
            case measure => simp [intOf]; omega
      · rw [decide_eq_false hfl] at HFL
        have HF : Hid (fitting 0 T = false) := fitting_no hiT (.inl (by have := HTL.out; rw [← this]; omega))
        go_wp2_with (go_at_call 42; refine (HFL.out _).mono ?_; rintro e wz ⟨rfl, hz⟩; subst wz)
        go_ret
        exact ⟨ret_bool (by rw [HF.out]; simp), HB.out⟩
    · have HF : Hid (fitting 0 T = true) := fitting_of T 0 fun j h => by
        have := HD.out j h (by have := H6.out; omega)
        rwa [Nat.zero_add]
      have hd6 : decide ((i : Int) < 6) = false := by rw [decide_eq_false_iff_not]; omega
      obtain ⟨x0, x1⟩ := box2 HBX.out
      go_wp2_with (go_at_call 42; refine (fits4_any entry 2 (.inl rfl) hen _).mono ?_; rintro e wz ⟨rfl, hz⟩; subst wz)
      go_ret
      exact ⟨ret_bool (by rw [HF.out]; simp), HB.out⟩

end Go.Proofs.Ytjmjpdamhondkaa
