
/- isShaped and isNarrow: whether tables have their shape, and whether their numbers fit. -/
import Derived.Test.YtjmjpdamhondkaaNarrow4
namespace Go.Proofs.Ytjmjpdamhondkaa
set_option linter.unusedVariables false
set_option linter.unusedSimpArgs false
open Go.RowKit

theorem shaped_of : ∀ (T : List (List (List Int))) (t : Nat), (∀ j (h : j < T.length), ∀ row ∈ T[j], row.length = colsR (t + j)) → shaped t T = true
  | [], t, _ => rfl
  | l :: r, t, h => by
    simp only [shaped, Bool.and_eq_true, List.all_eq_true, decide_eq_true_eq]
    refine ⟨fun row hr => by simpa using h 0 (by simp) row hr, shaped_of r (t + 1) fun j hj row hr => ?_⟩
    have := h (j + 1) (by simpa using hj) row (by simpa using hr)
    rw [this]; congr 1; omega
theorem shaped_no {T : List (List (List Int))} {j : Nat} (h : j < T.length) {row : List Int} (hr : row ∈ T[j]) (hn : row.length ≠ colsR j) : shaped 0 T = false := by
  cases e : shaped 0 T with
  | false => rfl
  | true =>
    have := shaped_get T 0 j h e row hr
    rw [Nat.zero_add] at this
    exact absurd this hn
theorem fitting_of : ∀ (T : List (List (List Int))) (t : Nat), (∀ j (h : j < T.length), T[j].length < 65536 ∧ ∀ row ∈ T[j], rowFits (t + j) 0 row = true) → fitting t T = true
  | [], t, _ => rfl
  | l :: r, t, h => by
    simp only [fitting, Bool.and_eq_true, List.all_eq_true, decide_eq_true_eq]
    refine ⟨⟨(h 0 (by simp)).1, fun row hr => by simpa using (h 0 (by simp)).2 row hr⟩, fitting_of r (t + 1) fun j hj => ?_⟩
    have := h (j + 1) (by simpa using hj)
    rw [show t + (j + 1) = t + 1 + j by omega] at this
    simpa using this
theorem fitting_no {T : List (List (List Int))} {j : Nat} (h : j < T.length) (hn : 65536 ≤ T[j].length ∨ ∃ row ∈ T[j], rowFits j 0 row = false) : fitting 0 T = false := by
  cases e : fitting 0 T with
  | false => rfl
  | true =>
    have := fitting_get T 0 j h e
    rw [Nat.zero_add] at this
    rcases hn with hn | ⟨row, hr, hf⟩
    · omega
    · rw [this.2 row hr] at hf; simp at hf

/-- The row at a place, as the walk wants it. -/
theorem In2.row {w : World} {v : Value} {l : List (List Int)} (h : In2 w v l) (i : Nat) (hi : i < l.length) : ∃ b off c a cp, v = .slice (some ⟨b, off, none⟩) l.length c ∧ w.cell? ⟨b, off + i, none⟩ = some (.slice a (l[i]).length cp) ∧ In1 w (.slice a (l[i]).length cp) l[i] ∧ (l[i]).length ≤ maxLen := by
  obtain ⟨b, off, c, e, hb, hc⟩ := Ns.cell h (by intro e; subst e; simp at hi)
  obtain ⟨u, hu, hu2⟩ := hc i hi
  obtain ⟨a, cp, rfl, h1, h2⟩ := hu2.shape
  exact ⟨b, off, c, a, cp, e, hu, hu2, by omega⟩
theorem In3.tab {w : World} {v : Value} {l : List (List (List Int))} (h : In3 w v l) (i : Nat) (hi : i < l.length) : ∃ b off c a cp, v = .slice (some ⟨b, off, none⟩) l.length c ∧ w.cell? ⟨b, off + i, none⟩ = some (.slice a (l[i]).length cp) ∧ In2 w (.slice a (l[i]).length cp) l[i] ∧ (l[i]).length ≤ maxLen := by
  obtain ⟨b, off, c, e, hb, hc⟩ := Ns.cell h (by intro e; subst e; simp at hi)
  obtain ⟨u, hu, hu2⟩ := hc i hi
  obtain ⟨a, cp, rfl, h1, h2⟩ := Ns.shape hu2
  exact ⟨b, off, c, a, cp, e, hu, hu2, by omega⟩

theorem shaped_short (a : Option Addr) (n c : Nat) (w : World) (hn : n ≠ 6) (hm : n ≤ maxLen) :
    Calls Try.prog 31 #[.slice a n c] w fun e w' => e = .returned (.bool false) ∧ w' = w := by
  unfold maxLen at hm
  have h6 : ((n : Int) != 6) = true := by rw [bne_iff_ne]; omega
  go_enter Try.func31, Try.ntmps31
  go_wp2_with fail
  go_ret
  exact ⟨rfl, rfl⟩

set_option maxHeartbeats 1000000 in
theorem shaped_six {w : World} {v : Value} {T : List (List (List Int))} (hv : In3 w v T) (h6 : T.length = 6) :
    Calls Try.prog 31 #[v] w fun e w' => e = .returned (.bool (shaped 0 T)) ∧ w' = w := by
  have HT : Hid (∀ i (hi : i < T.length), ∃ b off c a cp, v = .slice (some ⟨b, off, none⟩) T.length c ∧ w.cell? ⟨b, off + i, none⟩ = some (.slice a (T[i]).length cp) ∧ In2 w (.slice a (T[i]).length cp) T[i] ∧ (T[i]).length ≤ maxLen) := fun i hi => In3.tab hv i hi
  have H6 : Hid (T.length = 6) := h6
  obtain ⟨b, off, c, -, -, rfl, -⟩ := In3.tab hv 0 (by omega)
  rw [h6]
  clear hv h6
  have hne6 : ((6 : Int) != 6) = false := rfl
  go_enter Try.func31, Try.ntmps31
  go_wp2_with fail
  go_loopw [12] (fun x wr => ∃ i : Nat, i ≤ 6 ∧ x = .int .i64 i ∧ wr = w ∧ ∀ j (h : j < T.length), j < i → ∀ row ∈ T[j], row.length = colsR j) (fun x _ => 6 - (intOf x).toNat)
  case atStart => exact ⟨0, by omega, rfl, rfl, fun j _ h => by omega⟩
  case round =>
    obtain ⟨i, hi, rfl, rfl, hd⟩ := hrel
    have HD : Hid (∀ j (h : j < T.length), j < i → ∀ row ∈ T[j], row.length = colsR j) := hd
    clear hd
    by_cases hlt : i < 6
    · have hiT : i < T.length := by have := H6.out; omega
      obtain ⟨b', off', c', a1, cp1, he, hcell, hin, hlm⟩ := HT.out i hiT
      simp only [Value.slice.injEq, Option.some.injEq, Addr.mk.injEq, and_true] at he
      obtain ⟨⟨rfl, rfl⟩, -, rfl⟩ := he
      have HIN : Hid (In2 wr (.slice a1 (T[i]).length cp1) T[i]) := hin
      clear hin
      unfold maxLen at hlm
      obtain ⟨l, hl⟩ : ∃ l, l = T[i] := ⟨_, rfl⟩
      have HTL : Hid (l = T[i]) := hl
      rw [← hl] at hcell HIN hlm
      clear hl
      have hd6 : decide ((i : Int) < 6) = true := by rw [decide_eq_true_eq]; omega
      go_wp2_with fail
      go_loopw [19] (fun x wq => ∃ k : Nat, k ≤ l.length ∧ x = .int .i64 k ∧ wq = wr ∧ ∀ row ∈ l.take k, row.length = colsR i) (fun x _ => l.length - (intOf x).toNat)
      case atStart => exact ⟨0, by omega, rfl, rfl, by simp⟩
      case round =>
        obtain ⟨k, hk, rfl, rfl, hr⟩ := hrel
        have HR : Hid (∀ row ∈ l.take k, row.length = colsR i) := hr
        clear hr
        by_cases hkl : k < l.length
        · obtain ⟨b2, off2, c2, a2, cp2, he2, hcell2, hin2, hlm2⟩ := HIN.out.row k hkl
          simp only [Value.slice.injEq] at he2
          obtain ⟨rfl, -, rfl⟩ := he2
          clear hin2
          unfold maxLen at hlm2
          by_cases hrow : (l[k]).length = colsR i
          · have HR2 : Hid (∀ row ∈ l.take (k + 1), row.length = colsR i) := by
              intro row hrw
              rw [List.take_succ_eq_append_getElem hkl] at hrw
              rcases List.mem_append.1 hrw with h | h
              · exact HR.out row h
              · simp at h; subst h; exact hrow
            have hcq : (((l[k]).length : Int) != colsI (i : Int)) = false := by rw [bne_eq_false_iff_eq, colsI_nat, hrow]
            clear hrow
            generalize (l[k]).length = m at *
            go_wp2_with (go_at_call 21; refine (columns_any _ _).mono ?_; rintro e wz ⟨rfl, hz⟩; subst wz)
            go_roundw
            case rel => exact ⟨k + 1, by omega, by go_num, by simp, HR2.out⟩
            case measure => simp [intOf]; omega
          · have HF : Hid (shaped 0 T = false) := by
              have hm : l[k] ∈ T[i] := by have := HTL.out; simp only [← this]; exact List.getElem_mem _
              exact shaped_no hiT hm hrow
            have hcq : (((l[k]).length : Int) != colsI (i : Int)) = true := by rw [bne_iff_ne, colsI_nat]; omega
            clear hrow
            generalize (l[k]).length = m at *
            go_wp2_with (go_at_call 21; refine (columns_any _ _).mono ?_; rintro e wz ⟨rfl, hz⟩; subst wz)
            go_ret
            exact ⟨ret_bool HF.out.symm, rfl⟩
        · have HD2 : Hid (∀ j (h : j < T.length), j < i + 1 → ∀ row ∈ T[j], row.length = colsR j) := by
            intro j h hj row hr
            by_cases hji : j < i
            · exact HD.out j h hji row hr
            · have : j = i := by omega
              subst this
              refine HR.out row ?_
              rw [List.take_of_length_le (by omega), HTL.out]; exact hr
          have hdk : decide ((k : Int) < (l.length : Int)) = false := by rw [decide_eq_false_iff_not]; omega
          go_wp2_with fail
          go_roundw
          case rel => exact ⟨i + 1, by omega, by go_num, by simp, HD2.out⟩
          case measure => simp [intOf]; omega
    · have HF : Hid (shaped 0 T = true) := shaped_of T 0 fun j h row hr => by rw [Nat.zero_add]; exact HD.out j h (by have := H6.out; omega) row hr
      have hd6 : decide ((i : Int) < 6) = false := by rw [decide_eq_false_iff_not]; omega
      go_wp2_with fail
      go_ret
      exact ⟨ret_bool HF.out.symm, rfl⟩

theorem shaped_any {w : World} {v : Value} {T : List (List (List Int))} (hv : In3 w v T) :
    Calls Try.prog 31 #[v] w fun e w' => e = .returned (.bool (decide (T.length = 6) && shaped 0 T)) ∧ w' = w := by
  by_cases h6 : T.length = 6
  · have := shaped_six hv h6
    simpa [h6] using this
  · obtain ⟨a, c, rfl, h1, h2⟩ := Ns.shape hv
    have := shaped_short a T.length c w h6 (by omega)
    simpa [h6] using this

end Go.Proofs.Ytjmjpdamhondkaa
