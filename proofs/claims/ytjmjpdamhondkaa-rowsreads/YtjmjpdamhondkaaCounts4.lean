
/- The counts of tables, and how reading goes on or ends: plain facts and the array of six. -/
import Derived.Test.YtjmjpdamhondkaaReadRow4
namespace Go.Proofs.Ytjmjpdamhondkaa
set_option linter.unusedVariables false
set_option linter.unusedSimpArgs false
open Go.RowKit Go.Maps

theorem cntTo_none {bs : List UInt8} {th at0 : Nat} : ∀ {c : Nat} (k : Nat), cntTo bs th at0 c = none → cntTo bs th at0 (c + k) = none
  | c, 0, h => h
  | c, k + 1, h => by
    have := cntTo_none k h
    rw [← Nat.add_assoc]
    simp only [cntTo, this]
theorem cntTo_short {bs : List UInt8} {th at0 c n a : Nat} {l : List Nat} (h : cntTo bs th at0 c = some (l, a)) (hc : c < n) (hb : (th / 2 ^ c) % 2 = 1) (hs : bs.length < a + 2) : cntTo bs th at0 n = none := by
  have h1 : cntTo bs th at0 (c + 1) = none := by simp only [cntTo, h]; rw [if_pos hb, if_pos hs]
  obtain ⟨k, rfl⟩ : ∃ k, n = c + 1 + k := ⟨n - (c + 1), by omega⟩
  exact cntTo_none k h1
theorem cntTo_next {bs : List UInt8} {th at0 c a : Nat} {l : List Nat} (h : cntTo bs th at0 c = some (l, a)) (hb : (th / 2 ^ c) % 2 = 1) (hs : ¬ bs.length < a + 2) : cntTo bs th at0 (c + 1) = some (l ++ [numAt bs a 2], a + 2) := by
  simp only [cntTo, h]; rw [if_pos hb, if_neg hs]
theorem cntTo_skip {bs : List UInt8} {th at0 c a : Nat} {l : List Nat} (h : cntTo bs th at0 c = some (l, a)) (hb : ¬ (th / 2 ^ c) % 2 = 1) : cntTo bs th at0 (c + 1) = some (l ++ [0], a) := by
  simp only [cntTo, h]; rw [if_neg hb]
theorem rowsTo_none {bs : List UInt8} {t m at0 : Nat} : ∀ {c : Nat} (k : Nat), rowsTo bs t m at0 c = none → rowsTo bs t m at0 (c + k) = none
  | c, 0, h => h
  | c, k + 1, h => by
    have := rowsTo_none k h
    rw [← Nat.add_assoc]
    simp only [rowsTo, this]
theorem rowsTo_short {bs : List UInt8} {t m at0 c n a : Nat} {l : List (List Int)} (h : rowsTo bs t m at0 c = some (l, a)) (hc : c < n) (hs : rowTo bs t m a (colsR t) = none) : rowsTo bs t m at0 n = none := by
  have h1 : rowsTo bs t m at0 (c + 1) = none := by simp only [rowsTo, h, hs]
  obtain ⟨k, rfl⟩ : ∃ k, n = c + 1 + k := ⟨n - (c + 1), by omega⟩
  exact rowsTo_none k h1
theorem rowsTo_next {bs : List UInt8} {t m at0 c a a' : Nat} {l : List (List Int)} {r : List Int} (h : rowsTo bs t m at0 c = some (l, a)) (hs : rowTo bs t m a (colsR t) = some (r, a')) : rowsTo bs t m at0 (c + 1) = some (l ++ [r], a') := by
  simp only [rowsTo, h, hs]
theorem tabsTo_none {bs : List UInt8} {cs : List Nat} {m at0 : Nat} : ∀ {c : Nat} (k : Nat), tabsTo bs cs m at0 c = none → tabsTo bs cs m at0 (c + k) = none
  | c, 0, h => h
  | c, k + 1, h => by
    have := tabsTo_none k h
    rw [← Nat.add_assoc]
    simp only [tabsTo, this]
theorem tabsTo_short {bs : List UInt8} {cs : List Nat} {m at0 c n a : Nat} {T : List (List (List Int))} (h : tabsTo bs cs m at0 c = some (T, a)) (hc : c < n) (hs : rowsTo bs c m a (cs.getD c 0) = none) : tabsTo bs cs m at0 n = none := by
  have h1 : tabsTo bs cs m at0 (c + 1) = none := by simp only [tabsTo, h, hs]
  obtain ⟨k, rfl⟩ : ∃ k, n = c + 1 + k := ⟨n - (c + 1), by omega⟩
  exact tabsTo_none k h1
theorem tabsTo_next {bs : List UInt8} {cs : List Nat} {m at0 c a a' : Nat} {T : List (List (List Int))} {l : List (List Int)} (h : tabsTo bs cs m at0 c = some (T, a)) (hs : rowsTo bs c m a (cs.getD c 0) = some (l, a')) : tabsTo bs cs m at0 (c + 1) = some (T ++ [l], a') := by
  simp only [tabsTo, h, hs]
theorem tabsTo_len {bs : List UInt8} {cs : List Nat} {m at0 : Nat} : ∀ {c a : Nat} {T : List (List (List Int))}, tabsTo bs cs m at0 c = some (T, a) → T.length = c
  | 0, a, T, h => by simp only [tabsTo, Option.some.injEq, Prod.mk.injEq] at h; rw [← h.1]; rfl
  | c + 1, a, T, h => by
    simp only [tabsTo] at h
    cases hp : tabsTo bs cs m at0 c with
    | none => rw [hp] at h; simp at h
    | some p =>
      rw [hp] at h
      simp only at h
      cases hq : rowsTo bs c m p.2 (cs.getD c 0) with
      | none => rw [hq] at h; simp at h
      | some q =>
        rw [hq] at h
        simp only [Option.some.injEq, Prod.mk.injEq] at h
        obtain ⟨rfl, _⟩ := h
        have := tabsTo_len (a := p.2) (T := p.1) hp
        simp [this]

/-- The six counts so far, as the array holds them. -/
def cuL (cs : List Nat) : List Value := (cs ++ List.replicate (6 - cs.length) 0).map fun (n : Nat) => Value.int .u64 (n : Int)
theorem cuL_length {cs : List Nat} (h : cs.length ≤ 6) : (cuL cs).length = 6 := by simp [cuL]; omega
theorem cuL_skip {cs : List Nat} (h : cs.length < 6) : cuL (cs ++ [0]) = cuL cs := by
  unfold cuL
  congr 1
  have e : 6 - cs.length = (6 - (cs ++ [0]).length) + 1 := by simp; omega
  rw [e, List.replicate_succ]
  simp
theorem cuL_set {cs : List Nat} (h : cs.length < 6) (n : Nat) : (cuL cs).set cs.length (.int .u64 (n : Int)) = cuL (cs ++ [n]) := by
  unfold cuL
  have e : 6 - cs.length = (6 - (cs ++ [n]).length) + 1 := by simp; omega
  rw [e, List.replicate_succ, List.map_append, List.map_append, List.set_append_right _ _ (by simp)]
  simp
theorem six_list {cs : List Nat} (h : cs.length = 6) : ∃ a b c d e f, cs = [a, b, c, d, e, f] := by
  match cs, h with
  | [a, b, c, d, e, f], _ => exact ⟨a, b, c, d, e, f, rfl⟩

theorem Try.sizeU64 : (Try.prog.info? 55).map (·.size) = some 1 := by kernel_rfl
/-- 'a[k]' of an array of six counts. -/
theorem run_index6 (a b c d e f : Nat) (k : Nat) (hk : k < 6) (W : World) :
    (Instr.index 77 (.agg #[.int .u64 (a : Int), .int .u64 (b : Int), .int .u64 (c : Int), .int .u64 (d : Int), .int .u64 (e : Int), .int .u64 (f : Int)]) (.int .i64 (k : Int))).run Try.prog W = .ok (.int .u64 (([a, b, c, d, e, f].getD k 0 : Nat) : Int)) W := by
  have hq := Try.sizeU64
  cases hi : Try.prog.info? 55 with
  | none => simp [hi] at hq
  | some i =>
    have hs : i.size = 1 := by simpa [hi] using hq
    have h6 : k = 0 ∨ k = 1 ∨ k = 2 ∨ k = 3 ∨ k = 4 ∨ k = 5 := by omega
    rcases h6 with rfl | rfl | rfl | rfl | rfl | rfl <;> simp [Instr.index, run_underlying Try.underlying77, run_underlying Try.underlying55, asIntOf, part, isAgg, sizeOf, typeInfo, hi, hs]

end Go.Proofs.Ytjmjpdamhondkaa
