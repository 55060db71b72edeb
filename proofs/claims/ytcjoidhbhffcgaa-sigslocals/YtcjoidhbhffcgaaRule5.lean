
/- The rules of layer 5 as function values; the bytes of kinds. -/
import Derived.Test.YtcjoidhbhffcgaaSigSpec
namespace Go.Proofs.Ytcjoidhbhffcgaa
set_option linter.unusedVariables false
set_option linter.unusedSimpArgs false
open Go.RowKit

theorem markOf5_any (k : Int) (w : World) :
    Calls Try.prog 48 #[.int .i64 k] w fun e w' => e = .returned (.int .u8 ((markU k).toNat : Int)) ∧ w' = w := by
  go_enter Try.func48, Try.ntmps48
  go_wp2
  all_goals go_ret
  all_goals refine ⟨ret_int ?_, rfl⟩
  all_goals simp only [beq_iff_eq, beq_eq_false_iff_ne, ne_eq] at *
  all_goals (simp [markU, *])

/-- A function that has a body is entered. -/
theorem run_enter {P : Program} {f : FuncId} {fn : Func} {c : Code} (hf : P.funcs[f]? = some fn) (hname : (fn.name == "runtime.NumGoroutine") = false) (hb : fn.body = some c) (args : Array Value) (w : World) :
    (callFunc f args).run P w = .ok (.enter f args) w := by
  have h1 : ¬ fn.name = "runtime.NumGoroutine" := by simpa using hname
  simp [callFunc, hf, h1, hb]

/-- A function of the code that tells what may stand there. -/
structure Rule (f : FuncId) (p : Nat) : Prop where
  enter : ∀ args w, (callFunc f args).run Try.prog w = .ok (.enter f args) w
  may : ∀ k i d r w, Calls Try.prog f #[.agg #[.int .i64 k, .int .i64 i, .int .i64 d, .bool r]] w fun e w' => e = .returned (.bool (mayB p k i d r)) ∧ Below w.heap.size w w'
  plain : ∀ k i d r, mayB p k i d r = true → plainB k i d r = true

theorem rule_plain : Rule 30 0 := ⟨run_enter Try.func30 (by kernel_rfl) rfl, fun k i d r w => isPlain_any k i d r w, fun k i d r h => h⟩
theorem rule_field : Rule 32 1 := ⟨run_enter Try.func32 (by kernel_rfl) rfl, fun k i d r w => isField_any k i d r w, fun k i d r h => by simp [mayB] at h; exact h.1.1⟩
theorem rule_var : Rule 42 2 := ⟨run_enter Try.func42 (by kernel_rfl) rfl, fun k i d r w => isVariable_any k i d r w, fun k i d r h => by simp [mayB] at h; exact h.1⟩
theorem rule_answer : Rule 40 3 := ⟨run_enter Try.func40 (by kernel_rfl) rfl, fun k i d r w => isAnswer_any k i d r w, fun k i d r h => by simp [mayB] at h; exact h.1⟩

/-- The kind of a byte. -/
def kindI (c : Nat) : Int := if c = 1 then 1 else if c = 8 then 2 else if c = 10 then 3 else if c = 28 then 4 else if c = 18 then 5 else if c = 17 then 6 else if c = 19 then 7 else 0

theorem kind_of_mark (n c : Nat) (h1 : 1 ≤ n) (h7 : n ≤ 7) (h : (markU (n : Int)).toNat = c) : kindI c = (n : Int) := by
  subst h
  obtain rfl | rfl | rfl | rfl | rfl | rfl | rfl : n = 1 ∨ n = 2 ∨ n = 3 ∨ n = 4 ∨ n = 5 ∨ n = 6 ∨ n = 7 := by omega
  all_goals rfl

theorem kind_none (c : Nat) (h : ∀ m : Nat, 1 ≤ m → m ≤ 7 → (markU (m : Int)).toNat ≠ c) : kindI c = 0 := by
  have a1 := h 1 (by omega) (by omega)
  have a2 := h 2 (by omega) (by omega)
  have a3 := h 3 (by omega) (by omega)
  have a4 := h 4 (by omega) (by omega)
  have a5 := h 5 (by omega) (by omega)
  have a6 := h 6 (by omega) (by omega)
  have a7 := h 7 (by omega) (by omega)
  have b1 : (markU ((1 : Nat) : Int)).toNat = 1 := rfl
  have b2 : (markU ((2 : Nat) : Int)).toNat = 8 := rfl
  have b3 : (markU ((3 : Nat) : Int)).toNat = 10 := rfl
  have b4 : (markU ((4 : Nat) : Int)).toNat = 28 := rfl
  have b5 : (markU ((5 : Nat) : Int)).toNat = 18 := rfl
  have b6 : (markU ((6 : Nat) : Int)).toNat = 17 := rfl
  have b7 : (markU ((7 : Nat) : Int)).toNat = 19 := rfl
  unfold kindI
  rw [if_neg (by omega), if_neg (by omega), if_neg (by omega), if_neg (by omega), if_neg (by omega), if_neg (by omega), if_neg (by omega)]

theorem kindOf_any (c : Nat) (hc : c < 256) (w : World) :
    Calls Try.prog 62 #[.int .u8 (c : Int)] w fun e w' => e = .returned (.int .i64 (kindI c)) ∧ w' = w := by
  go_enter Try.func62, Try.ntmps62
  go_wp2
  go_loopw [3] (fun i wr => ∃ n : Nat, 1 ≤ n ∧ n ≤ 8 ∧ i = .int .i64 n ∧ wr = w ∧ Hid (∀ m : Nat, 1 ≤ m → m < n → (markU (m : Int)).toNat ≠ c)) (fun i _ => 8 - (intOf i).toNat)
  case atStart => exact ⟨1, by omega, by omega, rfl, rfl, fun m h1 h2 => by omega⟩
  case round =>
    obtain ⟨n, h1, h8, rfl, rfl, hn⟩ := hrel
    by_cases h7 : n ≤ 7
    · by_cases he : (markU (n : Int)).toNat = c
      · have hk : Hid (kindI c = (n : Int)) := kind_of_mark n c h1 h7 he
        have he2 : (((markU (n : Int)).toNat : Int) == (c : Int)) = true := by rw [beq_iff_eq]; omega
        clear he
        go_wp2_with (go_at_call 48; refine (markOf5_any _ _).mono ?_; rintro e wz ⟨rfl, hz⟩; subst wz)
        go_ret
        exact ⟨ret_int hk.out.symm, rfl⟩
      · have he2 : (((markU (n : Int)).toNat : Int) == (c : Int)) = false := by rw [beq_eq_false_iff_ne]; omega
        have HE : Hid (¬ (markU (n : Int)).toNat = c) := he
        clear he
        go_wp2_with (go_at_call 48; refine (markOf5_any _ _).mono ?_; rintro e wz ⟨rfl, hz⟩; subst wz)
        go_roundw
        case rel => exact ⟨n + 1, by omega, by omega, by go_num, by first | trivial | rfl, fun m g1 g2 => by
          by_cases g3 : m = n
          · rw [g3]; exact HE.out
          · exact hn.out m g1 (by omega)⟩
        case measure => simp [intOf]; omega
    · have hk : Hid (kindI c = 0) := kind_none c fun m g1 g2 => hn.out m g1 (by omega)
      go_wp2
      go_ret
      exact ⟨ret_int hk.out.symm, rfl⟩

/-- A type's cells in a block that is not of the old ones, laid anew. -/
theorem below_set4 {B g : Nat} {w w1 : World} (h : Below B w w1) (hg : B ≤ g) (x0 x1 x2 x3 : Value) : Below B w ((((w1.setCell ⟨g, 0, none⟩ x0).setCell ⟨g, 1, none⟩ x1).setCell ⟨g, 2, none⟩ x2).setCell ⟨g, 3, none⟩ x3) :=
  (((h.setCell hg _).setCell hg _).setCell hg _).setCell hg _

theorem allowed_yes {f : FuncId} {p : Nat} (hR : Rule f p) (k i d : Int) (r : Bool) (w : World) (hy : mayB p k i d r = true) :
    Calls Try.prog 54 #[.agg #[.int .i64 k, .int .i64 i, .int .i64 d, .bool r], .func (.func f) #[] #[]] w fun e w' =>
      e = .returned (.tuple #[.agg #[.int .i64 k, .int .i64 i, .int .i64 d, .bool r], .int .i64 0]) ∧ Below w.heap.size w w' := by
  obtain ⟨hin, hm, _⟩ := hR
  go_enter Try.func54, Try.ntmps54
  go_wp2_with fail
  refine (hm k i d r _).mono ?_
  rintro e w1 ⟨rfl, hb⟩
  have hB := below_box (below_box hb)
  have hz : w.heap.size + 1 < w1.heap.size := by have := hb.size; simp at this; omega
  obtain ⟨hc, hf⟩ := bcell hb
  clear hb
  go_wp2
  exact bodyPost_ret (v := .tuple #[.agg #[.int .i64 k, .int .i64 i, .int .i64 d, .bool r], .int .i64 0]) (by simp [results, Try.results54, go_sem, hc, hz]) rfl ⟨rfl, below_set4 hB (by omega) _ _ _ _⟩

theorem allowed_no {f : FuncId} {p : Nat} (hR : Rule f p) (k i d : Int) (r : Bool) (w : World) (hy : mayB p k i d r = false) :
    Calls Try.prog 54 #[.agg #[.int .i64 k, .int .i64 i, .int .i64 d, .bool r], .func (.func f) #[] #[]] w fun e w' =>
      e = .returned (.tuple #[.agg #[.int .i64 0, .int .i64 0, .int .i64 0, .bool false], .int .i64 10]) ∧ Below w.heap.size w w' := by
  obtain ⟨hin, hm, _⟩ := hR
  go_enter Try.func54, Try.ntmps54
  go_wp2_with fail
  refine (hm k i d r _).mono ?_
  rintro e w1 ⟨rfl, hb⟩
  have hB := below_box (below_box hb)
  have hz : w.heap.size + 1 < w1.heap.size := by have := hb.size; simp at this; omega
  obtain ⟨hc, hf⟩ := bcell hb
  clear hb
  go_wp2
  exact bodyPost_ret (v := .tuple #[.agg #[.int .i64 0, .int .i64 0, .int .i64 0, .bool false], .int .i64 10]) (by simp [results, Try.results54, go_sem, hc, hz]) rfl ⟨rfl, below_set4 hB (by omega) _ _ _ _⟩

end Go.Proofs.Ytcjoidhbhffcgaa
