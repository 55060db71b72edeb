
/- What an operand is written by; Encode. -/
import Derived.Test.YtpgkjfjooogfmaaDoorWrite7
import Derived.Test.YtpgkjfjooogfmaaDoorRefPlaces7
import Derived.Test.YtpgkjfjooogfmaaDoorLeads7
import Derived.Laws.EntriesVeiled
namespace Go.Proofs.YtpgkjfjooogfmaaDoor
set_option linter.unusedVariables false
set_option linter.unusedSimpArgs false
open Go.RowKit
attribute [local go_sem ↓] Go.wp_at_zero Go.wp_at_succ

theorem run_enter7 {P : Program} {f : FuncId} {fn : Func} {c : Code} (hf : P.funcs[f]? = some fn) (hname : (fn.name == "runtime.NumGoroutine") = false) (hb : fn.body = some c) (args : Array Value) (w : World) :
    (callFunc f args).run P w = .ok (.enter f args) w := by
  have h1 : ¬ fn.name = "runtime.NumGoroutine" := by simpa using hname
  simp [callFunc, hf, h1, hb]

/-- The writer's way by kinds. -/
def pickW : Nat → Nat
  | 0 => 34
  | 5 => 35
  | 6 => 36
  | 7 => 36
  | _ => 23
def mfn (f wb : Nat) : Value := .func (.func f) #[.pointer (some ⟨wb, 0, none⟩)] #[]
def fnsW (wb : Nat) : Array Value := #[mfn (pickW 0) wb, mfn (pickW 1) wb, mfn (pickW 2) wb, mfn (pickW 3) wb, mfn (pickW 4) wb, mfn (pickW 5) wb, mfn (pickW 6) wb, mfn (pickW 7) wb, mfn (pickW 8) wb]
theorem nine_cases {p : Nat} (h : p ≤ 8) : p = 0 ∨ p = 1 ∨ p = 2 ∨ p = 3 ∨ p = 4 ∨ p = 5 ∨ p = 6 ∨ p = 7 ∨ p = 8 := by omega
theorem fnsW_at (wb p : Nat) (h : p ≤ 8) : (fnsW wb)[p]? = some (.func (.func (pickW p)) #[.pointer (some ⟨wb, 0, none⟩)] #[]) := by
  rcases nine_cases h with rfl | rfl | rfl | rfl | rfl | rfl | rfl | rfl | rfl <;> rfl
theorem pickW_enter (p : Nat) (h : p ≤ 8) : ∀ args w, (callFunc (pickW p) args).run Tryd.prog w = .ok (.enter (pickW p) args) w := by
  have e0 := run_enter7 Tryd.func34 (by kernel_rfl) rfl
  have e1 := run_enter7 Tryd.func35 (by kernel_rfl) rfl
  have e2 := run_enter7 Tryd.func36 (by kernel_rfl) rfl
  have e3 := run_enter7 Tryd.func23 (by kernel_rfl) rfl
  rcases nine_cases h with rfl | rfl | rfl | rfl | rfl | rfl | rfl | rfl | rfl
  · exact e0
  · exact e3
  · exact e3
  · exact e3
  · exact e3
  · exact e1
  · exact e2
  · exact e2
  · exact e3

set_option maxHeartbeats 2000000 in
theorem byKindW_any (wb : Nat) (w : World) :
    Calls Tryd.prog 22 #[.pointer (some ⟨wb, 0, none⟩)] w fun e w' => e = .returned (.agg (fnsW wb)) ∧ Below w.heap.size w w' := by
  have hb0 : Below w.heap.size w (w.alloc (.cells (fnsW wb) 56)) := (Below.refl _ _).alloc (Nat.le_refl _) _
  go_enter Tryd.func22, Tryd.ntmps22
  go_wp2
  exact bodyPost_ret (v := .agg (fnsW wb)) (by simp [results, Tryd.results22, go_sem, fnsW, mfn, pickW]) rfl ⟨rfl, hb0⟩

theorem write_any {p : Nat} (hp : p ≤ 8) {w : World} {wb base pg pn pc : Nat} {xs : List UInt8} (h : WrS w wb base (.slice (some ⟨pg, 0, none⟩) pn pc) xs) (hbase : base ≤ w.heap.size) (hx : xs.length ≤ 100000) (hpn : pn ≤ 1000) (n y : Int)
    (h5 : p = 5 → ∃ k pl : Nat, n = (k : Int) ∧ k < pn ∧ pl ≤ 100000 ∧ w.cell? ⟨pg, k, none⟩ = some (.int .i64 (pl : Int)) ∧ y = (pl : Int) - (xs.length : Int) - 2)
    (h67 : p = 6 ∨ p = 7 → 0 ≤ n ∧ n ≤ 1000 ∧ y = n + 1) (hr : p ≠ 5 → ¬ (p = 6 ∨ p = 7) → y = n) :
    Calls Tryd.prog (pickW p) #[.pointer (some ⟨wb, 0, none⟩), .int .i64 n, .int .i64 (widN p : Int)] w fun e w' => e = .returned (.tuple #[]) ∧ WrS w' wb base (.slice (some ⟨pg, 0, none⟩) pn pc) (xs ++ leL (u64n y) (widN p)) ∧ Below base w w' ∧ Kp wb w w' := by
  have hnum : ∀ m, (m = 1 ∨ m = 2 ∨ m = 4 ∨ m = 8) → y = n → Calls Tryd.prog 23 #[.pointer (some ⟨wb, 0, none⟩), .int .i64 n, .int .i64 ((m : Nat) : Int)] w fun e w' => e = .returned (.tuple #[]) ∧ WrS w' wb base (.slice (some ⟨pg, 0, none⟩) pn pc) (xs ++ leL (u64n y) m) ∧ Below base w w' ∧ Kp wb w w' := by
    intro m hm hy
    rw [hy]
    exact number_any h hbase hx n m hm
  rcases nine_cases hp with rfl | rfl | rfl | rfl | rfl | rfl | rfl | rfl | rfl
  · refine (nothing_any wb n 0 w).mono ?_
    rintro e w' ⟨rfl, rfl⟩
    exact ⟨rfl, by simpa [leL, widN] using h, Below.refl _ _, Kp.refl _ _⟩
  · exact hnum 4 (by omega) (hr (by omega) (by omega))
  · exact hnum 8 (by omega) (hr (by omega) (by omega))
  · exact hnum 1 (by omega) (hr (by omega) (by omega))
  · exact hnum 1 (by omega) (hr (by omega) (by omega))
  · obtain ⟨k, pl, rfl, g1, g2, g3, rfl⟩ := h5 rfl
    exact way_any h hbase hx k pl g1 hpn g2 g3
  · obtain ⟨g1, g2, rfl⟩ := h67 (by omega)
    exact row_any h hbase hx n g1 g2
  · obtain ⟨g1, g2, rfl⟩ := h67 (by omega)
    exact row_any h hbase hx n g1 g2
  · exact hnum 2 (by omega) (hr (by omega) (by omega))

/-- What a raw instruction's operand may be. -/
theorem raw_fits {x : Ins} (h : rawB x = true) (h8 : opK x.1 ≠ 8) : bLo (opK x.1) ≤ x.2.1 ∧ x.2.1 ≤ bHi (opK x.1) ∧ zeroB x.2.2.1 x.2.2.2.1 x.2.2.2.2.1 x.2.2.2.2.2 = true := by
  have hin := raw_op h
  unfold rawB at h
  rw [if_neg h8] at h
  unfold fitE at h
  rw [if_pos hin] at h
  by_cases hf : fitB (opP x.1) x.2.1 x.2.2.1 x.2.2.2.1 x.2.2.2.2.1 x.2.2.2.2.2 = true
  · unfold fitB at hf
    rw [if_neg (by rw [opK_at]; omega), opK_at] at hf
    simp only [Bool.and_eq_true, decide_eq_true_eq] at hf
    exact ⟨hf.1.1, hf.1.2, hf.2⟩
  · rw [if_neg hf] at h
    simp at h
theorem raw_spec {x : Ins} (h : rawB x = true) (h8 : opK x.1 = 8) : 1 ≤ x.2.1 ∧ x.2.1 ≤ 16383 ∧ zeroB x.2.2.1 x.2.2.2.1 x.2.2.2.2.1 x.2.2.2.2.2 = true := by
  unfold rawB at h
  rw [if_pos h8] at h
  simp only [Bool.and_eq_true, decide_eq_true_eq] at h
  exact ⟨h.1.2, h.2, h.1.1⟩
theorem raw_place {x : Ins} (h : rawB x = true) (h5 : opK x.1 = 5) : 0 ≤ x.2.1 ∧ x.2.1 ≤ 159 := by
  have := raw_fits h (by omega)
  rw [h5] at this
  simp [bLo, bHi] at this
  omega
theorem raw_row {x : Ins} (h : rawB x = true) (h6 : opK x.1 = 6 ∨ opK x.1 = 7) : 0 ≤ x.2.1 ∧ x.2.1 ≤ 63 := by
  have := raw_fits h (by omega)
  rcases h6 with h6 | h6 <;> rw [h6] at this <;> simp [bLo, bHi] at this <;> omega

theorem leL_op {op : Int} (h : 1 ≤ op ∧ op ≤ 75) : leL (u64n op) 1 = [UInt8.ofNat op.toNat] := by
  unfold u64n
  rw [show op % 18446744073709551616 = op by omega]
  simp [leL]

/-- What Encode leaves. -/
structure EnR (w w' : World) (l : List Ins) (e : Ending) : Prop where
  yes : encE l = 0 → ∃ bv, e = .returned (.tuple #[bv, .int .i64 0]) ∧ Own w' w.heap.size 5 bv (encTo l l.length)
  no : encE l ≠ 0 → e = .returned (.tuple #[.slice none 0 0, .int .i64 (encE l)])
  below : Below w.heap.size w w'

end Go.Proofs.YtpgkjfjooogfmaaDoor
