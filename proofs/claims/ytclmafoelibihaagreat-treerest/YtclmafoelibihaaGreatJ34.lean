/- Texts joined: Wakes11. -/
import Derived.Test.YtclmafoelibihaaGreatJ33
/- The statements' example holds. -/
namespace Go.Proofs.YtclmafoelibihaaGreat
set_option linter.unusedVariables false
set_option linter.unusedSimpArgs false
open Go.RowKit
attribute [local go_sem ↓] Go.wp_at_zero Go.wp_at_succ

/-- Two classes, of which the first extends the second one, and this one what is told. -/
def gAB (a : Option Addr) (e : Int) : Img := ⟨a, 2, [⟨⟨#[65]⟩, 0, 1, none, 0, []⟩, ⟨⟨#[66]⟩, 0, e, none, 0, []⟩], none, 0, [], none, 0, [], -1⟩
theorem gAB_im0 (a : Option Addr) : imB (gAB a 0) = true := by kernel_rfl
theorem gAB_im1 (a : Option Addr) : imB (gAB a (-1)) = true := by kernel_rfl
theorem gAB_pl {a : Option Addr} {e : Int} (h : imB (gAB a e) = true) : Pl (gAB a e) := ⟨h, fun x hx => by
  simp only [gAB, List.mem_cons, List.not_mem_nil, or_false] at hx
  rcases hx with rfl | rfl <;> exact ⟨rfl, rfl⟩, rfl, rfl⟩
theorem gAB_nm (a : Option Addr) (e : Int) : NmOk (gAB a e) := fun i hi j hj hne => by
  have h1 : i < 2 := hi
  have h2 : j < 2 := hj
  have hi2 : i = 0 ∨ i = 1 := by omega
  have hj2 : j = 0 ∨ j = 1 := by omega
  rcases hi2 with rfl | rfl <;> rcases hj2 with rfl | rfl
  · exact absurd rfl hne
  · show (⟨#[65]⟩ : ByteArray) ≠ ⟨#[66]⟩
    intro h; exact absurd (congrArg ByteArray.data h) (by decide)
  · show (⟨#[66]⟩ : ByteArray) ≠ ⟨#[65]⟩
    intro h; exact absurd (congrArg ByteArray.data h) (by decide)
  · exact absurd rfl hne
theorem gAB_bad0 (a : Option Addr) : extB (gAB a 0) 0 = false := by kernel_rfl
theorem gAB_ext0 (a : Option Addr) : extB (gAB a (-1)) 0 = true := by kernel_rfl
theorem gAB_ext1 (a : Option Addr) : extB (gAB a (-1)) 1 = true := by kernel_rfl
theorem gAB_bel1 (a : Option Addr) : belB (gAB a (-1)) 0 1 = true := by kernel_rfl
theorem gAB_bel2 (a : Option Addr) : belB (gAB a (-1)) 1 0 = false := by kernel_rfl
theorem gAB_imV (a : Option Addr) (e : Int) : imV (gAB a e) = .agg #[.slice a 2 2, .slice none 0 0, .slice none 0 0, .int .i64 (-1)] := by kernel_rfl
theorem gAB_len (a : Option Addr) (e : Int) : (gAB a e).ts.length = 2 := by kernel_rfl
theorem gAB_chk0 {a : Option Addr} {w : World} (h : Im w (gAB a 0)) : Calls Tryz.prog 16 #[.agg #[.slice a 2 2, .slice none 0 0, .slice none 0 0, .int .i64 (-1)]] w fun e w' => e = .returned (.tuple #[.int .i64 0, .int .i64 7]) ∧ Below w.heap.size w w' := by
  have := plCheck_bad h (gAB_pl (gAB_im0 a)) (gAB_bad0 a) (by rw [gAB_len]; omega)
  rw [gAB_imV] at this; exact this
theorem gAB_chk1 {a : Option Addr} {w : World} (h : Im w (gAB a (-1))) : Calls Tryz.prog 16 #[.agg #[.slice a 2 2, .slice none 0 0, .slice none 0 0, .int .i64 (-1)]] w fun e w' => e = .returned (.tuple #[.int .i64 0, .int .i64 0]) ∧ Below w.heap.size w w' := by
  have := plCheck_ok h (gAB_pl (gAB_im1 a)) (gAB_nm a _) (fun k hk => by
    rw [gAB_len] at hk
    have h2 : k = 0 ∨ k = 1 := by omega
    rcases h2 with rfl | rfl
    · exact gAB_ext0 a
    · exact gAB_ext1 a) (by rw [gAB_len]; omega)
  rw [gAB_imV] at this; exact this
theorem gAB_bel {a : Option Addr} {w : World} (h : Im w (gAB a (-1))) : Calls Tryz.prog 9 #[.agg #[.slice a 2 2, .slice none 0 0, .slice none 0 0, .int .i64 (-1)], .int .i64 0, .int .i64 1] w fun e w' => e = .returned (.bool true) ∧ Below w.heap.size w w' := by
  have := below_any (a := 0) (b := 1) h (gAB_im1 a) (wf_of (by omega))
  rw [gAB_bel1, gAB_imV] at this; exact this
theorem gAB_bel' {a : Option Addr} {w : World} (h : Im w (gAB a (-1))) : Calls Tryz.prog 9 #[.agg #[.slice a 2 2, .slice none 0 0, .slice none 0 0, .int .i64 (-1)], .int .i64 1, .int .i64 0] w fun e w' => e = .returned (.bool false) ∧ Below w.heap.size w w' := by
  have := below_any (a := 1) (b := 0) h (gAB_im1 a) (wf_of (by omega))
  rw [gAB_bel2, gAB_imV] at this; exact this
theorem gAB_made {w w1 : World} {e : Int} (h : w1 = w.alloc (.cells #[.string ⟨#[65]⟩, .int .i64 0, .int .i64 1, .slice none 0 0, .string ⟨#[66]⟩, .int .i64 0, .int .i64 e, .slice none 0 0] 34)) : Below w.heap.size w w1 ∧ Im w1 (gAB (some ⟨w.heap.size, 0, none⟩) e) := by
  subst h
  refine ⟨made_below _ _ _, ?_, fun x hx => ?_, Es.nil _ _, Es.nil _ _, fun x hx => absurd hx (by simp [gAB])⟩
  · exact (OwnE.lit tdE w 0 34 [⟨⟨#[65]⟩, 0, 1, none, 0, []⟩, ⟨⟨#[66]⟩, 0, e, none, 0, []⟩] _ 2 (Nat.zero_le _) rfl rfl (by simp [maxLen])).es
  · simp only [gAB, List.mem_cons, List.not_mem_nil, or_false] at hx
    rcases hx with rfl | rfl <;> exact Es.nil _ _

set_option maxHeartbeats 4000000 in
theorem wakes11_any (w : World) :
    Calls Tryz.prog 6 #[] w fun e w' => e = .returned (.bool true) ∧ Below w.heap.size w w' := by
  obtain ⟨w1, hw1⟩ : ∃ W, W = w.alloc (.cells #[.string ⟨#[65]⟩, .int .i64 0, .int .i64 1, .slice none 0 0, .string ⟨#[66]⟩, .int .i64 0, .int .i64 0, .slice none 0 0] 34) := ⟨_, rfl⟩
  have HW1 : Hid (w1 = _) := hw1
  obtain ⟨hb1, hi1⟩ := gAB_made hw1
  have HB1 : Hid (Below w.heap.size w w1) := hb1
  have HC1 : Hid (Calls Tryz.prog 16 #[.agg #[.slice (some ⟨w.heap.size, 0, none⟩) 2 2, .slice none 0 0, .slice none 0 0, .int .i64 (-1)]] w1 fun e w' => e = .returned (.tuple #[.int .i64 0, .int .i64 7]) ∧ Below w1.heap.size w1 w') := gAB_chk0 hi1
  clear hw1 hb1 hi1
  go_enter Tryz.func6, Tryz.ntmps6
  go_wp2_with (rw [← HW1.out])
  refine Calls.mono HC1.out ?_
  rintro e w2 ⟨rfl, hb2⟩
  have HB2 : Hid (Below w.heap.size w w2) := bstep HB1.out hb2
  obtain ⟨w3, hw3⟩ : ∃ W, W = w2.alloc (.cells #[.string ⟨#[65]⟩, .int .i64 0, .int .i64 1, .slice none 0 0, .string ⟨#[66]⟩, .int .i64 0, .int .i64 (-1), .slice none 0 0] 34) := ⟨_, rfl⟩
  obtain ⟨hb3, hi3⟩ := gAB_made hw3
  obtain ⟨w4, hw4⟩ : ∃ W, W = w3.alloc (.cells #[.slice (some ⟨w2.heap.size, 0, none⟩) 2 2, .slice none 0 0, .slice none 0 0, .int .i64 (-1)] 26) := ⟨_, rfl⟩
  have hb4 : Below w3.heap.size w3 w4 := by rw [hw4]; exact made_below _ _ _
  have hbx : At w4 w3.heap.size #[.slice (some ⟨w2.heap.size, 0, none⟩) 2 2, .slice none 0 0, .slice none 0 0, .int .i64 (-1)] 26 := by rw [hw4]; exact At.made _ _ _
  have HB4 : Hid (Below w.heap.size w w4) := bstep (bstep HB2.out hb3) hb4
  have HBx : Hid (∀ W, Below w4.heap.size w4 W → At W w3.heap.size #[.slice (some ⟨w2.heap.size, 0, none⟩) 2 2, .slice none 0 0, .slice none 0 0, .int .i64 (-1)] 26) := fun W hW => hbx.later hW
  have HIm : Hid (∀ W, Below w4.heap.size w4 W → Im W (gAB (some ⟨w2.heap.size, 0, none⟩) (-1))) := fun W hW => (hi3.later hb4).later hW
  have HW3 : Hid (w3 = _) := hw3
  have HW4 : Hid (w4 = _) := hw4
  have HC2 : Hid (Calls Tryz.prog 16 #[.agg #[.slice (some ⟨w2.heap.size, 0, none⟩) 2 2, .slice none 0 0, .slice none 0 0, .int .i64 (-1)]] w4 fun e w' => e = .returned (.tuple #[.int .i64 0, .int .i64 0]) ∧ Below w4.heap.size w4 w') := gAB_chk1 (HIm.out w4 (Below.refl _ _))
  have HBl1 : Hid (∀ W, Below w4.heap.size w4 W → Calls Tryz.prog 9 #[.agg #[.slice (some ⟨w2.heap.size, 0, none⟩) 2 2, .slice none 0 0, .slice none 0 0, .int .i64 (-1)], .int .i64 0, .int .i64 1] W fun e w' => e = .returned (.bool true) ∧ Below W.heap.size W w') := fun W hW => gAB_bel (HIm.out W hW)
  have HBl2 : Hid (∀ W, Below w4.heap.size w4 W → Calls Tryz.prog 9 #[.agg #[.slice (some ⟨w2.heap.size, 0, none⟩) 2 2, .slice none 0 0, .slice none 0 0, .int .i64 (-1)], .int .i64 1, .int .i64 0] W fun e w' => e = .returned (.bool false) ∧ Below W.heap.size W w') := fun W hW => gAB_bel' (HIm.out W hW)
  have x4 := hbx.cell
  clear hw3 hw4 hb2 hb3 hb4 hi3 hbx HC1
  go_wp2_with (first | (rw [← HW4.out]) | (rw [← HW3.out]))
  refine Calls.mono HC2.out ?_
  rintro e w5 ⟨rfl, hb5⟩
  have HB5 : Hid (Below w4.heap.size w4 w5) := hb5
  have x5 := (HBx.out w5 hb5).cell
  clear x4 hb5
  go_wp2_with fail
  refine Calls.mono (HBl1.out w5 HB5.out) ?_
  rintro e w6 ⟨rfl, hb6⟩
  have HB6 : Hid (Below w4.heap.size w4 w6) := bstep HB5.out hb6
  have x6 := (HBx.out w6 HB6.out).cell
  clear x5 hb6
  go_wp2_with fail
  refine Calls.mono (HBl2.out w6 HB6.out) ?_
  rintro e w7 ⟨rfl, hb7⟩
  have HB7 : Hid (Below w4.heap.size w4 w7) := bstep HB6.out hb7
  clear x6 hb7
  go_wp2_with fail
  go_ret
  exact ⟨rfl, bstep HB4.out HB7.out⟩

/-- A number drawn among so many. -/
theorem drawn_num {a : Int} {n : Nat} (ha : 0 ≤ a) (hn : 0 < n) : ∃ r : Nat, r < n ∧ a.tmod (n : Int) = (r : Int) ∧ numB (r : Int) n = true := by
  have h1 := Int.emod_nonneg a (by omega : (n : Int) ≠ 0)
  have h2 := Int.emod_lt_of_pos a (by omega : 0 < (n : Int))
  refine ⟨(a % (n : Int)).toNat, by omega, ?_, ?_⟩
  · rw [Int.tmod_eq_emod_of_nonneg ha]; omega
  · rw [numB_iff]; omega
end Go.Proofs.YtclmafoelibihaaGreat
