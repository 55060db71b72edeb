
/- The statements' example holds; what calls leave, in one form. -/
import Derived.Test.YtpgkjfjooogfmaaDoorEnc7
namespace Go.Proofs.YtpgkjfjooogfmaaDoor
set_option linter.unusedVariables false
set_option linter.unusedSimpArgs false
open Go.RowKit

theorem PlR.uni {w w' : World} {l : List Ins} {e : Ending} (h : PlR w w' l e) : ∃ pv, e = .returned (.tuple #[pv, .int .i64 (plE l)]) ∧ Is w' pv (plL l) := by
  unfold plL
  by_cases hE : plE l = 0
  · obtain ⟨pv, rfl, ho⟩ := h.yes hE
    rw [if_pos hE, hE]
    exact ⟨pv, rfl, ho.is⟩
  · rw [if_neg hE]
    exact ⟨_, h.no hE, Sl.nil _⟩
theorem EnR.uni {w w' : World} {l : List Ins} {e : Ending} (h : EnR w w' l e) : ∃ bv, e = .returned (.tuple #[bv, .int .i64 (encE l)]) ∧ Bs w' bv (encL l) := by
  unfold encL
  by_cases hE : encE l = 0
  · obtain ⟨bv, rfl, ho⟩ := h.yes hE
    rw [if_pos hE, hE]
    exact ⟨bv, rfl, ho.bs⟩
  · rw [if_neg hE]
    exact ⟨_, h.no hE, Bs.nil _⟩
theorem encL_len (l : List Ins) : (encL l).length ≤ 1440 := by
  unfold encL
  split
  · rename_i h
    have h1 := (plE_zero (encE_zero h).1).1
    have h2 := encTo_length l l.length (Nat.le_refl _)
    have h3 := szL_take_le l l.length
    omega
  · simp

set_option maxHeartbeats 1000000 in
theorem wakes7_any (w : World) (hW : Wd w) :
    Calls Tryd.prog 7 #[] w fun e w' => e = .returned (.bool true) ∧ Below w.heap.size w w' := by
  have HE : Hid (encE [(1, 0, 0, 0, 0, false), (34, 0, 0, 0, 0, false)] = 0 ∧ encTo [(1, 0, 0, 0, 0, false), (34, 0, 0, 0, 0, false)] 2 = [1, 34, 252, 255]) := ⟨by decide +kernel, by decide +kernel⟩
  have hb0 : Below w.heap.size w (w.alloc (.cells #[.int .i64 1, .int .i64 0, .int .i64 0, .int .i64 0, .int .i64 0, .bool false, .int .i64 34, .int .i64 0, .int .i64 0, .int .i64 0, .int .i64 0, .bool false] 45)) := (Below.refl _ _).alloc (Nat.le_refl _) _
  have HC : Hid (Calls Tryd.prog 10 #[.slice (some ⟨w.heap.size, 0, none⟩) 2 2] (w.alloc (.cells #[.int .i64 1, .int .i64 0, .int .i64 0, .int .i64 0, .int .i64 0, .bool false, .int .i64 34, .int .i64 0, .int .i64 0, .int .i64 0, .int .i64 0, .bool false] 45)) fun e w' => (∃ v, e = .returned (.tuple #[v, .int .i64 0]) ∧ Bs w' v [1, 34, 252, 255]) ∧ Below w.heap.size w w') := by
    have hX := (OwnX.lit w 0 [(1, 0, 0, 0, 0, false), (34, 0, 0, 0, 0, false)] #[.int .i64 1, .int .i64 0, .int .i64 0, .int .i64 0, .int .i64 0, .bool false, .int .i64 34, .int .i64 0, .int .i64 0, .int .i64 0, .int .i64 0, .bool false] 2 (Nat.zero_le _) rfl rfl (by simp [maxLen])).xs
    refine (encode_any hX (hW.later hb0)).mono ?_
    rintro e w' ⟨hy, _, hb⟩
    obtain ⟨v, rfl, ho⟩ := hy HE.out.1
    have hbs := ho.bs
    rw [show ([(1, 0, 0, 0, 0, false), (34, 0, 0, 0, 0, false)] : List Ins).length = 2 from rfl, HE.out.2] at hbs
    exact ⟨⟨v, rfl, hbs⟩, hb0.trans (hb.mono hb0.size)⟩
  clear hb0 hW HE
  go_enter Tryd.func7, Tryd.ntmps7
  go_wp2_with fail
  refine Calls.mono HC.out ?_
  rintro e w1 ⟨⟨v1, rfl, h1⟩, hb1⟩
  have hcv : (convert 30 9 v1).run Tryd.prog w1 = .ok (.string ⟨#[1, 34, 252, 255]⟩) w1 := convert_bs h1
  clear h1 HC
  go_wp2
  go_ret
  exact ⟨rfl, hb1⟩

end Go.Proofs.YtpgkjfjooogfmaaDoor
