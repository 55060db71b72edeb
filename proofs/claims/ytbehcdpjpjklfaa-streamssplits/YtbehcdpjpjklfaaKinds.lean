
/- The table of kinds, and the search in it. -/
import Derived.Test.YtbehcdpjpjklfaaRows
import Derived.Test.YtbehcdpjpjklfaaBegin3
namespace Go.Proofs.Ytbehcdpjpjklfaa
set_option linter.unusedVariables false
set_option linter.unusedSimpArgs false
open Go.RowKit Go.Maps
attribute [local go_sem ↓] Go.wp_at_zero Go.wp_at_succ

def pickN : Nat → Nat
  | 0 => 34
  | 1 => 35
  | 2 => 36
  | _ => 37
def pickF (k : Nat) : Value := .func (.func (pickN k)) #[] #[]

theorem kinds_any (w : World) :
    Calls Try.prog 20 #[] w fun e w' => e = .returned (.slice (some ⟨w.heap.size, 0, none⟩) 4 4) ∧
      w' = w.alloc (Obj.cells #[.string (tagS 0), pickF 0, .string (tagS 1), pickF 1, .string (tagS 2), pickF 2, .string (tagS 3), pickF 3] 71) := by
  go_enter Try.func20, Try.ntmps20
  go_wp2
  go_ret
  exact ⟨rfl, rfl⟩

/-- The address that a pick answers. -/
theorem pick_any (k : Nat) (h : k < 4) (b o : Nat) (w : World) :
    Calls Try.prog (pickN k) #[.pointer (some ⟨b, o, none⟩)] w fun e w' => e = .returned (.pointer (some ⟨b, o + k, none⟩)) ∧ w' = w := by
  rcases four_cases h with rfl | rfl | rfl | rfl
  · show Calls Try.prog 34 _ _ _
    go_enter Try.func34, Try.ntmps34
    go_wp2
    go_ret
    exact ⟨rfl, rfl⟩
  · show Calls Try.prog 35 _ _ _
    go_enter Try.func35, Try.ntmps35
    go_wp2
    go_ret
    exact ⟨rfl, rfl⟩
  · show Calls Try.prog 36 _ _ _
    go_enter Try.func36, Try.ntmps36
    go_wp2
    go_ret
    exact ⟨rfl, rfl⟩
  · show Calls Try.prog 37 _ _ _
    go_enter Try.func37, Try.ntmps37
    go_wp2
    go_ret
    exact ⟨rfl, rfl⟩

/-- From cell 0 on the table of these kinds lies there. -/
def Tab (w : World) (kb : Nat) (ks : List Nat) : Prop := ∀ i (h : i < ks.length), w.cell? ⟨kb, 2 * i, none⟩ = some (.string (tagS ks[i])) ∧ w.cell? ⟨kb, 2 * i + 1, none⟩ = some (pickF ks[i])

/-- Where the tag stands among these kinds; as many as there are, if it doesn't. -/
def idxT (t : List UInt8) : List Nat → Nat
  | [] => 0
  | k :: l => if tagB k = t then 0 else idxT t l + 1

/-- What IndexFunc answers. -/
def idxI (t : List UInt8) (ks : List Nat) : Int := if idxT t ks < ks.length then (idxT t ks : Int) else -1
theorem idxI_yes {t : List UInt8} {ks : List Nat} (h : idxT t ks < ks.length) : idxI t ks = (idxT t ks : Int) := if_pos h
theorem idxI_no {t : List UInt8} {ks : List Nat} (h : ¬ idxT t ks < ks.length) : idxI t ks = -1 := if_neg h

theorem same_text (s t : ByteArray) (w : World) (tb : Nat) (f : Fn) (ht : w.cell? ⟨tb, 0, none⟩ = some (.string t)) :
    Calls Try.prog 39 #[.agg #[.string s, .func f #[] #[]], .pointer (some ⟨tb, 0, none⟩)] w fun e w' => e = .returned (.bool (decide (s.data.toList = t.data.toList))) ∧ Below w.heap.size w w' := by
  have hq := str_eq s t
  have hne := World.new_ne w ⟨tb, 0, none⟩ ht
  have ht2 : (w.alloc (Obj.cells #[.string s, .func f #[] #[]] 71)).cell? ⟨tb, 0, none⟩ = some (.string t) := by
    rw [← ht]; exact World.cell?_of_block (heap_alloc_old w _ (by have := World.new_ne w ⟨tb, 0, none⟩ ht; rcases Nat.lt_or_ge tb w.heap.size with h | h; exact h; simp [World.cell?, Array.getElem?_eq_none h] at ht))
  go_enter Try.func39, Try.ntmps39
  go_wp2
  go_ret
  exact ⟨ret_bool rfl, (Below.refl _ _).alloc (Nat.le_refl _) _⟩

theorem idxT_hit {t : List UInt8} {ks : List Nat} {k : Nat} (h : k < ks.length) (e : tagB ks[k] = t) : idxT t (ks.drop k) = 0 := by
  rw [List.drop_eq_getElem_cons h]; simp [idxT, e]
theorem idxT_miss {t : List UInt8} {ks : List Nat} {k : Nat} (h : k < ks.length) (e : tagB ks[k] ≠ t) : idxT t (ks.drop k) = idxT t (ks.drop (k + 1)) + 1 := by
  rw [List.drop_eq_getElem_cons h]; simp [idxT, e]

set_option maxHeartbeats 1000000 in
theorem index_kind (kb tb : Nat) (ks : List Nat) (cap : Nat) (t : ByteArray) (w : World) (hn : ks.length ≤ 4) (hkb : kb < w.heap.size) (htb : tb < w.heap.size) (hT : Tab w kb ks) (ht : w.cell? ⟨tb, 0, none⟩ = some (.string t)) :
    Calls Try.prog 38 #[.slice (some ⟨kb, 0, none⟩) ks.length cap, .func (.func 39) #[] #[.pointer (some ⟨tb, 0, none⟩)]] w fun e w' =>
      e = .returned (.int .i64 (idxI t.data.toList ks)) ∧ Below w.heap.size w w' := by
  have HT : Hid (Tab w kb ks) := hT
  have HTT : Hid (w.cell? ⟨tb, 0, none⟩ = some (.string t)) := ht
  clear hT ht
  go_enter Try.func38, Try.ntmps38
  go_wp2_with fail
  go_loopw [5, 8] (fun _ i wr => ∃ k : Nat, k ≤ ks.length ∧ i = .int .i64 k ∧ Below w.heap.size w wr ∧ idxT t.data.toList ks = idxT t.data.toList (ks.drop k) + k) (fun _ i _ => ks.length - (intOf i).toNat)
  case atStart => exact ⟨0, Nat.zero_le _, rfl, Below.refl _ _, by simp⟩
  case round =>
    obtain ⟨k, hk, rfl, hbel, hix⟩ := hrel
    have HBL : Hid (Below w.heap.size w wr) := hbel
    have HIX : Hid (idxT t.data.toList ks = idxT t.data.toList (ks.drop k) + k) := hix
    have hc2 : wr.cell? ⟨tb, 0, none⟩ = some (.string t) := by rw [← HTT.out]; exact World.cell?_of_block (hbel.block tb htb)
    have hsz := hbel.size
    clear hix
    by_cases hlt : k < ks.length
    · have hc0 : wr.cell? ⟨kb, k * 2, none⟩ = some (.string (tagS ks[k])) := by rw [Nat.mul_comm, ← (HT.out k hlt).1]; exact World.cell?_of_block (hbel.block kb hkb)
      have hc1 : wr.cell? ⟨kb, k * 2 + 1, none⟩ = some (pickF ks[k]) := by rw [Nat.mul_comm, ← (HT.out k hlt).2]; exact World.cell?_of_block (hbel.block kb hkb)
      clear hbel
      by_cases he : tagB ks[k] = t.data.toList
      · have HI : Hid (idxT t.data.toList ks = k) := by show _ = _; rw [HIX.out, idxT_hit hlt he]; omega
        go_wp2_with fail
        refine (same_text (tagS ks[k]) t wr tb (.func (pickN ks[k])) hc2).mono ?_
        rintro e w1 ⟨rfl, hb1⟩
        have HB1 : Hid (Below w.heap.size w w1) := HBL.out.trans (hb1.mono hsz)
        rw [tagS_list, decide_eq_true he]
        clear hb1
        go_wp2_with fail
        go_ret
        exact ⟨ret_int (by rw [idxI_yes (by rw [HI.out]; exact hlt), HI.out]), HB1.out⟩
      · have HI : Hid (idxT t.data.toList ks = idxT t.data.toList (ks.drop (k + 1)) + (k + 1)) := by show _ = _; rw [HIX.out, idxT_miss hlt he]; omega
        go_wp2_with fail
        refine (same_text (tagS ks[k]) t wr tb (.func (pickN ks[k])) hc2).mono ?_
        rintro e w1 ⟨rfl, hb1⟩
        have HB1 : Hid (Below w.heap.size w w1) := HBL.out.trans (hb1.mono hsz)
        rw [tagS_list, decide_eq_false he]
        clear hb1
        go_wp2_with fail
        go_roundw
        case rel => exact ⟨k + 1, by omega, by go_num, HB1.out, HI.out⟩
        case measure => simp [intOf]; omega
    · have HI : Hid (¬ idxT t.data.toList ks < ks.length) := by show ¬ _; rw [HIX.out]; omega
      go_wp2_with fail
      go_ret
      exact ⟨ret_int (by rw [idxI_no HI.out]), HBL.out⟩

end Go.Proofs.Ytbehcdpjpjklfaa
