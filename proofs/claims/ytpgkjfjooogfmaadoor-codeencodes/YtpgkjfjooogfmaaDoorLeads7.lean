
/- Does a way lead behind the last one? -/
import Derived.Test.YtpgkjfjooogfmaaDoorIns7
import Derived.Test.YtpgkjfjooogfmaaDoorRaw7
namespace Go.Proofs.YtpgkjfjooogfmaaDoor
set_option linter.unusedVariables false
set_option linter.unusedSimpArgs false
open Go.RowKit

theorem leads_any (n : Int) (w : World) :
    Calls Tryd.prog 21 #[.int .i64 n] w fun e w' => e = .returned (.func (.func 33) #[] #[.pointer (some ⟨w.heap.size, 0, none⟩)]) ∧ w' = w.alloc (.cells #[.int .i64 n] 3) := by
  go_enter Tryd.func21, Tryd.ntmps21
  go_wp2
  go_ret
  exact ⟨rfl, rfl⟩

set_option maxHeartbeats 1000000 in
theorem leads1_any (m tb : Nat) (op n k i d : Int) (r : Bool) (w : World) (hm : m ≤ 1000) (ht : w.cell? ⟨tb, 0, none⟩ = some (.int .i64 (m : Int))) (htb : tb < w.heap.size) :
    Calls Tryd.prog 33 #[.agg #[.int .i64 op, .int .i64 n, .int .i64 k, .int .i64 i, .int .i64 d, .bool r], .pointer (some ⟨tb, 0, none⟩)] w fun e w' => e = .returned (.bool (behB m (op, n, k, i, d, r))) ∧ Below w.heap.size w w' := by
  have hb0 : Below w.heap.size w (w.alloc (.cells #[.int .i64 op, .int .i64 n, .int .i64 k, .int .i64 i, .int .i64 d, .bool r] 45)) := (Below.refl _ _).alloc (Nat.le_refl _) _
  have hA0 := At.made w #[.int .i64 op, .int .i64 n, .int .i64 k, .int .i64 i, .int .i64 d, .bool r] 45
  have HR : Hid (behB m (op, n, k, i, d, r) = (decide (opK op = 5) && decide ((m : Int) ≤ n))) := rfl
  have hkl := opK_le op
  go_enter Tryd.func33, Tryd.ntmps33
  go_wp2_with fail
  refine (operandOf_any op n k i d r _).mono ?_
  rintro e w1 ⟨rfl, hb⟩
  have hA := hA0.later hb
  have hB := hb0.trans (hb.mono hb0.size)
  have tc := hA.cell
  have ht1 : w1.cell? ⟨tb, 0, none⟩ = some (.int .i64 (m : Int)) := by rw [← ht]; exact hB.cell (p := ⟨tb, 0, none⟩) htb
  clear hb hb0 hA0 ht
  by_cases h5 : opK op = 5
  · have h5' : ((opK op : Int) == 5) = true := by rw [beq_iff_eq]; omega
    have HR2 : Hid (behB m (op, n, k, i, d, r) = decide ((m : Int) ≤ n)) := by show _ = _; rw [HR.out, decide_eq_true h5]; rfl
    clear h5
    go_wp2_with fail
    go_ret
    exact ⟨ret_bool HR2.out.symm, hB⟩
  · have h5' : ((opK op : Int) == 5) = false := by rw [beq_eq_false_iff_ne]; omega
    have HR2 : Hid (behB m (op, n, k, i, d, r) = false) := by show _ = _; rw [HR.out, decide_eq_false h5]; rfl
    clear h5
    go_wp2_with fail
    go_ret
    exact ⟨ret_bool HR2.out.symm, hB⟩

theorem any_false_take {p : Ins → Bool} {l : List Ins} {q : Nat} (hq : q < l.length) (h : (l.take q).any p = false) (hx : p l[q] = false) : (l.take (q + 1)).any p = false := by
  rw [List.take_succ_eq_append_getElem hq, List.any_append, h]
  simpa using hx

set_option maxHeartbeats 1000000 in
theorem index7_some {b off cap m tb : Nat} {l : List Ins} {w : World} (hb : b < w.heap.size) (hc : ∀ i (hi : i < l.length), Six w b (off + i * 6) l[i]) (hl : l.length ≤ 1000) (hm : m ≤ 1000) (htb : tb < w.heap.size) (ht : w.cell? ⟨tb, 0, none⟩ = some (.int .i64 (m : Int))) :
    Calls Tryd.prog 32 #[.slice (some ⟨b, off, none⟩) l.length cap, .func (.func 33) #[] #[.pointer (some ⟨tb, 0, none⟩)]] w fun e w' =>
      (∃ k : Int, e = .returned (.int .i64 k) ∧ (0 ≤ k ↔ l.any (behB m) = true)) ∧ Below w.heap.size w w' := by
  have HC : Hid (∀ i (hi : i < l.length), Six w b (off + i * 6) l[i]) := hc
  have HT : Hid (w.cell? ⟨tb, 0, none⟩ = some (.int .i64 (m : Int))) := ht
  clear hc ht
  go_enter Tryd.func32, Tryd.ntmps32
  go_wp2_with fail
  go_loopw [5, 8] (fun _ z wr => ∃ q : Nat, q ≤ l.length ∧ z = .int .i64 q ∧ Below w.heap.size w wr ∧ (l.take q).any (behB m) = false) (fun _ z _ => l.length - (intOf z).toNat)
  case atStart => exact ⟨0, Nat.zero_le _, rfl, Below.refl _ _, by simp⟩
  case round =>
    obtain ⟨q, hq, rfl, hB, hany⟩ := hrel
    have HAn : Hid ((l.take q).any (behB m) = false) := hany
    have hsz := hB.size
    have hct : wr.cell? ⟨tb, 0, none⟩ = some (.int .i64 (m : Int)) := by rw [← HT.out]; exact hB.cell (p := ⟨tb, 0, none⟩) htb
    clear hany
    by_cases hql : q < l.length
    · obtain ⟨c0, c1, c2, c3, c4, c5⟩ := (HC.out q hql).below hB hb
      have HN : Hid (behB m l[q] = false → (l.take (q + 1)).any (behB m) = false) := any_false_take hql HAn.out
      have HY : Hid (behB m l[q] = true → l.any (behB m) = true) := fun h => List.any_eq_true.2 ⟨_, List.getElem_mem hql, h⟩
      generalize l[q] = x at *
      obtain ⟨op, n, k, i, d, r⟩ := x
      simp only at c0 c1 c2 c3 c4 c5
      have HL : Hid (Calls Tryd.prog 33 #[.agg #[.int .i64 op, .int .i64 n, .int .i64 k, .int .i64 i, .int .i64 d, .bool r], .pointer (some ⟨tb, 0, none⟩)] wr fun e w' => e = .returned (.bool (behB m (op, n, k, i, d, r))) ∧ Below wr.heap.size wr w') := leads1_any m tb op n k i d r wr hm hct (by omega)
      have HBL : Hid (Below w.heap.size w wr) := hB
      clear hB hct
      cases hx : behB m (op, n, k, i, d, r) with
      | false =>
        have H1 : Hid ((l.take (q + 1)).any (behB m) = false) := HN.out hx
        rw [hx] at HL
        go_wp2_with fail
        refine Calls.mono HL.out ?_
        rintro e w1 ⟨rfl, hb1⟩
        have hB1 := HBL.out.trans (hb1.mono hsz)
        clear hb1
        go_wp2_with fail
        go_roundw
        case rel => exact ⟨q + 1, by omega, by go_num, hB1, H1.out⟩
        case measure => simp [intOf]; omega
      | true =>
        have H1 : Hid (l.any (behB m) = true) := HY.out hx
        rw [hx] at HL
        go_wp2_with fail
        refine Calls.mono HL.out ?_
        rintro e w1 ⟨rfl, hb1⟩
        have hB1 := HBL.out.trans (hb1.mono hsz)
        clear hb1
        go_wp2_with fail
        go_ret
        exact ⟨⟨_, rfl, ⟨fun _ => H1.out, fun _ => by omega⟩⟩, hB1⟩
    · have HF : Hid (l.any (behB m) = false) := by
        show _ = _
        have := HAn.out
        rwa [List.take_of_length_le (by omega)] at this
      go_wp2
      go_ret
      exact ⟨⟨_, rfl, ⟨fun h => absurd h (by decide), fun h => absurd h (by rw [HF.out]; decide)⟩⟩, hB⟩

theorem index7_none (a : Option Addr) (cap m : Nat) (f : Value) (w : World) :
    Calls Tryd.prog 32 #[.slice a 0 cap, f] w fun e w' => e = .returned (.int .i64 (-1)) ∧ w' = w := by
  go_enter Tryd.func32, Tryd.ntmps32
  go_wp2
  refine wp_loop_rounds 1 ?_; rw [rounds_succ]
  go_wp2
  go_ret
  exact ⟨rfl, rfl⟩

theorem contains7_any {v : Value} {l : List Ins} {w : World} (hX : Xs w v l) (hl : l.length ≤ 1000) (m tb : Nat) (hm : m ≤ 1000) (htb : tb < w.heap.size) (ht : w.cell? ⟨tb, 0, none⟩ = some (.int .i64 (m : Int))) :
    Calls Tryd.prog 20 #[v, .func (.func 33) #[] #[.pointer (some ⟨tb, 0, none⟩)]] w fun e w' => e = .returned (.bool (l.any (behB m))) ∧ Below w.heap.size w w' := by
  have HI : Hid (Calls Tryd.prog 32 #[v, .func (.func 33) #[] #[.pointer (some ⟨tb, 0, none⟩)]] w fun e w' => (∃ k : Int, e = .returned (.int .i64 k) ∧ (0 ≤ k ↔ l.any (behB m) = true)) ∧ Below w.heap.size w w') := by
    by_cases hne : l = []
    · subst hne
      obtain ⟨a, c, rfl, _, _⟩ := hX.shape
      refine (index7_none a c m _ w).mono ?_
      rintro e w' ⟨rfl, rfl⟩
      exact ⟨⟨_, rfl, ⟨fun h => absurd h (by decide), fun h => by simp at h⟩⟩, Below.refl _ _⟩
    · obtain ⟨b, off, cap, rfl, h1, h2, hb, hc⟩ := hX.parts hne
      exact index7_some hb hc hl hm htb ht
  clear hX ht
  go_enter Tryd.func20, Tryd.ntmps20
  go_wp2_with fail
  refine Calls.mono HI.out ?_
  rintro e w1 ⟨⟨k, rfl, hk⟩, hb1⟩
  have HK : Hid (decide (0 ≤ k) = l.any (behB m)) := by
    show _ = _
    rw [Bool.eq_iff_iff, decide_eq_true_iff]; exact hk
  clear hk
  go_wp2
  go_ret
  exact ⟨ret_bool HK.out, hb1⟩

end Go.Proofs.YtpgkjfjooogfmaaDoor
