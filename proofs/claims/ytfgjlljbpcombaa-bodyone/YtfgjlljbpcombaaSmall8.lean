
/- numbersOf, rawOf, fill, isLength, isSmall, isTooWide, ContainsFunc, isRight. -/
import Derived.Test.YtfgjlljbpcombaaBodySpec
import Derived.Test.YtfgjlljbpcombaaCells
import Derived.Deep.RegionHeld3
import Derived.Deep.DrawnRows
import Derived.Laws.EntriesVeiled
namespace Go.Proofs.Ytfgjlljbpcombaa
set_option linter.unusedVariables false
set_option linter.unusedSimpArgs false
open Go.RowKit
attribute [local go_sem ↓] Go.wp_at_zero Go.wp_at_succ

/-- A clause as a value. -/
def rv (r : Rw) : Value := .agg #[.int .i64 r.1, .int .i64 r.2.1, .int .i64 r.2.2.1, .int .i64 r.2.2.2.1, .int .i64 r.2.2.2.2.1, .int .i64 r.2.2.2.2.2]

theorem isLength_any (n : Int) (w : World) :
    Calls Try.prog 30 #[.int .i64 n] w fun e w' => e = .returned (.bool (lenB n)) ∧ w' = w := by
  go_enter Try.func30, Try.ntmps30
  go_wp2
  all_goals go_ret
  all_goals refine ⟨?_, rfl⟩
  all_goals simp_all [lenB] <;> omega

theorem fill_any (n : Nat) (hn : n ≤ 281474976710656) (w : World) :
    Calls Try.prog 34 #[.int .i64 (n : Int)] w fun e w' => e = .returned (.int .i64 (fillN n : Int)) ∧ w' = w := by
  have h1 : Hid ((4 - (n : Int) % 4) % 4 = (fillN n : Int)) := by show _ = _; unfold fillN; omega
  go_enter Try.func34, Try.ntmps34
  go_wp2
  go_ret
  exact ⟨ret_int h1.out, rfl⟩

theorem numbersOf_any (a b c d f g : Int) (w : World) :
    Calls Try.prog 35 #[.agg #[.int .i64 a, .int .i64 b, .int .i64 c, .int .i64 d, .int .i64 f, .int .i64 g]] w fun e w' => e = .returned (.agg #[.int .i64 a, .int .i64 b, .int .i64 c, .int .i64 d, .int .i64 f, .int .i64 g]) ∧ Below w.heap.size w w' := by
  have hb0 : Hid (Below w.heap.size w (w.alloc (.cells #[.int .i64 a, .int .i64 b, .int .i64 c, .int .i64 d, .int .i64 f, .int .i64 g] 52))) := (Below.refl _ _).alloc (Nat.le_refl _) _
  go_enter Try.func35, Try.ntmps35
  go_wp2
  exact bodyPost_ret (v := .agg #[.int .i64 a, .int .i64 b, .int .i64 c, .int .i64 d, .int .i64 f, .int .i64 g]) (by simp [results, Try.results35, go_sem]) rfl ⟨rfl, hb0.out.alloc (by simp) _⟩

theorem rawOf_any (a b c d f g : Int) (w : World) :
    Calls Try.prog 49 #[.agg #[.int .i64 a, .int .i64 b, .int .i64 c, .int .i64 d, .int .i64 f, .int .i64 g]] w fun e w' => e = .returned (.agg #[.int .i64 a, .int .i64 b, .int .i64 c, .int .i64 d, .int .i64 f, .int .i64 g]) ∧ Below w.heap.size w w' := by
  have hb0 : Hid (Below w.heap.size w (w.alloc (.cells #[.int .i64 a, .int .i64 b, .int .i64 c, .int .i64 d, .int .i64 f, .int .i64 g] 66))) := (Below.refl _ _).alloc (Nat.le_refl _) _
  go_enter Try.func49, Try.ntmps49
  go_wp2
  exact bodyPost_ret (v := .agg #[.int .i64 a, .int .i64 b, .int .i64 c, .int .i64 d, .int .i64 f, .int .i64 g]) (by simp [results, Try.results49, go_sem]) rfl ⟨rfl, hb0.out.alloc (by simp) _⟩

theorem isSmall_any {w : World} (xa ya : Option Addr) (n m cx cy : Nat) (hn : n ≤ maxLen) (hm : m ≤ maxLen) :
    Calls Try.prog 18 #[.agg #[.slice xa n cx, .slice ya m cy]] w fun e w' => e = .returned (.bool (decide (n < 64) && decide (m = 0))) ∧ Below w.heap.size w w' := by
  unfold maxLen at hn hm
  go_enter Try.func18, Try.ntmps18
  go_wp2
  all_goals go_ret
  all_goals refine ⟨?_, (Below.refl _ _).alloc (Nat.le_refl _) _⟩
  all_goals rename_i hlt
  · have hd : ((m : Int) == 0) = decide (m = 0) := by by_cases h : m = 0 <;> simp [h]
    rw [hd, decide_eq_true (show n < 64 by omega), Bool.true_and]; rfl
  · rw [decide_eq_false (show ¬ n < 64 by omega), Bool.false_and]; rfl

/-- Six numbers, told apart. -/
theorem six_get (a b c d f g : Int) (k : Nat) (hk : k < 6) : ∃ x, (#[Value.int .i64 a, .int .i64 b, .int .i64 c, .int .i64 d, .int .i64 f, .int .i64 g] : Array Value)[k]? = some (.int .i64 x) ∧ (numsR (a, b, c, d, f, g))[k]? = some x := by
  rcases (show k = 0 ∨ k = 1 ∨ k = 2 ∨ k = 3 ∨ k = 4 ∨ k = 5 by omega) with rfl | rfl | rfl | rfl | rfl | rfl <;> exact ⟨_, rfl, rfl⟩
theorem Try.sizeInt : (Try.prog.info? 3).map (·.size) = some 1 := by kernel_rfl
theorem run_index6 (a b c d f g x : Int) (k : Nat) (hk : k < 6) (hx : (numsR (a, b, c, d, f, g))[k]? = some x) (W : World) :
    (Instr.index 66 (.agg #[.int .i64 a, .int .i64 b, .int .i64 c, .int .i64 d, .int .i64 f, .int .i64 g]) (.int .i64 (k : Int))).run Try.prog W = .ok (.int .i64 x) W := by
  have hq := Try.sizeInt
  cases hi : Try.prog.info? 3 with
  | none => simp [hi] at hq
  | some i =>
    have hs : i.size = 1 := by simpa [hi] using hq
    rcases (show k = 0 ∨ k = 1 ∨ k = 2 ∨ k = 3 ∨ k = 4 ∨ k = 5 by omega) with rfl | rfl | rfl | rfl | rfl | rfl <;> (simp [numsR] at hx; subst hx; simp [Instr.index, run_underlying Try.underlying66, run_underlying Try.underlying3, asIntOf, part, isAgg, sizeOf, typeInfo, hi, hs])

theorem all_take_succ {α : Type} {l : List α} {p : α → Bool} {k : Nat} {x : α} (hx : l[k]? = some x) (h : (l.take k).all p = true) (hp : p x = true) : (l.take (k + 1)).all p = true := by
  have hk := (List.getElem?_eq_some_iff.1 hx).1
  rw [List.take_succ_eq_append_getElem hk, List.all_append, h, List.all_cons, List.all_nil, (List.getElem?_eq_some_iff.1 hx).2, hp]; rfl
theorem all_no {α : Type} {l : List α} {p : α → Bool} {k : Nat} {x : α} (hx : l[k]? = some x) (hp : p x = false) : l.all p = false := by
  rw [List.all_eq_false]
  exact ⟨x, List.mem_of_getElem? hx, by simp [hp]⟩

set_option maxHeartbeats 1000000 in
theorem isTooWide_any (a b c d f g : Int) (w : World) :
    Calls Try.prog 32 #[.agg #[.int .i64 a, .int .i64 b, .int .i64 c, .int .i64 d, .int .i64 f, .int .i64 g]] w fun e w' => e = .returned (.bool (!fitR (a, b, c, d, f, g))) ∧ Below w.heap.size w w' := by
  have hb0 : Hid (Below w.heap.size w (w.alloc (.cells #[.int .i64 a, .int .i64 b, .int .i64 c, .int .i64 d, .int .i64 f, .int .i64 g] 52))) := (Below.refl _ _).alloc (Nat.le_refl _) _
  have HN : Hid (Calls Try.prog 35 #[.agg #[.int .i64 a, .int .i64 b, .int .i64 c, .int .i64 d, .int .i64 f, .int .i64 g]] (w.alloc (.cells #[.int .i64 a, .int .i64 b, .int .i64 c, .int .i64 d, .int .i64 f, .int .i64 g] 52)) fun e w' => e = .returned (.agg #[.int .i64 a, .int .i64 b, .int .i64 c, .int .i64 d, .int .i64 f, .int .i64 g]) ∧ Below w.heap.size w w') := by
    refine (numbersOf_any a b c d f g _).mono ?_
    rintro e w' ⟨rfl, h⟩
    exact ⟨rfl, hb0.out.trans (h.mono (by simp))⟩
  go_enter Try.func32, Try.ntmps32
  go_wp2_with fail
  refine Calls.mono HN.out ?_
  rintro e w1 ⟨rfl, h1⟩
  have HB : Hid (Below w.heap.size w w1) := h1
  clear h1 HN hb0
  go_wp2
  go_loopw [7] (fun z wr => ∃ q : Nat, q ≤ 6 ∧ z = .int .i64 (q : Int) ∧ wr = w1 ∧ ((numsR (a, b, c, d, f, g)).take q).all fitN = true) (fun z _ => 6 - (intOf z).toNat)
  case atStart => exact ⟨0, Nat.zero_le _, rfl, rfl, rfl⟩
  case round =>
    obtain ⟨q, hq, rfl, hwr, hall⟩ := hrel
    subst wr
    by_cases hq6 : q < 6
    · obtain ⟨x, -, hx⟩ := six_get a b c d f g q hq6
      have hix := run_index6 a b c d f g x q hq6 hx
      by_cases hfx : fitN x = true
      · have hf2 := (fitN_iff x).1 hfx
        have HX : Hid (((numsR (a, b, c, d, f, g)).take (q + 1)).all fitN = true) := all_take_succ hx hall hfx
        clear hall hx hfx
        go_wp2
        go_roundw
        case rel => exact ⟨q + 1, by omega, by go_num, trivial, HX.out⟩
        case measure => simp [intOf]; omega
      · have hfx' : fitN x = false := by simpa using hfx
        have HX : Hid (fitR (a, b, c, d, f, g) = false) := all_no hx hfx'
        have hf2 : ¬ (0 ≤ x ∧ x ≤ 65535) := fun h => hfx ((fitN_iff x).2 h)
        clear hall hx hfx hfx'
        go_wp2
        all_goals go_ret
        all_goals exact ⟨by rw [HX.out]; rfl, HB.out⟩
    · have hq' : q = 6 := by omega
      subst hq'
      have HX : Hid (fitR (a, b, c, d, f, g) = true) := hall
      clear hall
      go_wp2
      go_ret
      exact ⟨by rw [HX.out]; rfl, HB.out⟩

/-- A clause of a slice, as cells. -/
theorem Six8.out {w : World} {b o : Nat} {x : Rw} (h : Six8 w b o x) : w.cell? ⟨b, o, none⟩ = some (.int .i64 x.1) ∧ w.cell? ⟨b, o + 1, none⟩ = some (.int .i64 x.2.1) ∧ w.cell? ⟨b, o + 2, none⟩ = some (.int .i64 x.2.2.1) ∧
  w.cell? ⟨b, o + 3, none⟩ = some (.int .i64 x.2.2.2.1) ∧ w.cell? ⟨b, o + 4, none⟩ = some (.int .i64 x.2.2.2.2.1) ∧ w.cell? ⟨b, o + 5, none⟩ = some (.int .i64 x.2.2.2.2.2) := h

theorem run_enter8 (W : World) (args : Array Value) : (callFunc 32 args).run Try.prog W = .ok (.enter 32 args) W := rfl

theorem index8_none (xa : Option Addr) (ca : Nat) (w : World) :
    Calls Try.prog 42 #[.slice xa 0 ca, .func (.func 32) #[] #[]] w fun e w' => e = .returned (.int .i64 (-1)) ∧ w' = w := by
  go_enter Try.func42, Try.ntmps42
  go_wp2
  refine wp_loop_rounds 1 ?_; rw [rounds_succ]
  go_wp2
  go_ret
  exact ⟨rfl, rfl⟩

set_option maxHeartbeats 1000000 in
theorem index8_some {w : World} {b off cap : Nat} {l : List Rw} (hl : l.length ≤ maxLen) (hbl : b < w.heap.size) (hc : ∀ i (h : i < l.length), Six8 w b (off + i * 6) l[i]) :
    Calls Try.prog 42 #[.slice (some ⟨b, off, none⟩) l.length cap, .func (.func 32) #[] #[]] w fun e w' => (∃ n : Int, e = .returned (.int .i64 n) ∧ (0 ≤ n ↔ l.all fitR = false)) ∧ Below w.heap.size w w' := by
  unfold maxLen at hl
  have HC : Hid (∀ i (h : i < l.length), Six8 w b (off + i * 6) l[i]) := hc
  clear hc
  go_enter Try.func42, Try.ntmps42
  go_wp2
  go_loopw [8] (fun z wr => ∃ q : Nat, q ≤ l.length ∧ z = .int .i64 (q : Int) ∧ Below w.heap.size w wr ∧ (l.take q).all fitR = true) (fun z _ => l.length - (intOf z).toNat)
  case atStart => exact ⟨0, Nat.zero_le _, rfl, Below.refl _ _, rfl⟩
  case round =>
    obtain ⟨q, hq, rfl, hB, hall⟩ := hrel
    by_cases hql : q < l.length
    · obtain ⟨c0, c1, c2, c3, c4, c5⟩ := (HC.out q hql).below hB hbl
      have hx : l[q]? = some l[q] := List.getElem?_eq_getElem hql
      generalize l[q] = t at *
      obtain ⟨x0, x1, x2, x3, x4, x5⟩ := t
      simp only at c0 c1 c2 c3 c4 c5
      have HT : Hid (Calls Try.prog 32 #[.agg #[.int .i64 x0, .int .i64 x1, .int .i64 x2, .int .i64 x3, .int .i64 x4, .int .i64 x5]] wr fun e w' => e = .returned (.bool (!fitR (x0, x1, x2, x3, x4, x5))) ∧ Below w.heap.size w w') := by
        refine (isTooWide_any x0 x1 x2 x3 x4 x5 wr).mono ?_
        rintro e w' ⟨rfl, h⟩
        exact ⟨rfl, hB.trans (h.mono hB.size)⟩
      have HAL : Hid ((l.take q).all fitR = true) := hall
      have HX : Hid (l[q]? = some (x0, x1, x2, x3, x4, x5)) := hx
      clear hB hall hx
      go_wp2_with fail
      refine Calls.mono HT.out ?_
      rintro e w2 ⟨rfl, h2⟩
      have HB2 : Hid (Below w.heap.size w w2) := h2
      clear h2 HT c0 c1 c2 c3 c4 c5
      cases hf : fitR (x0, x1, x2, x3, x4, x5) with
      | true =>
        go_wp2
        go_roundw
        case rel => exact ⟨q + 1, by omega, by go_num, HB2.out, all_take_succ HX.out HAL.out hf⟩
        case measure => simp [intOf]; omega
      | false =>
        go_wp2
        go_ret
        exact ⟨⟨_, rfl, fun _ => all_no HX.out hf, fun _ => by omega⟩, HB2.out⟩
    · have hall' : l.all fitR = true := by rw [show q = l.length by omega, List.take_length] at hall; exact hall
      have HAL : Hid (l.all fitR = true) := hall'
      have HB : Hid (Below w.heap.size w wr) := hB
      clear hall hall' hB
      go_wp2
      go_ret
      exact ⟨⟨_, rfl, fun h => absurd h (by decide), fun h => by rw [HAL.out] at h; cases h⟩, HB.out⟩

theorem index8_any {w : World} {v : Value} {l : List Rw} (h : Ws w v l) :
    Calls Try.prog 42 #[v, .func (.func 32) #[] #[]] w fun e w' => (∃ n : Int, e = .returned (.int .i64 n) ∧ (0 ≤ n ↔ l.all fitR = false)) ∧ Below w.heap.size w w' := by
  have hl := h.len
  by_cases hne : l = []
  · subst hne
    obtain ⟨xa, ca, rfl, _, _, _⟩ := h
    refine (index8_none xa ca w).mono ?_
    rintro e w' ⟨rfl, rfl⟩
    exact ⟨⟨-1, rfl, by simp⟩, Below.refl _ _⟩
  · obtain ⟨b, off, cap, rfl, _, _, hb, hc⟩ := h.parts hne
    exact index8_some hl hb hc

theorem contains8_any {w : World} {v : Value} {l : List Rw} (h : Ws w v l) :
    Calls Try.prog 31 #[v, .func (.func 32) #[] #[]] w fun e w' => e = .returned (.bool (!l.all fitR)) ∧ Below w.heap.size w w' := by
  have HI : Hid (Calls Try.prog 42 #[v, .func (.func 32) #[] #[]] w fun e w' => (∃ n : Int, e = .returned (.int .i64 n) ∧ (0 ≤ n ↔ l.all fitR = false)) ∧ Below w.heap.size w w') := index8_any h
  clear h
  go_enter Try.func31, Try.ntmps31
  go_wp2_with fail
  refine Calls.mono HI.out ?_
  rintro e w1 ⟨⟨n, rfl, hn⟩, h1⟩
  have HN : Hid (0 ≤ n ↔ l.all fitR = false) := hn
  have HB : Hid (Below w.heap.size w w1) := h1
  clear hn h1 HI
  go_wp2
  go_ret
  refine ⟨?_, HB.out⟩
  have := HN.out
  cases h : l.all fitR with
  | true => rw [h] at this; simp at this; simp; omega
  | false => rw [h] at this; simp at this; simp; omega

set_option maxHeartbeats 1000000 in
theorem isRight_any {w : World} {xa ya : Option Addr} {n cx cy : Nat} {l : List Rw} (hn : n ≤ maxLen) (h : Ws w (.slice ya l.length cy) l) :
    Calls Try.prog 17 #[.agg #[.slice xa n cx, .slice ya l.length cy]] w fun e w' => e = .returned (.bool (lenB (n : Int) && decide (l.length ≤ 6) && l.all fitR)) ∧ Below w.heap.size w w' := by
  have hl := h.len
  unfold maxLen at hn hl
  have hb0 : Below w.heap.size w (w.alloc (.cells #[.slice xa n cx, .slice ya l.length cy] 25)) := (Below.refl _ _).alloc (Nat.le_refl _) _
  have HB0 : Hid (Below w.heap.size w (w.alloc (.cells #[.slice xa n cx, .slice ya l.length cy] 25))) := hb0
  have HC : Hid (Calls Try.prog 31 #[.slice ya l.length cy, .func (.func 32) #[] #[]] (w.alloc (.cells #[.slice xa n cx, .slice ya l.length cy] 25)) fun e w' => e = .returned (.bool (!l.all fitR)) ∧ Below w.heap.size w w') := by
    refine (contains8_any (h.later hb0)).mono ?_
    rintro e w' ⟨rfl, h⟩
    exact ⟨rfl, hb0.trans (h.mono (by simp))⟩
  clear h hb0
  go_enter Try.func17, Try.ntmps17
  go_wp2_with fail
  refine (isLength_any _ _).mono ?_
  rintro e wz ⟨rfl, hz⟩
  subst wz
  cases hL : lenB (n : Int) with
  | false =>
    go_wp2
    go_ret
    exact ⟨by rw [hL]; rfl, HB0.out⟩
  | true =>
    by_cases h6 : l.length ≤ 6
    · go_wp2_with fail
      refine Calls.mono HC.out ?_
      rintro e w1 ⟨rfl, h1⟩
      have HB : Hid (Below w.heap.size w w1) := h1
      clear h1 HC HB0
      go_wp2
      go_ret
      refine ⟨?_, HB.out⟩
      rw [hL, decide_eq_true h6]; simp
    · go_wp2
      go_ret
      refine ⟨?_, HB0.out⟩
      first | rfl | (rw [decide_eq_false h6, hL]; rfl)

end Go.Proofs.Ytfgjlljbpcombaa
