
/- Numbers and Right of layer 8's references. -/
import Derived.Test.YtfgjlljbpcombaaWrites8
import Derived.Test.YtfgjlljbpcombaaApd
namespace Go.Proofs.Ytfgjlljbpcombaa
set_option linter.unusedVariables false
set_option linter.unusedSimpArgs false
open Go.RowKit
attribute [local go_sem ↓] Go.wp_at_zero Go.wp_at_succ

/-- The cells of numbers. -/
def ints8 (l : List Int) : List Value := l.map fun n => .int .i64 n
theorem Try.infoInt8 : (Try.prog.info? 3).map (fun i => (i.zero, i.size, i.bytes)) = some (some (.int .i64 0), 1, 8) := by kernel_rfl

/-- Six numbers in memory. -/
def Nm (w : World) (v : Value) (r : Rw) : Prop := ∃ g cap C, v = .slice (some ⟨g, 0, none⟩) 6 cap ∧ At w g C 3 ∧ 6 ≤ cap ∧ cap ≤ maxLen ∧ ∀ (k : Nat) (x : Int), (numsR r)[k]? = some x → C[k]? = some (.int .i64 x)
theorem Nm.of {w : World} {v : Value} {r : Rw} {base : Nat} (h : OwnV w base 3 v (ints8 (numsR r))) : Nm w v r := by
  rcases h.2 with ⟨rfl, h0⟩ | ⟨g, cap, cur, rfl, hg, hh, hn, hm, hs, ht⟩
  · simp [ints8, numsR] at h0
  · refine ⟨g, cap, cur, rfl, hh, hn, hm, fun k x hx => ?_⟩
    have hk := (List.getElem?_eq_some_iff.1 hx).1
    have : (ints8 (numsR r))[k]? = some (.int .i64 x) := by simp [ints8, hx]
    rw [← ht, List.getElem?_take] at this
    split at this
    · simpa using this
    · cases this
theorem Nm.later {w w' : World} {v : Value} {r : Rw} (h : Nm w v r) (hb : Below w.heap.size w w') : Nm w' v r := by
  obtain ⟨g, cap, C, rfl, h1, h2, h3, h4⟩ := h
  exact ⟨g, cap, C, rfl, h1.later hb, h2, h3, h4⟩
/-- Numbers stand while a row of bytes grows. -/
theorem At.grownB {w w' : World} {g base : Nat} {C : Array Value} {t : TypeId} {v : Value} {xs : List UInt8} (h : At w g C t) (ho : Own w base 5 v xs) (ht : t ≠ 5) (hg : w.grownBy w' v.ownBlock) : At w' g C t := by
  have hl := h.lt
  have hne : v.ownBlock ≠ some g := by
    intro e
    obtain ⟨C', hC⟩ := ho.v.typed g e
    unfold At at h
    rw [h] at hC
    simp only [Option.some.injEq, Obj.cells.injEq] at hC
    exact ht hC.2.1
  unfold At at h ⊢
  rw [hg.block g hl (fun e => hne e.symm)]; exact h
theorem Nm.grown {w w' : World} {base : Nat} {u v : Value} {r : Rw} {xs : List UInt8} (h : Nm w u r) (ho : Own w base 5 v xs) (hg : w.grownBy w' v.ownBlock) : Nm w' u r := by
  obtain ⟨g, cap, C, rfl, h1, h2, h3, h4⟩ := h
  exact ⟨g, cap, C, rfl, h1.grownB ho (by decide) hg, h2, h3, h4⟩

set_option maxHeartbeats 1000000 in
theorem numbers8_any (a b c d f g : Int) (w : World) :
    Calls Try.prog 24 #[.agg #[.int .i64 a, .int .i64 b, .int .i64 c, .int .i64 d, .int .i64 f, .int .i64 g]] w fun e w' => ∃ v, e = .returned v ∧ Nm w' v (a, b, c, d, f, g) ∧ Below w.heap.size w w' := by
  have hb0 : Below w.heap.size w (w.alloc (.cells #[.int .i64 a, .int .i64 b, .int .i64 c, .int .i64 d, .int .i64 f, .int .i64 g] 52)) := (Below.refl _ _).alloc (Nat.le_refl _) _
  have HB0 : Hid (Below w.heap.size w ((w.alloc (.cells #[.int .i64 a, .int .i64 b, .int .i64 c, .int .i64 d, .int .i64 f, .int .i64 g] 52)).alloc (.cells #[.int .i64 a, .int .i64 b, .int .i64 c, .int .i64 d, .int .i64 f, .int .i64 g] 3))) := hb0.alloc (by simp) _
  have hs : Sl ((w.alloc (.cells #[.int .i64 a, .int .i64 b, .int .i64 c, .int .i64 d, .int .i64 f, .int .i64 g] 52)).alloc (.cells #[.int .i64 a, .int .i64 b, .int .i64 c, .int .i64 d, .int .i64 f, .int .i64 g] 3)) (.slice (some ⟨w.heap.size + 1, 0, none⟩) 6 6) (ints8 (numsR (a, b, c, d, f, g))) := by
    have := Sl.made (w.alloc (.cells #[.int .i64 a, .int .i64 b, .int .i64 c, .int .i64 d, .int .i64 f, .int .i64 g] 52)) (ints8 (numsR (a, b, c, d, f, g))) #[.int .i64 a, .int .i64 b, .int .i64 c, .int .i64 d, .int .i64 f, .int .i64 g] 3 6 rfl rfl (by simp [ints8, numsR, maxLen])
    rw [World.size_alloc] at this
    exact this
  have HSrc : Hid (Src Try.prog 1 49 (.slice (some ⟨w.heap.size + 1, 0, none⟩) 6 6) 6 (ints8 (numsR (a, b, c, d, f, g))) ((w.alloc (.cells #[.int .i64 a, .int .i64 b, .int .i64 c, .int .i64 d, .int .i64 f, .int .i64 g] 52)).alloc (.cells #[.int .i64 a, .int .i64 b, .int .i64 c, .int .i64 d, .int .i64 f, .int .i64 g] 3))) := by
    have := hs.src (P := Try.prog) Try.underlying49 (fun u hu => by simp [ints8, numsR] at hu; rcases hu with rfl | rfl | rfl | rfl | rfl | rfl <;> rfl)
    exact this
  clear hs hb0
  go_enter Try.func24, Try.ntmps24
  go_wp2_with (at_builtin; go_must (refine wpList_append_at rfl _ _ _ _ rfl (w.heap.size) 3 (.int .i64 0) 8 Try.underlying49 Try.infoInt8 rfl rfl rfl (OwnV.nil _ _ _) HSrc.out (by simp [maxLen]) (by simp) (by simp; omega) ?_))
  intro v2 w2 ho2 hg2 _ _
  have hb2 : Below w.heap.size w w2 := HB0.out.trans (grown8 hg2 (by simp; omega) (fun k hk => by simp [Value.ownBlock] at hk))
  have HN : Hid (Nm w2 v2 (a, b, c, d, f, g)) := by
    exact Nm.of ho2
  clear ho2 hg2
  go_wp2
  go_ret
  exact ⟨_, rfl, HN.out, hb2⟩

set_option maxHeartbeats 1000000 in
set_option maxRecDepth 100000 in
theorem refRight_any {w : World} {xa ya : Option Addr} {n cx cy : Nat} {l : List Rw} (hn : n ≤ maxLen) (h : Ws w (.slice ya l.length cy) l) :
    Calls Try.prog 22 #[.agg #[.slice xa n cx, .slice ya l.length cy]] w fun e w' => e = .returned (.bool (lenB (n : Int) && decide (l.length ≤ 6) && l.all fitR)) ∧ Below w.heap.size w w' := by
  have hl := h.len
  unfold maxLen at hn hl
  have hb0 : Below w.heap.size w (w.alloc (.cells #[.slice xa n cx, .slice ya l.length cy] 25)) := (Below.refl _ _).alloc (Nat.le_refl _) _
  have HB0 : Hid (Below w.heap.size w (w.alloc (.cells #[.slice xa n cx, .slice ya l.length cy] 25))) := hb0
  have HA0 : Hid (At (w.alloc (.cells #[.slice xa n cx, .slice ya l.length cy] 25)) w.heap.size #[.slice xa n cx, .slice ya l.length cy] 25) := At.made _ _ _
  have HW : Hid (Ws w (.slice ya l.length cy) l) := h
  clear h hb0
  by_cases h1 : n < 1
  · have i1 : (n : Int) < 1 := by omega
    have HE : Hid (lenB (n : Int) = false) := by show _ = _; simp [lenB]; omega
    go_enter Try.func22, Try.ntmps22
    go_wp2
    go_ret
    exact ⟨by rw [HE.out]; rfl, HB0.out⟩
  · have i1 : (1 : Int) ≤ (n : Int) := by omega
    by_cases h2 : 65535 < n
    · have i2 : (65535 : Int) < (n : Int) := by omega
      have HE : Hid (lenB (n : Int) = false) := by show _ = _; simp [lenB]; omega
      go_enter Try.func22, Try.ntmps22
      go_wp2
      go_ret
      exact ⟨by rw [HE.out]; rfl, HB0.out⟩
    · have i2 : (n : Int) ≤ 65535 := by omega
      have HE : Hid (lenB (n : Int) = true) := by show _ = _; simp [lenB]; omega
      by_cases h3 : 6 < l.length
      · have i3 : (6 : Int) < (l.length : Int) := by omega
        have HE2 : Hid (decide (l.length ≤ 6) = false) := decide_eq_false (by omega)
        clear h3
        go_enter Try.func22, Try.ntmps22
        go_wp2
        go_ret
        exact ⟨by rw [HE.out, HE2.out]; rfl, HB0.out⟩
      · have i3 : (l.length : Int) ≤ 6 := by omega
        have HE2 : Hid (decide (l.length ≤ 6) = true) := decide_eq_true (by omega)
        clear h3
        go_enter Try.func22, Try.ntmps22
        go_wp2
        go_loopw [3, 4, 5] (fun z _ _ wr => ∃ q : Nat, q ≤ l.length ∧ z = .int .i64 (q : Int) ∧ Below w.heap.size w wr ∧ At wr w.heap.size #[.slice xa n cx, .slice ya l.length cy] 25 ∧ (l.take q).all fitR = true) (fun z _ _ _ => l.length - (intOf z).toNat)
        case atStart => exact ⟨0, Nat.zero_le _, rfl, HB0.out, HA0.out, rfl⟩
        case round =>
          obtain ⟨q, hq, rfl, hB, hA, hall⟩ := hrel
          have tc := hA.cell
          by_cases hql : q < l.length
          · have hne : l ≠ [] := by intro e; rw [e] at hql; simp at hql
            obtain ⟨b, off, cap, e1, _, _, hbl, hcs⟩ := HW.out.parts hne
            simp only [Value.slice.injEq] at e1
            obtain ⟨rfl, -, rfl⟩ := e1
            obtain ⟨c0, c1, c2, c3, c4, c5⟩ := (hcs q hql).below hB hbl
            have hx : l[q]? = some l[q] := List.getElem?_eq_getElem hql
            generalize l[q] = t at *
            obtain ⟨x0, x1, x2, x3, x4, x5⟩ := t
            simp only at c0 c1 c2 c3 c4 c5
            have HX : Hid (l[q]? = some (x0, x1, x2, x3, x4, x5)) := hx
            have HAL : Hid ((l.take q).all fitR = true) := hall
            have HN : Hid (Calls Try.prog 24 #[.agg #[.int .i64 x0, .int .i64 x1, .int .i64 x2, .int .i64 x3, .int .i64 x4, .int .i64 x5]] wr fun e w' => ∃ v, e = .returned v ∧ Nm w' v (x0, x1, x2, x3, x4, x5) ∧ Below w.heap.size w w' ∧ At w' w.heap.size #[.slice xa n cx, .slice (some ⟨b, off, none⟩) l.length cy] 25) := by
              refine (numbers8_any x0 x1 x2 x3 x4 x5 wr).mono ?_
              rintro e w' ⟨v, rfl, g1, g2⟩
              exact ⟨v, rfl, g1, hB.trans (g2.mono hB.size), hA.later g2⟩
            clear hB hA hall hx hcs hne
            go_wp2_with fail
            refine Calls.mono HN.out ?_
            rintro e w2 ⟨v2, rfl, ⟨nb, nc, NC, rfl, hnA, hn6, hnm, hcell⟩, hB2, hA2⟩
            have HCell : Hid (∀ (k : Nat) (x : Int), (numsR (x0, x1, x2, x3, x4, x5))[k]? = some x → w2.cell? ⟨nb, k, none⟩ = some (.int .i64 x)) := fun k x hx => by rw [hnA.cell]; exact hcell k x hx
            have HB2 : Hid (Below w.heap.size w w2) := hB2
            have HA2 : Hid (At w2 w.heap.size #[.slice xa n cx, .slice (some ⟨b, off, none⟩) l.length cy] 25) := hA2
            clear HN hB2 hA2 hcell hnA tc c0 c1 c2 c3 c4 c5
            unfold maxLen at hnm
            go_wp2
            go_loopw [5] (fun z wr => ∃ k : Nat, k ≤ 6 ∧ z = .int .i64 (k : Int) ∧ wr = w2 ∧ ((numsR (x0, x1, x2, x3, x4, x5)).take k).all fitN = true) (fun z _ => 6 - (intOf z).toNat)
            case atStart => exact ⟨0, Nat.zero_le _, rfl, rfl, rfl⟩
            case round =>
              obtain ⟨k, hk, rfl, hwr, hak⟩ := hrel
              subst wr
              by_cases hk6 : k < 6
              · obtain ⟨x, -, hx⟩ := six_get x0 x1 x2 x3 x4 x5 k hk6
                have hck := HCell.out k x hx
                by_cases hfx : fitN x = true
                · have hf2 := (fitN_iff x).1 hfx
                  have HXX : Hid (((numsR (x0, x1, x2, x3, x4, x5)).take (k + 1)).all fitN = true) := all_take_succ hx hak hfx
                  clear hak hx hfx
                  go_wp2
                  go_roundw
                  case rel => exact ⟨k + 1, by omega, by go_num, trivial, HXX.out⟩
                  case measure => simp [intOf]; omega
                · have hfx' : fitN x = false := by simpa using hfx
                  have HXX : Hid (fitR (x0, x1, x2, x3, x4, x5) = false) := all_no hx hfx'
                  have hf2 : ¬ (0 ≤ x ∧ x ≤ 65535) := fun h => hfx ((fitN_iff x).2 h)
                  clear hak hx hfx hfx'
                  go_wp2
                  all_goals go_ret
                  all_goals exact ⟨by rw [all_no HX.out HXX.out]; simp, HB2.out⟩
              · have hk6' : k = 6 := by omega
                subst hk6'
                have HXX : Hid (fitR (x0, x1, x2, x3, x4, x5) = true) := hak
                clear hak
                go_wp2
                go_roundw
                case rel => exact ⟨q + 1, by omega, by go_num, HB2.out, HA2.out, all_take_succ HX.out HAL.out HXX.out⟩
                case measure => simp [intOf]; omega
          · have hall' : l.all fitR = true := by rw [show q = l.length by omega, List.take_length] at hall; exact hall
            have HAL : Hid (l.all fitR = true) := hall'
            have HB : Hid (Below w.heap.size w wr) := hB
            clear hall hall' hB hA
            go_wp2
            go_ret
            exact ⟨by rw [HE.out, HE2.out, HAL.out]; rfl, HB.out⟩

end Go.Proofs.Ytfgjlljbpcombaa
