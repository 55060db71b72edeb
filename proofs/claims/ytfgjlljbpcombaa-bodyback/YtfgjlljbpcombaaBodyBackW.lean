
/- The walk of BodyBack. -/
import Derived.Test.YtfgjlljbpcombaaCopied8
import Derived.Test.YtfgjlljbpcombaaRefSame8
import Derived.Test.YtfgjlljbpcombaaReads8
import Derived.Test.YtfgjlljbpcombaaBodyBack8
import Derived.Test.YtfgjlljbpcombaaOpen8
namespace Go.Proofs.Ytfgjlljbpcombaa
set_option linter.unusedVariables false
set_option linter.unusedSimpArgs false
open Go.RowKit
attribute [local go_sem ↓] Go.wp_at_zero Go.wp_at_succ

/-- How long a slice is. -/
def lenV : Value → Nat
  | .slice _ n _ => n
  | _ => 0

theorem bodyBack_far {c A : List UInt8} {l : List Rw} (hr : rightB c l = true) (hA : A.length % 4 = 0) (t : List UInt8) :
    rdS ((A ++ wrL c l ++ t).drop A.length) (decide (A.length % 4 = 0)) = ((wrL c l).length, 0) ∧ rdC ((A ++ wrL c l ++ t).drop A.length) (decide (A.length % 4 = 0)) = c ∧ rdK ((A ++ wrL c l ++ t).drop A.length) (decide (A.length % 4 = 0)) = l := by
  have hd : (A ++ wrL c l ++ t).drop A.length = wrL c l ++ t := by rw [List.append_assoc, List.drop_left]
  rw [hd, decide_eq_true hA]
  refine body_back hr (.inr rfl) (by simp) ?_
  have := seg_mid8 [] (wrL c l) t
  simpa using this

set_option maxHeartbeats 2000000 in
set_option maxRecDepth 100000 in
theorem bodyBack_walk (v : Value) (x : List UInt8 × List Rw) (va : Value) (bs : List UInt8) (w : World) (hv : Bd w v x) (ha : Bs w va bs) (hz : bs.length ≤ 140737488351232) :
    Calls Try.prog 5 #[v, va] w fun e w' => e = .returned (.bool true) ∧ Below w.heap.size w w' := by
  obtain ⟨cv, lv, rfl, hc, hl⟩ := hv
  obtain ⟨c, l⟩ := x
  simp only at hc hl
  have hcl := hc.len
  have hll := hl.len
  have HC : Hid (Bs w cv c) := hc
  have HL : Hid (Ws w lv l) := hl
  have HAh : Hid (Bs w va bs) := ha
  obtain ⟨ya, cy, rfl, q1, q2⟩ := hl.shape
  obtain ⟨xa, cx, rfl, q3, q4, q5⟩ := hc
  obtain ⟨za, cz, rfl, q6, q7, q8⟩ := ha
  clear hl q1 q2 q3 q4 q5 q6 q7 q8
  have hb0 : Below w.heap.size w (w.alloc (.cells #[.slice xa c.length cx, .slice ya l.length cy] 25)) := (Below.refl _ _).alloc (Nat.le_refl _) _
  have hA0 : At (w.alloc (.cells #[.slice xa c.length cx, .slice ya l.length cy] 25)) w.heap.size #[.slice xa c.length cx, .slice ya l.length cy] 25 := At.made _ _ _
  have HK : Hid (Calls Try.prog 8 #[] (w.alloc (.cells #[.slice xa c.length cx, .slice ya l.length cy] 25)) fun e w' => e = .returned (.bool true) ∧ Below w.heap.size w w' ∧ At w' w.heap.size #[.slice xa c.length cx, .slice ya l.length cy] 25) := by
    refine (wakes8_any _).mono ?_
    rintro e w' ⟨rfl, h⟩
    exact ⟨rfl, hb0.trans (h.mono (by simp)), hA0.later h⟩
  clear hb0 hA0
  go_enter Try.func5, Try.ntmps5
  go_wp2_with fail
  refine Calls.mono HK.out ?_
  rintro e w1 ⟨rfl, h1, hA1⟩
  clear HK
  have tc1 := hA1.cell
  have HG : Hid (Calls Try.prog 9 #[.agg #[.slice xa c.length cx, .slice ya l.length cy]] w1 fun e w' => e = .returned (.bool (longB c.length l.length)) ∧ Below w.heap.size w w' ∧ At w' w.heap.size #[.slice xa c.length cx, .slice ya l.length cy] 25) := by
    refine (long8_any _ _ _ _ _ _ hcl hll).mono ?_
    rintro e w' ⟨rfl, h⟩
    exact ⟨rfl, h1.trans (h.mono h1.size), hA1.later h⟩
  clear h1 hA1
  go_wp2_with fail
  refine Calls.mono HG.out ?_
  rintro e w2 ⟨rfl, h2, hA2⟩
  clear HG tc1
  have tc2 := hA2.cell
  have HB2 : Hid (Below w.heap.size w w2) := h2
  cases hlong : longB c.length l.length with
  | true =>
    clear hA2 h2 tc2
    go_wp2
    go_ret
    exact ⟨rfl, HB2.out⟩
  | false =>
    obtain ⟨hn1, hn2⟩ := longB_no hlong
    by_cases hah : 400 < bs.length
    · have i1 : (400 : Int) < (bs.length : Int) := by omega
      clear hA2 h2 tc2
      go_wp2
      go_ret
      exact ⟨rfl, HB2.out⟩
    · have i1 : (bs.length : Int) ≤ 400 := by omega
      have HCp : Hid (Calls Try.prog 10 #[.agg #[.slice xa c.length cx, .slice ya l.length cy]] w2 fun e w' => ∃ x0 x1 y0 y1, e = .returned (.agg #[.slice x0 c.length y0, .slice x1 l.length y1]) ∧ Bs w' (.slice x0 c.length y0) c ∧ Ws w' (.slice x1 l.length y1) l ∧ Below w.heap.size w w' ∧ At w' w.heap.size #[.slice xa c.length cx, .slice ya l.length cy] 25) := by
        refine (copied8_any (HC.out.later h2) (HL.out.later h2) (by omega) (by omega)).mono ?_
        rintro e w' ⟨x0, x1, y0, y1, rfl, g1, g2, g3⟩
        exact ⟨x0, x1, y0, y1, rfl, g1, g2, h2.trans (g3.mono h2.size), hA2.later g3⟩
      clear h2 hA2 hlong hcl hll
      go_wp2_with fail
      refine Calls.mono HCp.out ?_
      rintro e w3 ⟨x0, x1, y0, y1, rfl, g1, g2, g3, g4⟩
      clear HCp tc2
      have HW : Hid (Calls Try.prog 11 #[.agg #[.slice x0 c.length y0, .slice x1 l.length y1]] w3 fun e w' => ∃ v, e = .returned (.tuple #[v, .int .i64 (writeE c l)]) ∧ Bs w' v (writeL c l) ∧ Below w.heap.size w w' ∧ At w' w.heap.size #[.slice xa c.length cx, .slice ya l.length cy] 25) := by
        refine (write_any g1 g2).mono ?_
        rintro e w' ⟨v, rfl, k1, k2⟩
        exact ⟨v, rfl, k1.bs, g3.trans (k2.mono g3.size), g4.later k2⟩
      clear g1 g2 g3 g4
      go_wp2_with fail
      refine Calls.mono HW.out ?_
      rintro e w4 ⟨v4, rfl, h4, hB4, hA4⟩
      clear HW HB2
      have HB4 : Hid (Below w.heap.size w w4) := hB4
      by_cases hr : rightB c l = true
      · have hE : writeE c l = 0 := by simp [writeE, hr]
        have hWl : writeL c l = wrL c l := by simp [writeL, hr]
        rw [hE]
        rw [hWl] at h4
        have hwlen : (wrL c l).length ≤ 2000 := by
          have := wrL_length c l
          have h6 := ((rightB_iff c l).1 hr).2.1
          repeat' split at this
          all_goals omega
        have HV4 : Hid (Bs w4 v4 (wrL c l)) := h4
        have HA4 : Hid (At w4 w.heap.size #[.slice xa c.length cx, .slice ya l.length cy] 25) := hA4
        have HAh4 : Hid (Bs w4 (.slice za bs.length cz) bs) := HAh.out.later hB4
        obtain ⟨wa, wc, rfl, p1, p2, p3⟩ := h4
        clear p1 p2 p3 hE hWl hA4 hB4
        obtain ⟨wl, hwl⟩ : ∃ n, n = (wrL c l).length := ⟨_, rfl⟩
        rw [← hwl] at HV4 hwlen ⊢
        have HWL : Hid ((wrL c l).length = wl) := hwl.symm
        clear hwl
        go_wp2_with (at_builtin; go_must (refine wpList_append_bs rfl _ _ _ rfl (w4.heap.size) 5 Try.underlying22 Try.infoU8 rfl rfl (Own.lit w4 w4.heap.size 5 [] #[] 0 (Nat.le_refl _) rfl rfl (by decide)) (HAh4.out.later ((Below.refl _ _).alloc (Nat.le_refl _) _)) (by simp; omega) (by simp) ?_; intro v5 w5 ho5 hg5))
        have hb5 : Below w4.heap.size w4 w5 := by
          have := copied ho5 hg5
          exact this.2.1
        have HO5 : Hid (Own w5 w4.heap.size 5 v5 bs) := by
          show Own _ _ _ _ _
          simpa using ho5
        have HB5 : Hid (Below w4.heap.size w4 w5) := hb5
        clear ho5 hg5 hb5
        have HFin : Hid (bs.length + fillN bs.length ≤ 403 ∧ (bs.length + fillN bs.length) % 4 = 0) := by unfold fillN; exact ⟨by omega, by omega⟩
        go_loopw [7] (fun u wr => ∃ A : List UInt8, Own wr w4.heap.size 5 u A ∧ Below w4.heap.size w4 wr ∧ A.length + fillN A.length = bs.length + fillN bs.length) (fun u _ => fillN (lenV u))
        case atStart => exact ⟨bs, HO5.out, HB5.out, rfl⟩
        case round =>
          obtain ⟨A, hO, hB, hF⟩ := hrel
          have HO : Hid (Own wr w4.heap.size 5 u7 A) := hO
          have HB : Hid (Below w4.heap.size w4 wr) := hB
          have hsw := hB.size
          obtain ⟨aa, ac, rfl, r1, r2⟩ := hO.shape
          have hAl : A.length ≤ 403 := by have := HFin.out.1; omega
          clear hO hB HO5 HB5
          by_cases hA4 : A.length % 4 = 0
          · have hm : ((A.length : Int) % 4 != 0) = false := by rw [bne_eq_false_iff_eq]; omega
            have HF : Hid (rdS ((A ++ wrL c l ++ [7]).drop A.length) (decide (A.length % 4 = 0)) = ((wrL c l).length, 0) ∧ rdC ((A ++ wrL c l ++ [7]).drop A.length) (decide (A.length % 4 = 0)) = c ∧ rdK ((A ++ wrL c l ++ [7]).drop A.length) (decide (A.length % 4 = 0)) = l) := bodyBack_far hr hA4 [7]
            have HV6 : Hid (Bs wr (.slice wa wl wc) (wrL c l)) := HV4.out.later HB.out
            clear hF hA4 hr r1 r2
            go_wp2_with (at_builtin; go_must (refine wpList_append_bs rfl _ _ _ rfl (w4.heap.size) 5 Try.underlying22 Try.infoU8 rfl rfl HO.out HV6.out (by have := HWL.out; omega) hsw ?_))
            intro v6 w6 ho6 hg6
            have hb6 : Below w4.heap.size w4 w6 := HB.out.trans ((Below.refl _ _).grown hg6 hsw (fun k hk => (HO.out.block k hk).1))
            have hs6 := hb6.size
            have HO6 : Hid (Own w6 w4.heap.size 5 v6 (A ++ wrL c l)) := ho6
            have HB6 : Hid (Below w4.heap.size w4 w6) := hb6
            have hl6 : (A ++ wrL c l).length ≤ 2403 := by have := HWL.out; simp; omega
            have HL6 : Hid ((A ++ wrL c l).length ≤ 2403) := hl6
            clear ho6 hg6 hb6 hl6
            go_wp2_with (at_builtin; go_must (refine wpList_append_bs rfl _ _ _ rfl (w4.heap.size) 5 Try.underlying22 Try.infoU8 rfl rfl (HO6.out.later ((Below.refl _ _).alloc (Nat.le_refl _) _)) (bs_lit w6 [7] _ _ _ rfl rfl (by simp [maxLen])) (by have := HL6.out; simp only [List.length_cons, List.length_nil]; omega) (by simp; omega) ?_))
            intro v7 w7 ho7 hg7
            have hb7 : Below w4.heap.size w4 w7 := HB6.out.trans (((Below.refl _ _).alloc hs6 _).grown hg7 (by simp; omega) (fun k hk => (HO6.out.block k hk).1))
            have hs7 := hb7.size
            obtain ⟨D, hD⟩ : ∃ D, D = A ++ wrL c l ++ [7] := ⟨_, rfl⟩
            have hDl : D.length ≤ 2404 := by have := HL6.out; rw [hD, List.length_append]; simp only [List.length_cons, List.length_nil]; omega
            have hAD : A.length ≤ D.length := by rw [hD]; simp only [List.length_append]; omega
            rw [← List.append_assoc, ← hD] at ho7
            rw [← hD] at HF
            have HB7 : Hid (Below w.heap.size w w7) := HB4.out.trans (hb7.mono HB4.out.size)
            have HA7 : Hid (At w7 w.heap.size #[.slice xa c.length cx, .slice ya l.length cy] 25) := HA4.out.later hb7
            have HR : Hid (Calls Try.prog 15 #[v7, .int .i64 (A.length : Int)] w7 fun e w' => ∃ c1 c2 k1 k2, e = .returned (.tuple #[.agg #[.slice c1 c.length c2, .slice k1 l.length k2], .int .i64 ((A.length + wl : Nat) : Int), .int .i64 0]) ∧ Bs w' (.slice c1 c.length c2) c ∧ Ws w' (.slice k1 l.length k2) l ∧ Below w.heap.size w w' ∧ At w' w.heap.size #[.slice xa c.length cx, .slice ya l.length cy] 25) := by
              obtain ⟨f1, f2, f3⟩ := HF.out
              refine (read_at ho7.bs (by omega) A.length hAD).mono ?_
              rintro e w' ⟨_, hyes, hb⟩
              rw [f1, f2, f3, HWL.out] at hyes
              obtain ⟨cv', kv', rfl, hc', hk'⟩ := hyes rfl
              obtain ⟨c1, c2, rfl, _, _⟩ := hc'.shape
              obtain ⟨k1, k2, rfl, _, _⟩ := hk'.shape
              exact ⟨c1, c2, k1, k2, rfl, hc', hk', HB7.out.trans (hb.mono HB7.out.size), HA7.out.later hb⟩
            clear ho7 hg7 hb7 hs7 hD hDl hAD HF HO6 HB6 hs6 HO HV6 HB HV4 HA4 HAh4 HL6
            go_wp2_with fail
            refine Calls.mono HR.out ?_
            rintro e w8 ⟨c1, c2, k1, k2, rfl, hc8, hk8, hB8, hA8⟩
            clear HR HA7
            have hb9 : Below w8.heap.size w8 (w8.alloc (.cells #[.slice c1 c.length c2, .slice k1 l.length k2] 25)) := (Below.refl _ _).alloc (Nat.le_refl _) _
            have hB9 : Below w.heap.size w (w8.alloc (.cells #[.slice c1 c.length c2, .slice k1 l.length k2] 25)) := hB8.trans (hb9.mono hB8.size)
            have t9 := (hA8.later hb9).cell
            have HS : Hid (Calls Try.prog 14 #[.agg #[.slice xa c.length cx, .slice ya l.length cy], .agg #[.slice c1 c.length c2, .slice k1 l.length k2]] (w8.alloc (.cells #[.slice c1 c.length c2, .slice k1 l.length k2] 25)) fun e w' => e = .returned (.bool true) ∧ Below w.heap.size w w') := by
              refine (refSame8_yes (HC.out.later hB9) (hc8.later hb9) (HL.out.later hB9) (hk8.later hb9)).mono ?_
              rintro e w' ⟨rfl, h⟩
              exact ⟨rfl, hB9.trans (h.mono hB9.size)⟩
            have hto : (((A.length + wl : Nat) : Int) == (A.length : Int) + (wl : Int)) = true := by rw [beq_iff_eq]; omega
            clear hc8 hk8 hB8 hA8 hb9 hB9
            go_wp2_with fail
            refine Calls.mono HS.out ?_
            rintro e w9 ⟨rfl, h9⟩
            go_wp2
            go_ret
            exact ⟨rfl, h9⟩
          · have hm : ((A.length : Int) % 4 != 0) = true := by rw [bne_iff_ne]; omega
            clear hr r1 r2
            go_wp2_with (at_builtin; go_must (refine wpList_append_bs rfl _ _ _ rfl (w4.heap.size) 5 Try.underlying22 Try.infoU8 rfl rfl (HO.out.later ((Below.refl _ _).alloc (Nat.le_refl _) _)) (bs_lit wr [9] _ _ _ rfl rfl (by simp [maxLen])) (by simp; omega) (by simp; omega) ?_; intro v6 w6 ho6 hg6))
            have hb6 : Below w4.heap.size wr w6 := ((Below.refl _ _).alloc hsw _).grown hg6 (by simp; omega) (fun k hk => (HO.out.block k hk).1)
            obtain ⟨va6, vc6, rfl, _, _⟩ := ho6.shape
            have HO6 : Hid (Own w6 w4.heap.size 5 (.slice va6 (A ++ [9]).length vc6) (A ++ [9])) := ho6
            clear ho6
            go_wp2
            go_roundw
            case rel => exact ⟨A ++ [9], HO6.out, HB.out.trans hb6, by rw [← hF]; simp [fillN]; omega⟩
            case measure => simp [lenV, fillN]; omega
      · have hE : writeE c l = 17 := by simp [writeE, hr]
        have hLn : writeL c l = [] := by simp [writeL, hr]
        rw [hE]
        rw [hLn] at h4
        obtain ⟨wa, wc, rfl, p1, p2, p3⟩ := h4
        clear p1 p2 p3 hE hLn hA4 hB4
        go_wp2
        go_ret
        exact ⟨rfl, HB4.out⟩

end Go.Proofs.Ytfgjlljbpcombaa
