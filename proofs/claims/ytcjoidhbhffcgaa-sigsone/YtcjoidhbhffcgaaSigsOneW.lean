
/- SigsOne: the walk. -/
import Derived.Test.YtcjoidhbhffcgaaSigBack
import Derived.Test.YtcjoidhbhffcgaaWakes5
import Derived.Test.YtcjoidhbhffcgaaSame
namespace Go.Proofs.Ytcjoidhbhffcgaa
set_option linter.unusedVariables false
set_option linter.unusedSimpArgs false
open Go.RowKit

theorem get_any3 {w : World} {v : Value} {bs : List UInt8} (hv : Bs w v bs) (hn : bs.length ≤ 281474976710656) :
    Calls Try.prog 15 #[v] w fun e w' => e = .returned (.tuple #[.agg #[.int .i64 (whT bs).1, .int .i64 (whT bs).2.1, .int .i64 (whT bs).2.2.1, .bool (whT bs).2.2.2], .int .i64 (whE bs : Int)]) ∧ Below w.heap.size w w' := by
  obtain ⟨h1, h2⟩ := last0 bs
  refine (get_any hv hn).mono ?_
  rintro e w' ⟨rfl, hb⟩
  rw [h1, h2]
  exact ⟨rfl, hb⟩
theorem Ts.shape5 {w : World} {v : Value} {ts : List Ty} (h : Ts w v ts) : ∃ a c, v = .slice a ts.length c ∧ ts.length ≤ c ∧ c ≤ maxLen := by
  obtain ⟨a, c, h1, h2, h3, _⟩ := h
  exact ⟨a, c, h1, h2, h3⟩

set_option maxHeartbeats 8000000 in
set_option maxRecDepth 100000 in
theorem sigsOne_walk (v : Value) (bs : List UInt8) (w : World) (hv : Bs w v bs) (hz : bs.length ≤ 140737488351232) :
    Calls Try.prog 7 #[v] w fun e w' => e = .returned (.bool true) ∧ Below w.heap.size w w' := by
  have HV : Hid (∀ W, Below w.heap.size w W → Bs W v bs) := fun W hW => hv.later hW
  obtain ⟨a, c, rfl, -⟩ := hv
  by_cases hl : 1000 < bs.length
  · go_enter Try.func7, Try.ntmps7
    go_wp2_with fail
    refine (wakes5_any w).mono ?_
    rintro e w1 ⟨rfl, hb1⟩
    have HB1 : Hid (Below w.heap.size w w1) := hb1
    clear hb1
    go_wp2_with fail
    go_ret
    exact ⟨rfl, HB1.out⟩
  · have hn : bs.length ≤ 281474976710656 := by omega
    have HG1 : Hid (∀ W, Below w.heap.size w W → Calls Try.prog 15 #[.slice a bs.length c] W fun e w' => e = .returned (.tuple #[.agg #[.int .i64 (whT bs).1, .int .i64 (whT bs).2.1, .int .i64 (whT bs).2.2.1, .bool (whT bs).2.2.2], .int .i64 (whE bs : Int)]) ∧ Below W.heap.size W w') := fun W hW => get_any3 (HV.out W hW) hn
    have HG2 : Hid (∀ W, Below w.heap.size w W → Calls Try.prog 20 #[.slice a bs.length c] W fun e w' => GotS W w' (sgR bs).1 (sgR bs).2 e) := fun W hW => getSig_any (HV.out W hW) hn
    have HG3 : Hid (∀ W, Below w.heap.size w W → Calls Try.prog 23 #[.slice a bs.length c] W fun e w' => GotLs W w' (locR bs).1 (locR bs).2 e) := fun W hW => getLocals_any (HV.out W hW) hn
    have HM1 : Hid (whE bs = 0 → plainT (whT bs) = true ∧ encT (whT bs) = bs) := type_ok bs
    have HM2 : Hid ((sgR bs).2 = 0 → sigE (sgR bs).1.2.1 (sgR bs).1.2.2 = 0 ∧ sigL (sgR bs).1.1 (sgR bs).1.2.1 (sgR bs).1.2.2 = bs) := sig_ok bs
    have HM3 : Hid ((locR bs).2 = 0 → locE (locR bs).1 = 0 ∧ locL (locR bs).1 = bs) := loc_ok bs
    clear hn hz
    generalize whT bs = t1 at *
    generalize whE bs = e1 at *
    generalize (sgR bs).1 = s2 at *
    generalize (sgR bs).2 = e2 at *
    generalize (locR bs).1 = l3 at *
    generalize (locR bs).2 = e3 at *
    obtain ⟨k1, i1, d1, r1⟩ := t1
    obtain ⟨th2, ts2, k2, i2, d2, r2⟩ := s2
    simp only at HM1 HM2 HM3 HG1
    go_enter Try.func7, Try.ntmps7
    go_wp2_with fail
    refine (wakes5_any w).mono ?_
    rintro e w1 ⟨rfl, hB1⟩
    have HQ := HG1.out w1 hB1
    clear HG1
    go_wp2_with fail
    refine Calls.mono HQ ?_
    clear HQ
    rintro e w2 ⟨rfl, hb2⟩
    have hB2 := hB1.trans (hb2.mono hB1.size)
    have hx3 := At.made w2 #[.int .i64 k1, .int .i64 i1, .int .i64 d1, .bool r1] 23
    have hB3 := hB2.alloc hB2.size (.cells #[.int .i64 k1, .int .i64 i1, .int .i64 d1, .bool r1] 23)
    have HQ := HG2.out _ hB3
    clear HG2 hB1 hb2 hB2
    go_wp2_with fail
    refine Calls.mono HQ ?_
    clear HQ
    rintro e w4 ⟨pv, rfl, hp4, -, hb4⟩
    simp only at hp4 ⊢
    obtain ⟨pa, pc, rfl, hp1, hp2⟩ := hp4.shape5
    have hx4 := hx3.later hb4
    have hB4 := hB3.trans (hb4.mono hB3.size)
    have hs5 := At.made w4 #[.bool th2, .slice pa ts2.length pc, .int .i64 k2, .int .i64 i2, .int .i64 d2, .bool r2] 39
    have hba : Below w4.heap.size w4 (w4.alloc (.cells #[.bool th2, .slice pa ts2.length pc, .int .i64 k2, .int .i64 i2, .int .i64 d2, .bool r2] 39)) := (Below.refl _ _).alloc (Nat.le_refl _) _
    have hB5 := hB4.trans (hba.mono hB4.size)
    have hx5 := hx4.later hba
    have hp5 := hp4.later hba
    have HQ := HG3.out _ hB5
    clear HG3 hB3 hb4 hB4 hba hx3 hx4 hp4
    go_wp2_with fail
    refine Calls.mono HQ ?_
    clear HQ
    rintro e w6 ⟨lv, rfl, hl6, -, hb6⟩
    obtain ⟨la, lc, rfl, hl1, hl2⟩ := hl6.shape5
    have hx6 := hx5.later hb6
    have hs6 := hs5.later hb6
    have hp6 := hp5.later hb6
    have hB6 := hB5.trans (hb6.mono hB5.size)
    have HSt : Hid (∀ W, Below w6.heap.size w6 W → Below w.heap.size w W ∧ At W w4.heap.size #[.bool th2, .slice pa ts2.length pc, .int .i64 k2, .int .i64 i2, .int .i64 d2, .bool r2] 39 ∧ Ts W (.slice pa ts2.length pc) ts2 ∧ Ts W (.slice la l3.length lc) l3) := fun W hW =>
      ⟨hB6.trans (hW.mono hB6.size), hs6.later hW, hp6.later hW, hl6.later hW⟩
    have xc := hx6.cell
    clear hB5 hb6 hx5 hs5 hp5 hx6 hs6 hp6 hB6 hl6 hl
    have HP1 : Hid (e1 = 0 → ∀ W, Below w6.heap.size w6 W → Calls Try.prog 11 #[.agg #[.int .i64 k1, .int .i64 i1, .int .i64 d1, .bool r1]] W fun e w' => ∃ v, e = .returned (.tuple #[v, .int .i64 0]) ∧ Bs w' v bs ∧ Below w6.heap.size w6 w') := fun h W hW => by
      obtain ⟨h1, h2⟩ := HM1.out h
      refine Calls.mono (put_yes k1 i1 d1 r1 W h1) ?_
      rintro e w' ⟨v, rfl, q1, q2⟩
      have e9 : encB k1 i1 d1 r1 = bs := h2
      rw [e9] at q1
      exact ⟨v, rfl, q1.bs, hW.trans (q2.mono hW.size)⟩
    have HP2 : Hid (e2 = 0 → ∀ W, Below w6.heap.size w6 W → Calls Try.prog 26 #[.agg #[.bool th2, .slice pa ts2.length pc, .int .i64 k2, .int .i64 i2, .int .i64 d2, .bool r2]] W fun e w' => ∃ v, e = .returned (.tuple #[v, .int .i64 0]) ∧ Bs w' v bs ∧ Below w6.heap.size w6 w') := fun h W hW => by
      obtain ⟨h1, h2⟩ := HM2.out h
      refine Calls.mono (putSig_any (HSt.out W hW).2.2.1 th2 k2 i2 d2 r2) ?_
      rintro e w' ⟨g1, g2, g3⟩
      obtain ⟨v', rfl, q1⟩ := g1 h1
      rw [h2] at q1
      exact ⟨v', rfl, q1.bs, hW.trans (g3.mono hW.size)⟩
    have HP3 : Hid (e3 = 0 → ∀ W, Below w6.heap.size w6 W → Calls Try.prog 28 #[.slice la l3.length lc] W fun e w' => ∃ v, e = .returned (.tuple #[v, .int .i64 0]) ∧ Bs w' v bs ∧ Below w6.heap.size w6 w') := fun h W hW => by
      obtain ⟨h1, h2⟩ := HM3.out h
      refine Calls.mono (putLocals_any (HSt.out W hW).2.2.2) ?_
      rintro e w' ⟨g1, g2, g3⟩
      obtain ⟨v', rfl, q1⟩ := g1 h1
      rw [h2] at q1
      exact ⟨v', rfl, q1.bs, hW.trans (g3.mono hW.size)⟩
    have HSm : Hid (∀ W y, Below w6.heap.size w6 W → Bs W y bs → Calls Try.prog 13 #[y, .slice a bs.length c] W fun e w' => e = .returned (.bool true) ∧ ∃ n, w' = W.drewN n) := fun W y hW hy => by
      have := same_any hy (HV.out W (HSt.out W hW).1)
      rw [decide_eq_true rfl] at this
      exact this
    clear HM1 HM2 HM3 HV
    by_cases h1 : e1 = 0
    · subst h1
      have HQ := HP1.out rfl w6 (Below.refl _ _)
      clear HP1
      go_wp2_with fail
      refine Calls.mono HQ ?_
      clear HQ
      rintro e w7 ⟨y7, rfl, hy7, hb7⟩
      have HQ := HSm.out w7 y7 hb7 hy7
      go_wp2_with fail
      refine Calls.mono HQ ?_
      clear HQ
      rintro e w8 ⟨rfl, n8, rfl⟩
      have hbA := Below.drewN hb7 n8
      clear hb7 hy7
      generalize w7.drewN n8 = wA at *
      by_cases h2 : e2 = 0
      · subst h2
        have sc := (HSt.out wA hbA).2.1.cell
        have HQ := HP2.out rfl wA hbA
        clear HP2
        go_wp2_with fail
        refine Calls.mono HQ ?_
        clear HQ
        rintro e w9 ⟨y9, rfl, hy9, hb9⟩
        have HQ := HSm.out w9 y9 hb9 hy9
        go_wp2_with fail
        refine Calls.mono HQ ?_
        clear HQ sc
        rintro e w10 ⟨rfl, n10, rfl⟩
        have hbB := Below.drewN hb9 n10
        clear hb9 hy9
        generalize w9.drewN n10 = wB at *
        by_cases h3 : e3 = 0
        · subst h3
          have HQ := HP3.out rfl wB hbB
          clear HP3
          go_wp2_with fail
          refine Calls.mono HQ ?_
          clear HQ
          rintro e w11 ⟨y11, rfl, hy11, hb11⟩
          have HQ := HSm.out w11 y11 hb11 hy11
          go_wp2_with fail
          refine Calls.mono HQ ?_
          clear HQ
          rintro e w12 ⟨rfl, n12, rfl⟩
          have hend := (HSt.out _ (Below.drewN hb11 n12)).1
          go_wp2
          go_ret
          exact ⟨rfl, hend⟩
        · have h3' : ((e3 : Int) == 0) = false := by rw [beq_eq_false_iff_ne]; omega
          have hend := (HSt.out _ hbB).1
          clear h3 HP3
          go_wp2
          go_ret
          exact ⟨rfl, hend⟩
      · have h2' : ((e2 : Int) == 0) = false := by rw [beq_eq_false_iff_ne]; omega
        clear h2 HP2
        by_cases h3 : e3 = 0
        · subst h3
          have HQ := HP3.out rfl wA hbA
          clear HP3
          go_wp2_with fail
          refine Calls.mono HQ ?_
          clear HQ
          rintro e w11 ⟨y11, rfl, hy11, hb11⟩
          have HQ := HSm.out w11 y11 hb11 hy11
          go_wp2_with fail
          refine Calls.mono HQ ?_
          clear HQ
          rintro e w12 ⟨rfl, n12, rfl⟩
          have hend := (HSt.out _ (Below.drewN hb11 n12)).1
          go_wp2
          go_ret
          exact ⟨rfl, hend⟩
        · have h3' : ((e3 : Int) == 0) = false := by rw [beq_eq_false_iff_ne]; omega
          have hend := (HSt.out _ hbA).1
          clear h3 HP3
          go_wp2
          go_ret
          exact ⟨rfl, hend⟩
    · have h1' : ((e1 : Int) == 0) = false := by rw [beq_eq_false_iff_ne]; omega
      have hbA : Below w6.heap.size w6 w6 := Below.refl _ _
      clear h1 HP1
      by_cases h2 : e2 = 0
      · subst h2
        have sc := (HSt.out w6 hbA).2.1.cell
        have HQ := HP2.out rfl w6 hbA
        clear HP2
        go_wp2_with fail
        refine Calls.mono HQ ?_
        clear HQ
        rintro e w9 ⟨y9, rfl, hy9, hb9⟩
        have HQ := HSm.out w9 y9 hb9 hy9
        go_wp2_with fail
        refine Calls.mono HQ ?_
        clear HQ sc
        rintro e w10 ⟨rfl, n10, rfl⟩
        have hbB := Below.drewN hb9 n10
        clear hb9 hy9
        generalize w9.drewN n10 = wB at *
        by_cases h3 : e3 = 0
        · subst h3
          have HQ := HP3.out rfl wB hbB
          clear HP3
          go_wp2_with fail
          refine Calls.mono HQ ?_
          clear HQ
          rintro e w11 ⟨y11, rfl, hy11, hb11⟩
          have HQ := HSm.out w11 y11 hb11 hy11
          go_wp2_with fail
          refine Calls.mono HQ ?_
          clear HQ
          rintro e w12 ⟨rfl, n12, rfl⟩
          have hend := (HSt.out _ (Below.drewN hb11 n12)).1
          go_wp2
          go_ret
          exact ⟨rfl, hend⟩
        · have h3' : ((e3 : Int) == 0) = false := by rw [beq_eq_false_iff_ne]; omega
          have hend := (HSt.out _ hbB).1
          clear h3 HP3
          go_wp2
          go_ret
          exact ⟨rfl, hend⟩
      · have h2' : ((e2 : Int) == 0) = false := by rw [beq_eq_false_iff_ne]; omega
        clear h2 HP2
        by_cases h3 : e3 = 0
        · subst h3
          have HQ := HP3.out rfl w6 hbA
          clear HP3
          go_wp2_with fail
          refine Calls.mono HQ ?_
          clear HQ
          rintro e w11 ⟨y11, rfl, hy11, hb11⟩
          have HQ := HSm.out w11 y11 hb11 hy11
          go_wp2_with fail
          refine Calls.mono HQ ?_
          clear HQ
          rintro e w12 ⟨rfl, n12, rfl⟩
          have hend := (HSt.out _ (Below.drewN hb11 n12)).1
          go_wp2
          go_ret
          exact ⟨rfl, hend⟩
        · have h3' : ((e3 : Int) == 0) = false := by rw [beq_eq_false_iff_ne]; omega
          have hend := (HSt.out _ hbA).1
          clear h3 HP3
          go_wp2
          go_ret
          exact ⟨rfl, hend⟩

end Go.Proofs.Ytcjoidhbhffcgaa
