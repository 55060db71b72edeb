
/- SigsReads: the walk. -/
import Derived.Test.YtcjoidhbhffcgaaRefSig5
import Derived.Test.YtcjoidhbhffcgaaRefWhole5
import Derived.Test.YtcjoidhbhffcgaaRefSame5
import Derived.Test.YtcjoidhbhffcgaaWakes5
namespace Go.Proofs.Ytcjoidhbhffcgaa
set_option linter.unusedVariables false
set_option linter.unusedSimpArgs false
open Go.RowKit

theorem get_any2 {w : World} {v : Value} {bs : List UInt8} (hv : Bs w v bs) (hn : bs.length ≤ 281474976710656) :
    Calls Try.prog 15 #[v] w fun e w' => GotW w w' (whT bs) (whE bs) e := by
  obtain ⟨h1, h2⟩ := last0 bs
  refine (get_any hv hn).mono ?_
  rintro e w' ⟨rfl, hb⟩
  rw [h1, h2]
  exact ⟨rfl, hb⟩

set_option maxHeartbeats 8000000 in
set_option maxRecDepth 100000 in
theorem sigsReads_walk (v : Value) (bs : List UInt8) (w : World) (hv : Bs w v bs) (hz : bs.length ≤ 140737488351232) :
    Calls Try.prog 4 #[v] w fun e w' => e = .returned (.bool true) ∧ Below w.heap.size w w' := by
  have HV : Hid (∀ W, Below w.heap.size w W → Bs W v bs) := fun W hW => hv.later hW
  obtain ⟨a, c, rfl, -⟩ := hv
  by_cases hl : 1000 < bs.length
  · go_enter Try.func4, Try.ntmps4
    go_wp2_with fail
    refine (wakes5_any w).mono ?_
    rintro e w1 ⟨rfl, hb1⟩
    have HB1 : Hid (Below w.heap.size w w1) := hb1
    clear hb1
    go_wp2_with fail
    go_ret
    exact ⟨rfl, HB1.out⟩
  · go_enter Try.func4, Try.ntmps4
    go_wp2_with fail
    refine (wakes5_any w).mono ?_
    rintro e w1 ⟨rfl, hb1⟩
    have HB1 : Hid (Below w.heap.size w w1) := hb1
    have hs1 := hb1.size
    have hb2 : Below w1.heap.size w1 (w1.alloc (Obj.cells #[] 5)) := (Below.refl _ _).alloc (Nat.le_refl _) _
    have HS2 : Hid (Bs (w1.alloc (Obj.cells #[] 5)) (.slice a bs.length c) bs) := HV.out _ (hb1.trans (hb2.mono hs1))
    have HO2 : Hid (Own (w1.alloc (Obj.cells #[] 5)) w1.heap.size 5 (.slice (some ⟨w1.heap.size, 0, none⟩) 0 0) []) := Own.lit w1 w1.heap.size 5 [] #[] 0 (Nat.le_refl _) rfl rfl (by simp [maxLen])
    clear hb1 hb2
    go_wp2_with (at_builtin; go_must (refine wpList_append_bs rfl _ _ _ rfl w1.heap.size 5 Try.underlying26 Try.infoU8 rfl rfl HO2.out HS2.out (by simp; omega) (by simp) ?_))
    intro v3 w3 ho3 hg3
    obtain ⟨hbs3, hb3, -, -⟩ := copied ho3 hg3
    have HV3 : Hid (∀ W, Below w3.heap.size w3 W → Bs W v3 bs ∧ Bs W (.slice a bs.length c) bs ∧ Below w.heap.size w W) := fun W hW => by
      have hb : Below w.heap.size w W := (HB1.out.trans (hb3.mono hs1)).trans (hW.mono (by have := hb3.size; omega))
      exact ⟨hbs3.later hW, HV.out W hb, hb⟩
    clear ho3 hg3 hbs3 hb3 HO2 HS2 hs1 HV HB1
    have hn : bs.length ≤ 281474976710656 := by omega
    have HG1 : Hid (∀ W, Below w3.heap.size w3 W → Calls Try.prog 15 #[v3] W fun e w' => GotW W w' (whT bs) (whE bs) e) := fun W hW => get_any2 (HV3.out W hW).1 hn
    have HG2 : Hid (∀ W, Below w3.heap.size w3 W → Calls Try.prog 18 #[.slice a bs.length c] W fun e w' => GotW W w' (whT bs) (whE bs) e) := fun W hW => whole_any (HV3.out W hW).2.1 hn
    have HG3 : Hid (∀ W, Below w3.heap.size w3 W → Calls Try.prog 17 #[v3] W fun e w' => GotW W w' (fieldR bs).1 (fieldR bs).2.2 e) := fun W hW => getField_any (HV3.out W hW).1 hn
    have HG4 : Hid (∀ W, Below w3.heap.size w3 W → Calls Try.prog 19 #[.slice a bs.length c] W fun e w' => GotW W w' (fieldR bs).1 (fieldR bs).2.2 e) := fun W hW => refField_any (HV3.out W hW).2.1 hn
    have HG5 : Hid (∀ W, Below w3.heap.size w3 W → Calls Try.prog 20 #[v3] W fun e w' => GotS W w' (sgR bs).1 (sgR bs).2 e) := fun W hW => getSig_any (HV3.out W hW).1 hn
    have HG6 : Hid (∀ W, Below w3.heap.size w3 W → Calls Try.prog 21 #[.slice a bs.length c] W fun e w' => GotG W w' (sgR bs).1 (sgR bs).2 e) := fun W hW => refSig_any (HV3.out W hW).2.1 hn
    have HG7 : Hid (∀ W, Below w3.heap.size w3 W → Calls Try.prog 23 #[v3] W fun e w' => GotLs W w' (locR bs).1 (locR bs).2 e) := fun W hW => getLocals_any (HV3.out W hW).1 hn
    have HG8 : Hid (∀ W, Below w3.heap.size w3 W → Calls Try.prog 24 #[.slice a bs.length c] W fun e w' => GotM W w' (locR bs).1 (locR bs).2 e) := fun W hW => refLocals_any (HV3.out W hW).2.1 hn
    have HEnd : Hid (∀ W, Below w3.heap.size w3 W → Below w.heap.size w W) := fun W hW => (HV3.out W hW).2.2
    clear HV3 hn hl hz
    generalize whT bs = t1 at *
    generalize whE bs = e1 at *
    generalize (fieldR bs).1 = t2 at *
    generalize (fieldR bs).2.2 = e2 at *
    generalize (sgR bs).1 = s3 at *
    generalize (sgR bs).2 = e3 at *
    generalize (locR bs).1 = l4 at *
    generalize (locR bs).2 = e4 at *
    obtain ⟨k1, i1, d1, r1⟩ := t1
    obtain ⟨k2, i2, d2, r2⟩ := t2
    obtain ⟨th3, ts3, k3, i3, d3, r3⟩ := s3
    go_wp2_with fail
    refine Calls.mono (HG1.out w3 (Below.refl _ _)) ?_
    rintro e w4 ⟨rfl, hb4⟩
    simp only
    have hx5 := At.made w4 #[.int .i64 k1, .int .i64 i1, .int .i64 d1, .bool r1] 23
    have hB5 := hb4.alloc hb4.size (.cells #[.int .i64 k1, .int .i64 i1, .int .i64 d1, .bool r1] 23)
    have HQ := HG2.out _ hB5
    clear HG1 HG2
    go_wp2_with fail
    refine Calls.mono HQ ?_
    clear HQ
    rintro e w6 ⟨rfl, hb6⟩
    simp only
    have hx6 := hx5.later hb6
    have hB6 := hB5.trans (hb6.mono hB5.size)
    have hy7 := At.made w6 #[.int .i64 k1, .int .i64 i1, .int .i64 d1, .bool r1] 23
    have hx7 := hx6.next (.cells #[.int .i64 k1, .int .i64 i1, .int .i64 d1, .bool r1] 23)
    have hB7 := hB6.alloc hB6.size (.cells #[.int .i64 k1, .int .i64 i1, .int .i64 d1, .bool r1] 23)
    have HNE : Hid (w4.heap.size < w6.heap.size ∧ w3.heap.size ≤ w4.heap.size) := ⟨hx6.lt, hb4.size⟩
    have xc7 := hx7.cell
    have yc7 := hy7.cell
    have HQ := HG3.out _ hB7
    clear hx5 hx6 hB5 hB6 hb4 hb6 HG3
    go_wp2_with fail
    refine Calls.mono HQ ?_
    clear HQ
    rintro e w8 ⟨rfl, hb8⟩
    simp only
    have hx8 := hx7.later hb8
    have hy8 := hy7.later hb8
    have hB8 := hB7.trans (hb8.mono hB7.size)
    have xc8 := hx8.cell
    have xm8 := hx8.melt
    have hx9 := (hx8.ty.set4 k2 i2 d2 r2).at
    have hy9 := hy8.other4 (g' := w4.heap.size) (by have := HNE.out.1; omega) (.int .i64 k2) (.int .i64 i2) (.int .i64 d2) (.bool r2)
    have hB9 := below_set4 hB8 HNE.out.2 (.int .i64 k2) (.int .i64 i2) (.int .i64 d2) (.bool r2)
    have HQ := HG4.out _ hB9
    clear hx7 hy7 hB7 hb8 hx8 hy8 hB8 HG4 xc7 yc7
    go_wp2_with fail
    refine Calls.mono HQ ?_
    clear HQ
    rintro e w10 ⟨rfl, hb10⟩
    simp only
    have hx10 := hx9.later hb10
    have hy10 := hy9.later hb10
    have hB10 := hB9.trans (hb10.mono hB9.size)
    have yc10 := hy10.cell
    have ym10 := hy10.melt
    have hy11 := (hy10.ty.set4 k2 i2 d2 r2).at
    have hx11 := hx10.other4 (g' := w6.heap.size) (by have := HNE.out.1; omega) (.int .i64 k2) (.int .i64 i2) (.int .i64 d2) (.bool r2)
    have hB11 := below_set4 hB10 (by have := HNE.out; omega) (g := w6.heap.size) (.int .i64 k2) (.int .i64 i2) (.int .i64 d2) (.bool r2)
    have xc11 := hx11.cell
    have yc11 := hy11.cell
    have HQ := HG5.out _ hB11
    clear hx9 hy9 hB9 hb10 hx10 hy10 hB10 HG5 xc8 xm8 hx11 hy11
    go_wp2_with fail
    refine Calls.mono HQ ?_
    clear HQ xc11 yc11 yc10 ym10
    rintro e w12 ⟨pv, rfl, hp12, -, hb12⟩
    simp only at hp12 ⊢
    obtain ⟨pa, pc, rfl, hp1, hp2⟩ := hp12.shape
    have hB12 := hB11.trans (hb12.mono hB11.size)
    have hs13 := At.made w12 #[.bool th3, .slice pa ts3.length pc, .int .i64 k3, .int .i64 i3, .int .i64 d3, .bool r3] 39
    have hba : Below w12.heap.size w12 (w12.alloc (.cells #[.bool th3, .slice pa ts3.length pc, .int .i64 k3, .int .i64 i3, .int .i64 d3, .bool r3] 39)) := (Below.refl _ _).alloc (Nat.le_refl _) _
    have hB13 := hB12.trans (hba.mono hB12.size)
    have hp13 := hp12.later hba
    have HQ := HG6.out _ hB13
    clear hB11 hb12 hp12 hB12 hba HG6
    go_wp2_with fail
    refine Calls.mono HQ ?_
    clear HQ
    rintro e w14 ⟨qv, rfl, hq14, hb14⟩
    simp only at hq14 ⊢
    obtain ⟨qa, qc, rfl, hq1, hq2⟩ := hq14.shape
    have hB14 := hB13.trans (hb14.mono hB13.size)
    have hs14 := hs13.later hb14
    have hp14 := hp13.later hb14
    have hr15 := At.made w14 #[.bool th3, .slice qa ts3.length qc, .int .i64 k3, .int .i64 i3, .int .i64 d3, .bool r3] 39
    have hba : Below w14.heap.size w14 (w14.alloc (.cells #[.bool th3, .slice qa ts3.length qc, .int .i64 k3, .int .i64 i3, .int .i64 d3, .bool r3] 39)) := (Below.refl _ _).alloc (Nat.le_refl _) _
    have hB15 := hB14.trans (hba.mono hB14.size)
    have hs15 := hs14.later hba
    have hp15 := hp14.later hba
    have hq15 := hq14.later hba
    have sc := hs15.cell
    have rc := hr15.cell
    have HQ := same5_yes hp15 hq15 th3 k3 i3 d3 r3
    clear hB13 hB14 hs13 hs14 hp13 hp14 hb14 hba hq14 hr15 hs15
    go_wp2_with fail
    refine Calls.mono HQ ?_
    clear HQ sc rc
    rintro e w16 ⟨rfl, hb16⟩
    have hB16 := hB15.trans (hb16.mono hB15.size)
    have HQ := HG7.out _ hB16
    clear hB15 hb16 hp15 hq15 HG7
    go_wp2_with fail
    refine Calls.mono HQ ?_
    clear HQ
    rintro e w17 ⟨lv, rfl, hl17, -, hb17⟩
    have hB17 := hB16.trans (hb17.mono hB16.size)
    have HQ := HG8.out _ hB17
    clear hB16 hb17 HG8
    go_wp2_with fail
    refine Calls.mono HQ ?_
    clear HQ
    rintro e w18 ⟨mv, rfl, hm18, hb18⟩
    have hB18 := hB17.trans (hb18.mono hB17.size)
    have HQ := sameTypes_yes (hl17.later hb18) hm18
    clear hB17 hl17 hb18 hm18
    go_wp2_with fail
    refine Calls.mono HQ ?_
    clear HQ
    rintro e w19 ⟨rfl, n, rfl⟩
    go_wp2
    go_ret
    exact ⟨rfl, HEnd.out _ (Below.drewN hB18 n)⟩

end Go.Proofs.Ytcjoidhbhffcgaa
