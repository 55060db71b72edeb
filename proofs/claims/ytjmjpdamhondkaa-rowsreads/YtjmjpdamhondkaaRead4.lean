
/- Read of rows. -/
import Derived.Test.YtjmjpdamhondkaaReadTabs4
namespace Go.Proofs.Ytjmjpdamhondkaa
set_option linter.unusedVariables false
set_option linter.unusedSimpArgs false
open Go.RowKit Go.Maps

theorem readB_T (bs : List UInt8) : readB bs = match readT bs (byteAt bs 0) (byteAt bs 1) 2 with
    | none => (Tabs.nil, bs.length, 1)
    | some p => if p.2 < bs.length then (Tabs.nil, p.2, 2) else (p.1, 0, 0) := by
  unfold readB readT
  cases cntTo bs (byteAt bs 1) 2 6 with
  | none => rfl
  | some p =>
    simp only
    by_cases h : bs.length < p.2 + 2
    · rw [if_pos h, if_pos h]
    · rw [if_neg h, if_neg h]
      cases tabsTo bs p.1 (byteAt bs 0) (p.2 + 2) 6 with
      | none => rfl
      | some q => rfl
theorem num_one (bs : List UInt8) (i : Nat) (h : i < bs.length) : numAt bs i 1 = byteAt bs i := by
  unfold numAt seg byteAt
  have : (bs.drop i).take 1 = [bs[i]] := by
    rw [List.take_one, List.head?_drop, List.getElem?_eq_getElem h]; rfl
  rw [this]
  simp [leN, List.getElem?_eq_getElem h]

/-- What Read answers. -/
def ReadPt (bs : List UInt8) (e : Ending) (w' : World) : Prop :=
  ∃ sv, e = .returned (.tuple #[.agg #[.int .i64 (readR bs).1.entry, sv], .int .i64 ((readR bs).2.1 : Int), .int .i64 ((readR bs).2.2 : Int)]) ∧ In3 w' sv (readR bs).1.rows
theorem ReadPt.err {bs : List UInt8} {p k : Nat} (h : readR bs = (Tabs.nil, p, k)) (w' : World) (x y : Int) (hx : x = p) (hy : y = k) : ReadPt bs (.returned (.tuple #[.agg #[.int .i64 0, .slice none 0 0], .int .i64 x, .int .i64 y])) w' := by
  subst hx hy
  refine ⟨.slice none 0 0, by rw [h]; rfl, by rw [h]; exact Ns.nil _ _⟩

set_option maxHeartbeats 2000000 in
theorem read_any {v : Value} {bs : List UInt8} {w : World} (hv : Bs w v bs) (hn : bs.length ≤ 140737488355328) :
    Calls Try.prog 9 #[v] w fun e w' => ReadPt bs e w' ∧ Below w.heap.size w w' := by
  have HV : Hid (∀ W, Below w.heap.size w W → Bs W v bs) := fun W hW => hv.later hW
  obtain ⟨a, cp, rfl, hc1, hc2, -⟩ := hv
  unfold maxLen at hc2
  obtain ⟨w1, hw1⟩ : ∃ w1, w1 = w.alloc (Obj.cells #[.int .i64 0, .slice none 0 0] 26) := ⟨_, rfl⟩
  have hb1 : Below w.heap.size w w1 := by rw [hw1]; exact (Below.refl _ _).alloc (Nat.le_refl _) _
  have hs1 : w1.heap.size = w.heap.size + 1 := by rw [hw1]; simp
  have hre1 : w1.heap[w.heap.size]? = some (Obj.cells #[.int .i64 0, .slice none 0 0] 26 (0, 0)) := by rw [hw1]; exact heap_alloc_new w _
  have HNW : Hid (Calls Try.prog 23 #[.slice a bs.length cp] w1 fun e w' => e = .returned (.pointer (some ⟨w.heap.size + 2, 0, none⟩)) ∧ RdAt w' (w.heap.size + 2) bs 0 ∧ Below w.heap.size w w' ∧ w'.heap[w.heap.size]? = some (Obj.cells #[.int .i64 0, .slice none 0 0] 26 (0, 0))) := by
    refine Calls.mono (new_any (HV.out w1 hb1) (by omega)) ?_
    rw [hs1]
    rintro e w2 ⟨rfl, hr, hb⟩
    exact ⟨rfl, hr, hb1.trans (hb.mono (by omega)), (hb.block _ (by omega)).trans hre1⟩
  subst hw1
  clear hb1 hs1 hre1
  go_enter Try.func9, Try.ntmps9
  go_wp2_with fail
  refine Calls.mono HNW.out ?_
  rintro e w2 ⟨rfl, hr2, hb2, hre2⟩
  have HR2 : Hid (RdAt w2 (w.heap.size + 2) bs 0) := hr2
  have HB2 : Hid (Below w.heap.size w w2) := hb2
  have HRE2 : Hid (w2.heap[w.heap.size]? = some (Obj.cells #[.int .i64 0, .slice none 0 0] 26 (0, 0))) := hre2
  have hs2 := hr2.lt
  clear hr2 hb2 hre2 HNW
  by_cases h1 : bs.length < 1
  · have HE : Hid (readR bs = (Tabs.nil, bs.length, 1)) := by show _ = _; unfold readR; rw [if_pos h1]
    have HNUM : Hid _ := num_s HR2.out (show 1 = 1 ∨ 1 = 2 ∨ 1 = 4 by omega) (by omega)
    go_wp2_with fail
    refine Calls.mono HNUM.out ?_
    rintro e w3 ⟨rfl, ho3⟩
    have HB3 : Hid (Below w.heap.size w w3) := HB2.out.trans (ho3.below (by omega) (by omega))
    have hre3 := (ho3.block _ (by omega) (by omega)).trans HRE2.out
    obtain ⟨d0, d1⟩ := box2 hre3
    have z0 := melt2 hre3 0
    have z1 := melt2 hre3 1
    have HR3 : Hid (w3.heap[w.heap.size]? = some (Obj.cells #[.int .i64 0, .slice none 0 0] 26 (0, 0))) := hre3
    clear ho3 hre3 HNUM h1
    go_wp2_with fail
    obtain ⟨q0, q1, q2, -, -⟩ := res2 HR3.out (.int .i64 0) (.slice none 0 0) _ rfl
    exact bodyPost_ret (v := .tuple #[.agg #[.int .i64 0, .slice none 0 0], .int .i64 (bs.length : Int), .int .i64 1]) (by simp [results, Try.results9, go_sem, q1, q2]) rfl ⟨ReadPt.err HE.out _ _ _ rfl rfl, HB3.out.trans (q0.below (Nat.le_refl _) HB3.out.size)⟩
  · have HNUM : Hid (Calls Try.prog 24 #[.pointer (some ⟨w.heap.size + 2, 0, none⟩), .int .i64 1] w2 fun e w' => e = .returned (.tuple #[.int .u64 (byteAt bs 0 : Int), .int .i64 0]) ∧ RdAt w' (w.heap.size + 2) bs 1 ∧ Only (w.heap.size + 2) w2 w') := by
      have := num_w HR2.out (show 1 = 1 ∨ 1 = 2 ∨ 1 = 4 by omega) (by omega)
      rw [num_one bs 0 (by omega)] at this
      exact this
    have hm8 : byteAt bs 0 < 256 := UInt8.toNat_lt _
    have ht8 : byteAt bs 1 < 256 := UInt8.toNat_lt _
    have HBT : Hid _ := readB_T bs
    have HN1 : Hid (¬ bs.length < 1) := h1
    have HRR : Hid (readR bs = if 3 < byteAt bs 0 then (Tabs.nil, 0, 2) else if bs.length < 2 then (Tabs.nil, bs.length, 1) else if 63 < byteAt bs 1 then (Tabs.nil, 1, 2) else readB bs) := by
      show _ = _
      unfold readR
      rw [if_neg h1]
    have HNO : Hid (1 < bs.length → numAt bs 1 1 = byteAt bs 1) := fun h => num_one bs 1 h
    clear h1
    generalize byteAt bs 0 = m at *
    generalize byteAt bs 1 = th at *
    go_wp2_with fail
    refine Calls.mono HNUM.out ?_
    rintro e w3 ⟨rfl, hr3, ho3⟩
    have HB3 : Hid (Below w.heap.size w w3) := HB2.out.trans (ho3.below (by omega) (by omega))
    have hre3 := (ho3.block _ (by omega) (by omega)).trans HRE2.out
    obtain ⟨d0, d1⟩ := box2 hre3
    have z0 := melt2 hre3 0
    have z1 := melt2 hre3 1
    have HRE3 : Hid (w3.heap[w.heap.size]? = some (Obj.cells #[.int .i64 0, .slice none 0 0] 26 (0, 0))) := hre3
    have HR3 : Hid (RdAt w3 (w.heap.size + 2) bs 1) := hr3
    have hs3 := hr3.lt
    clear ho3 hr3 hre3 HNUM HR2 HB2 HRE2
    by_cases hm : 3 < m
    · have HE : Hid (readR bs = (Tabs.nil, 0, 2)) := by show _ = _; rw [HRR.out, if_pos hm]
      go_wp2_with fail
      obtain ⟨q0, q1, q2, -, -⟩ := res2 HRE3.out (.int .i64 0) (.slice none 0 0) _ rfl
      exact bodyPost_ret (v := .tuple #[.agg #[.int .i64 0, .slice none 0 0], .int .i64 0, .int .i64 2]) (by simp [results, Try.results9, go_sem, q1, q2]) rfl ⟨ReadPt.err HE.out _ _ _ (by simp) rfl, HB3.out.trans (q0.below (Nat.le_refl _) HB3.out.size)⟩
    · rw [if_neg hm] at HRR
      by_cases h2 : bs.length < 2
      · have HE : Hid (readR bs = (Tabs.nil, bs.length, 1)) := by show _ = _; rw [HRR.out, if_pos h2]
        have HNUM : Hid _ := num_s HR3.out (show 1 = 1 ∨ 1 = 2 ∨ 1 = 4 by omega) (by omega)
        clear h2 d0 d1 z0 z1
        go_wp2_with fail
        refine Calls.mono HNUM.out ?_
        rintro e w4 ⟨rfl, ho4⟩
        have HB4 : Hid (Below w.heap.size w w4) := HB3.out.trans (ho4.below (by omega) (by omega))
        have hre4 := (ho4.block _ (by omega) (by omega)).trans HRE3.out
        obtain ⟨d0, d1⟩ := box2 hre4
        have z0 := melt2 hre4 0
        have z1 := melt2 hre4 1
        have HRE4 : Hid (w4.heap[w.heap.size]? = some (Obj.cells #[.int .i64 0, .slice none 0 0] 26 (0, 0))) := hre4
        clear ho4 hre4 HNUM
        go_wp2_with fail
        obtain ⟨q0, q1, q2, -, -⟩ := res2 HRE4.out (.int .i64 0) (.slice none 0 0) _ rfl
        exact bodyPost_ret (v := .tuple #[.agg #[.int .i64 0, .slice none 0 0], .int .i64 (bs.length : Int), .int .i64 1]) (by simp [results, Try.results9, go_sem, q1, q2]) rfl ⟨ReadPt.err HE.out _ _ _ (by simp) rfl, HB4.out.trans (q0.below (Nat.le_refl _) HB4.out.size)⟩
      · rw [if_neg h2] at HRR
        have HNUM : Hid (Calls Try.prog 24 #[.pointer (some ⟨w.heap.size + 2, 0, none⟩), .int .i64 1] w3 fun e w' => e = .returned (.tuple #[.int .u64 (th : Int), .int .i64 0]) ∧ RdAt w' (w.heap.size + 2) bs 2 ∧ Only (w.heap.size + 2) w3 w') := by
          have := num_w HR3.out (show 1 = 1 ∨ 1 = 2 ∨ 1 = 4 by omega) (by omega)
          rw [HNO.out (by omega)] at this
          exact this
        clear d0 d1 z0 z1 HNO h2
        go_wp2_with fail
        refine Calls.mono HNUM.out ?_
        rintro e w4 ⟨rfl, hr4, ho4⟩
        have HB4 : Hid (Below w.heap.size w w4) := HB3.out.trans (ho4.below (by omega) (by omega))
        have hre4 := (ho4.block _ (by omega) (by omega)).trans HRE3.out
        obtain ⟨d0, d1⟩ := box2 hre4
        have z0 := melt2 hre4 0
        have z1 := melt2 hre4 1
        have HRE4 : Hid (w4.heap[w.heap.size]? = some (Obj.cells #[.int .i64 0, .slice none 0 0] 26 (0, 0))) := hre4
        have HR4 : Hid (RdAt w4 (w.heap.size + 2) bs 2) := hr4
        have hs4 := hr4.lt
        clear ho4 hr4 hre4 HNUM HR3 HB3 HRE3 hs3
        by_cases ht : 63 < th
        · have HE : Hid (readR bs = (Tabs.nil, 1, 2)) := by show _ = _; rw [HRR.out, if_pos ht]
          go_wp2_with fail
          obtain ⟨q0, q1, q2, -, -⟩ := res2 HRE4.out (.int .i64 0) (.slice none 0 0) _ rfl
          exact bodyPost_ret (v := .tuple #[.agg #[.int .i64 0, .slice none 0 0], .int .i64 1, .int .i64 2]) (by simp [results, Try.results9, go_sem, q1, q2]) rfl ⟨ReadPt.err HE.out _ _ _ (by simp) rfl, HB4.out.trans (q0.below (Nat.le_refl _) HB4.out.size)⟩
        · rw [if_neg ht] at HRR
          clear d0 d1 z0 z1
          go_wp2_with fail
          refine (readTables_any m th (by omega) (by omega) HR4.out).mono ?_
          rintro e w5 ⟨hpt, ho5⟩
          have HB5 : Hid (Below w.heap.size w w5) := HB4.out.trans (ho5.below (by omega) (by omega))
          have hre5 := (ho5.block _ (by omega) (by omega)).trans HRE4.out
          have HRE5 : Hid (w5.heap[w.heap.size]? = some (Obj.cells #[.int .i64 0, .slice none 0 0] 26 (0, 0))) := hre5
          have hs5 := ho5.size
          clear ho5 hre5
          rcases hpt with ⟨hno, rfl⟩ | ⟨T, ae, g, hyes, rfl, hin, hrd⟩
          · have HE : Hid (readR bs = (Tabs.nil, bs.length, 1)) := by
              show _ = _
              rw [HRR.out, HBT.out, hno]
            have hre6 := (heap_alloc_old w5 (Obj.cells #[.int .i64 0, .slice none 0 0] 26) (show w.heap.size < w5.heap.size by omega)).trans HRE5.out
            obtain ⟨d0, d1⟩ := box2 hre6
            have z0 := melt2 hre6 0
            have z1 := melt2 hre6 1
            have HRE6 : Hid ((w5.alloc (Obj.cells #[.int .i64 0, .slice none 0 0] 26)).heap[w.heap.size]? = some (Obj.cells #[.int .i64 0, .slice none 0 0] 26 (0, 0))) := hre6
            have HB6 : Hid (Below w.heap.size w (w5.alloc (Obj.cells #[.int .i64 0, .slice none 0 0] 26))) := HB5.out.alloc (by omega) _
            clear hre6 hno
            go_wp2_with fail
            obtain ⟨q0, q1, q2, -, -⟩ := res2 HRE6.out (.int .i64 0) (.slice none 0 0) _ rfl
            exact bodyPost_ret (v := .tuple #[.agg #[.int .i64 0, .slice none 0 0], .int .i64 (bs.length : Int), .int .i64 1]) (by simp [results, Try.results9, go_sem, q1, q2]) rfl ⟨ReadPt.err HE.out _ _ _ (by simp) rfl, HB6.out.trans (q0.below (Nat.le_refl _) HB6.out.size)⟩
          · obtain ⟨w6, hw6⟩ : ∃ w6, w6 = w5.alloc (Obj.cells #[.int .i64 T.entry, .slice (some ⟨g, 0, none⟩) 6 6] 26) := ⟨_, rfl⟩
            have hb6 : Below w5.heap.size w5 w6 := by rw [hw6]; exact (Below.refl _ _).alloc (Nat.le_refl _) _
            have HS6 : Hid (w6.heap[w5.heap.size]? = some (Obj.cells #[.int .i64 T.entry, .slice (some ⟨g, 0, none⟩) 6 6] 26 (0, 0))) := by rw [hw6]; exact heap_alloc_new w5 _
            have HR6 : Hid (RdAt w6 (w.heap.size + 2) bs ae) := hrd.only hb6
            have HI6 : Hid (In3At w4.heap.size w6 (.slice (some ⟨g, 0, none⟩) 6 6) T.rows) := hin.keep hb6.size fun k _ hlt => hb6.block k hlt
            have HRE6 : Hid (w6.heap[w.heap.size]? = some (Obj.cells #[.int .i64 0, .slice none 0 0] 26 (0, 0))) := (hb6.block _ (by omega)).trans HRE5.out
            have HB6 : Hid (Below w.heap.size w w6) := HB5.out.trans (hb6.mono (by omega))
            have hs6 := HR6.out.lt
            have hle := HR6.out.le
            have HW6 : Hid _ := hw6
            clear hb6 hw6 hin hrd
            by_cases hae : ae < bs.length
            · have HE : Hid (readR bs = (Tabs.nil, ae, 2)) := by
                show _ = _
                rw [HRR.out, HBT.out, hyes]
                simp only
                rw [if_pos hae]
              have HD : Hid (Calls Try.prog 26 #[.pointer (some ⟨w.heap.size + 2, 0, none⟩)] w6 fun e w' => e = .returned (.int .i64 2) ∧ ∃ n, w' = w6.drewN n) := by
                have := done_any HR6.out
                rw [if_pos hae] at this
                exact this
              clear hyes hae
              go_wp2_with fail
              rw [← HW6.out]
              refine Calls.mono HD.out ?_
              rintro e wz ⟨rfl, nq, hz⟩
              have hb7 : Below w6.heap.size w6 wz := by rw [hz]; exact Below.drewN (Below.refl _ _) nq
              have HR7 : Hid (RdAt wz (w.heap.size + 2) bs ae) := HR6.out.only hb7
              have hre7 := (hb7.block _ (by omega)).trans HRE6.out
              have HB7 : Hid (Below w.heap.size w wz) := HB6.out.trans (hb7.mono (by omega))
              clear hz hb7
              obtain ⟨d0, d1⟩ := box2 hre7
              have z0 := melt2 hre7 0
              have z1 := melt2 hre7 1
              have HRE7 : Hid (wz.heap[w.heap.size]? = some (Obj.cells #[.int .i64 0, .slice none 0 0] 26 (0, 0))) := hre7
              clear hre7
              go_wp2_with (go_at_call 27; refine (at_any HR7.out).mono ?_; rintro e wy ⟨rfl, hz⟩; subst wy)
              obtain ⟨q0, q1, q2, -, -⟩ := res2 HRE7.out (.int .i64 0) (.slice none 0 0) _ rfl
              exact bodyPost_ret (v := .tuple #[.agg #[.int .i64 0, .slice none 0 0], .int .i64 (ae : Int), .int .i64 2]) (by simp [results, Try.results9, go_sem, q1, q2]) rfl ⟨ReadPt.err HE.out _ _ _ (by simp) rfl, HB7.out.trans (q0.below (Nat.le_refl _) HB7.out.size)⟩
            · have HE : Hid (readR bs = (T, 0, 0)) := by
                show _ = _
                rw [HRR.out, HBT.out, hyes]
                simp only
                rw [if_neg hae]
              have HD : Hid (Calls Try.prog 26 #[.pointer (some ⟨w.heap.size + 2, 0, none⟩)] w6 fun e w' => e = .returned (.int .i64 0) ∧ ∃ n, w' = w6.drewN n) := by
                have := done_any HR6.out
                rw [if_neg hae] at this
                exact this
              clear hyes hae
              go_wp2_with fail
              rw [← HW6.out]
              refine Calls.mono HD.out ?_
              rintro e wz ⟨rfl, nq, hz⟩
              have hb7 : Below w6.heap.size w6 wz := by rw [hz]; exact Below.drewN (Below.refl _ _) nq
              have hre7 := (hb7.block _ (by omega)).trans HRE6.out
              have hs7 := (hb7.block _ (Array.getElem?_eq_some_iff.1 HS6.out).1).trans HS6.out
              have HB7 : Hid (Below w.heap.size w wz) := HB6.out.trans (hb7.mono (by omega))
              have HI7 : Hid (In3At w4.heap.size wz (.slice (some ⟨g, 0, none⟩) 6 6) T.rows) := HI6.out.keep hb7.size fun k _ hlt => hb7.block k hlt
              clear hz hb7
              obtain ⟨d0, d1⟩ := box2 hre7
              obtain ⟨f0, f1⟩ := box2 hs7
              have z0 := melt2 hre7 0
              have z1 := melt2 hre7 1
              have HRE7 : Hid (wz.heap[w.heap.size]? = some (Obj.cells #[.int .i64 0, .slice none 0 0] 26 (0, 0))) := hre7
              clear hre7 hs7
              go_wp2_with fail
              obtain ⟨q0, q1, q2, -, q4⟩ := res2 HRE7.out (.int .i64 T.entry) (.slice (some ⟨g, 0, none⟩) 6 6) _ rfl
              refine bodyPost_ret (v := .tuple #[.agg #[.int .i64 T.entry, .slice (some ⟨g, 0, none⟩) 6 6], .int .i64 0, .int .i64 0]) (by simp [results, Try.results9, go_sem, q1, q2]) rfl ⟨⟨_, by rw [HE.out]; rfl, ?_⟩, HB7.out.trans (q0.below (Nat.le_refl _) HB7.out.size)⟩
              rw [HE.out]
              exact HI7.out _ (Nat.le_of_eq q4.symm) fun k hk hlt => q0.block k hlt (by omega)

end Go.Proofs.Ytjmjpdamhondkaa
