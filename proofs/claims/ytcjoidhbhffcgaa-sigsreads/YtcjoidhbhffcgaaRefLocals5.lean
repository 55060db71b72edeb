
/- Locals of the references. -/
import Derived.Test.YtcjoidhbhffcgaaRefTypes5
import Derived.Test.YtcjoidhbhffcgaaGetSig5
namespace Go.Proofs.Ytcjoidhbhffcgaa
set_option linter.unusedVariables false
set_option linter.unusedSimpArgs false
open Go.RowKit

theorem hd7 (bs : List UInt8) : hdE [7] bs 0 = (if 0 < bs.length then (if byV bs 0 = 7 then 0 else 2) else 1) := by
  unfold hdE
  have : inB [7] (byV bs 0) = decide (7 = byV bs 0) := by simp [inB]
  rw [this]
  by_cases h : byV bs 0 = 7
  · simp [h]
  · have h' : ¬ 7 = byV bs 0 := fun e => h e.symm
    simp [h, h']

/-- What a call that answers types leaves. -/
def GotM (w w' : World) (ts : List Ty) (er : Nat) (e : Ending) : Prop :=
  ∃ v, e = .returned (.tuple #[v, .int .i64 (er : Int)]) ∧ Ts w' v ts ∧ Below w.heap.size w w'

theorem last_eq (bs : List UInt8) (n a : Nat) : lastTs bs (getTs bs n a) = if (getTs bs n a).2.2 = 0 ∧ (getTs bs n a).2.1 < bs.length then ([], 2) else ((getTs bs n a).1, (getTs bs n a).2.2) := by
  unfold lastTs
  by_cases h : (getTs bs n a).2.2 = 0
  · rw [if_neg (by simpa using h)]
    by_cases h2 : (getTs bs n a).2.1 < bs.length
    · rw [if_pos h2, if_pos ⟨h, h2⟩]
    · rw [if_neg h2, if_neg (by simp [h2]), h]
  · have hb := getTs_bad bs n a h
    rw [if_pos h, if_neg (by simp [h])]
    generalize getTs bs n a = x at *
    rw [hb]

set_option maxHeartbeats 2000000 in
set_option maxRecDepth 100000 in
theorem refLocals_any {v : Value} {bs : List UInt8} {w : World} (hv : Bs w v bs) (hl : bs.length ≤ 281474976710656) :
    Calls Try.prog 24 #[v] w fun e w' => GotM w w' (locR bs).1 (locR bs).2 e := by
  have h7 := hd7 bs
  obtain ⟨va, cap, rfl, hc1, hc2, hc3⟩ := id hv
  unfold maxLen at hc2
  by_cases hbs : bs = []
  · subst hbs
    have HL : Hid (locR [] = ([], 1)) := by
      show _ = _
      have : hdE [7] [] 0 = 1 := by rw [h7]; rfl
      unfold locR; rw [this]; rfl
    clear hv h7 hc3
    go_enter Try.func24, Try.ntmps24
    go_wp2
    go_ret2
    exact ⟨.slice none 0 0, by rw [HL.out]; rfl, by rw [HL.out]; exact Ts.nil _, Below.refl _ _⟩
  · obtain ⟨b, off, rfl, hb1, hb2⟩ := hc3 hbs
    have hpos : 0 < bs.length := List.length_pos_iff.2 hbs
    have hcell : w.cell? ⟨b, off, none⟩ = some (.int .u8 (byV bs 0 : Int)) := by
      have := hb2 0 hpos
      rw [(by_yes hpos).1]
      simpa using this
    by_cases h0 : byV bs 0 = 7
    · have HE : Hid (hdE [7] bs 0 = 0) := by show _ = _; rw [h7, if_pos hpos, if_pos h0]
      rw [h0] at hcell
      have HU : Hid (Calls Try.prog 43 #[.slice (some ⟨b, off, none⟩) bs.length cap, .int .i64 1] w fun e w' =>
          e = .returned (.agg #[.int .i64 ((unp bs 1).1 : Int), .int .i64 ((unp bs 1).2.1 : Int), .int .i64 ((unp bs 1).2.2 : Int)]) ∧ Below w.heap.size w w') := unpack_any hv 1 hpos
      have HLc : Hid (locR bs = if cntE 12 (unp bs 1) ≠ 0 then ([], cntE 12 (unp bs 1)) else lastTs bs (getTs bs (cntV 12 (unp bs 1)) (1 + (unp bs 1).2.1))) := by show _ = _; unfold locR; rw [if_neg (by simpa using HE.out)]
      have HOk : Hid ((unp bs 1).2.2 = 0 → 1 + (unp bs 1).2.1 ≤ bs.length) := fun h => (unp_ok bs 1 h).1
      have HV : Hid (Bs w (.slice (some ⟨b, off, none⟩) bs.length cap) bs) := hv
      clear hv h7 hc3 hb2 h0 HE
      generalize unp bs 1 = u at *
      obtain ⟨n, ln, er⟩ := u
      simp only at HU HLc HOk
      go_enter Try.func24, Try.ntmps24
      go_wp2_with fail
      refine Calls.mono HU.out ?_
      rintro e w1 ⟨rfl, k1⟩
      clear HU hcell
      by_cases he : er = 0
      · subst he
        have hok := HOk.out rfl
        have hP := At.made w1 #[.int .i64 (n : Int), .int .i64 (ln : Int), .int .i64 0] 74
        have hba : Below w1.heap.size w1 (w1.alloc (.cells #[.int .i64 (n : Int), .int .i64 (ln : Int), .int .i64 0] 74)) := (Below.refl _ _).alloc (Nat.le_refl _) _
        have hB := k1.trans (hba.mono k1.size)
        clear k1 hba
        have pc := hP.cell
        by_cases h12 : 12 < n
        · have HL2 : Hid (locR bs = ([], 4)) := by show _ = _; rw [HLc.out]; simp [cntE, h12]
          clear HLc hP HOk
          go_wp2
          go_ret2
          exact ⟨.slice none 0 0, by rw [HL2.out]; rfl, by rw [HL2.out]; exact Ts.nil _, hB⟩
        · have HL2 : Hid (locR bs = if (getTs bs n (1 + ln)).2.2 = 0 ∧ (getTs bs n (1 + ln)).2.1 < bs.length then ([], 2) else ((getTs bs n (1 + ln)).1, (getTs bs n (1 + ln)).2.2)) := by
            show _ = _
            rw [HLc.out]
            have e1 : cntE 12 (n, ln, 0) = 0 := by simp [cntE, h12]
            have e2 : cntV 12 (n, ln, 0) = n := by simp [cntV, e1]
            rw [e1, e2, if_neg (by simp)]
            exact last_eq bs n (1 + ln)
          have HTy : Hid (Calls Try.prog 44 #[.slice (some ⟨b, off, none⟩) bs.length cap, .int .i64 (1 + (ln : Int)), .int .i64 (n : Int)] (w1.alloc (.cells #[.int .i64 (n : Int), .int .i64 (ln : Int), .int .i64 0] 74)) fun e w' => ∃ lv, e = .returned (.agg #[lv, .int .i64 ((getTs bs n (1 + ln)).2.1 : Int), .int .i64 ((getTs bs n (1 + ln)).2.2 : Int)]) ∧ Ts w' lv (getTs bs n (1 + ln)).1 ∧ Below w.heap.size w w') := by
            have := refTypes_any (HV.out.later hB) (1 + ln) n hok hl (by omega)
            simp only [Int.natCast_add, Int.cast_ofNat_Int] at this
            refine Calls.mono this ?_
            rintro e w' ⟨lv, rfl, q1, _, q2⟩
            exact ⟨lv, rfl, q1, hB.trans (q2.mono hB.size)⟩
          clear HLc HOk hB
          generalize getTs bs n (1 + ln) = x at *
          obtain ⟨ts, at_, er⟩ := x
          simp only at HL2 HTy
          go_wp2_with fail
          refine Calls.mono HTy.out ?_
          rintro e w2 ⟨lv, rfl, q1, q2⟩
          obtain ⟨la, lc, rfl, hl1, hl2⟩ := q1.shape
          unfold maxLen at hl2
          clear HTy hP pc
          by_cases hx : er = 0
          · subst hx
            have hP := At.made w2 #[.slice la ts.length lc, .int .i64 (at_ : Int), .int .i64 0] 77
            have hba : Below w2.heap.size w2 (w2.alloc (.cells #[.slice la ts.length lc, .int .i64 (at_ : Int), .int .i64 0] 77)) := (Below.refl _ _).alloc (Nat.le_refl _) _
            have HB2 : Hid (Below w.heap.size w (w2.alloc (.cells #[.slice la ts.length lc, .int .i64 (at_ : Int), .int .i64 0] 77))) := q2.trans (hba.mono q2.size)
            have HTs : Hid (∀ m, Ts ((w2.alloc (.cells #[.slice la ts.length lc, .int .i64 (at_ : Int), .int .i64 0] 77)).drewN m) (.slice la ts.length lc) ts) := fun m => (q1.later hba).drewN m
            have pc := hP.cell
            clear hP hba q1 q2
            by_cases hat : at_ < bs.length
            · have HL3 : Hid (locR bs = ([], 2)) := by show _ = _; rw [HL2.out, if_pos ⟨rfl, hat⟩]
              clear HL2
              go_wp2
              go_ret2
              exact ⟨.slice none 0 0, by rw [HL3.out]; rfl, by rw [HL3.out]; exact Ts.nil _, HB2.out⟩
            · have HL3 : Hid (locR bs = (ts, 0)) := by show _ = _; rw [HL2.out, if_neg (by simp [hat])]
              clear HL2
              go_wp2
              go_quiet (fail)
              go_wp2
              go_ret2
              exact ⟨_, by rw [HL3.out]; rfl, by rw [HL3.out]; exact HTs.out _, Below.drewN HB2.out _⟩
          · have hx2 : ((er : Int) == 0) = false := by rw [beq_eq_false_iff_ne]; omega
            have HL3 : Hid (locR bs = (ts, er)) := by show _ = _; rw [HL2.out, if_neg (by simp [hx])]
            have hP := At.made w2 #[.slice la ts.length lc, .int .i64 (at_ : Int), .int .i64 (er : Int)] 77
            have hba : Below w2.heap.size w2 (w2.alloc (.cells #[.slice la ts.length lc, .int .i64 (at_ : Int), .int .i64 (er : Int)] 77)) := (Below.refl _ _).alloc (Nat.le_refl _) _
            have HB2 : Hid (Below w.heap.size w (w2.alloc (.cells #[.slice la ts.length lc, .int .i64 (at_ : Int), .int .i64 (er : Int)] 77))) := q2.trans (hba.mono q2.size)
            have HTs : Hid (∀ m, Ts ((w2.alloc (.cells #[.slice la ts.length lc, .int .i64 (at_ : Int), .int .i64 (er : Int)] 77)).drewN m) (.slice la ts.length lc) ts) := fun m => (q1.later hba).drewN m
            have pc := hP.cell
            clear hP hba q1 q2 HL2 hx
            go_wp2
            go_quiet (fail)
            go_wp2
            go_ret2
            exact ⟨_, by rw [HL3.out]; rfl, by rw [HL3.out]; exact HTs.out _, Below.drewN HB2.out _⟩
      · have HL2 : Hid (locR bs = ([], er)) := by show _ = _; rw [HLc.out]; simp [cntE, he]
        have he2 : ((er : Int) != 0) = true := by rw [bne_iff_ne]; omega
        have hP := At.made w1 #[.int .i64 (n : Int), .int .i64 (ln : Int), .int .i64 (er : Int)] 74
        have hba : Below w1.heap.size w1 (w1.alloc (.cells #[.int .i64 (n : Int), .int .i64 (ln : Int), .int .i64 (er : Int)] 74)) := (Below.refl _ _).alloc (Nat.le_refl _) _
        have hB := k1.trans (hba.mono k1.size)
        have pc := hP.cell
        clear k1 hba hP HLc HOk he
        go_wp2
        go_quiet (fail)
        go_wp2
        go_ret2
        exact ⟨.slice none 0 0, by rw [HL2.out]; rfl, by rw [HL2.out]; exact Ts.nil _, Below.drewN hB _⟩
    · have HL : Hid (locR bs = ([], 2)) := by
        show _ = _
        have : hdE [7] bs 0 = 2 := by rw [h7, if_pos hpos, if_neg h0]
        unfold locR; rw [this]; rfl
      have h0' : ((byV bs 0 : Int) != 7) = true := by rw [bne_iff_ne]; omega
      clear hv h7 hc3 hb2 h0
      go_enter Try.func24, Try.ntmps24
      go_wp2
      go_ret2
      exact ⟨.slice none 0 0, by rw [HL.out]; rfl, by rw [HL.out]; exact Ts.nil _, Below.refl _ _⟩

end Go.Proofs.Ytcjoidhbhffcgaa
