
/- Sig of the references. -/
import Derived.Test.YtcjoidhbhffcgaaRefLocals5
namespace Go.Proofs.Ytcjoidhbhffcgaa
set_option linter.unusedVariables false
set_option linter.unusedSimpArgs false
open Go.RowKit

theorem hd32 (bs : List UInt8) : hdE [0, 32] bs 0 = (if 0 < bs.length then (if byV bs 0 = 0 ∨ byV bs 0 = 32 then 0 else 2) else 1) := by
  unfold hdE
  have : inB [0, 32] (byV bs 0) = decide (byV bs 0 = 0 ∨ byV bs 0 = 32) := by
    have a0 : (0 : UInt8).toNat = 0 := rfl
    have a32 : (32 : UInt8).toNat = 32 := rfl
    rw [Bool.eq_iff_iff]
    simp only [inB, List.any_cons, List.any_nil, Bool.or_false, Bool.or_eq_true, decide_eq_true_eq, a0, a32]
    omega
  rw [this]
  by_cases h : byV bs 0 = 0 ∨ byV bs 0 = 32
  · simp [h]
  · simp [h]

theorem At.other6 {w : World} {g g' : Nat} {C : Array Value} {t : TypeId} (h : At w g C t) (hg : g ≠ g') (x0 x1 x2 x3 x4 x5 : Value) : At ((((((w.setCell ⟨g', 0, none⟩ x0).setCell ⟨g', 1, none⟩ x1).setCell ⟨g', 2, none⟩ x2).setCell ⟨g', 3, none⟩ x3).setCell ⟨g', 4, none⟩ x4).setCell ⟨g', 5, none⟩ x5) g C t :=
  (((((h.other hg _).other hg _).other hg _).other hg _).other hg _).other hg _
theorem At.apart {w : World} {g g' : Nat} {C C' : Array Value} {t t' : TypeId} (h : At w g C t) (h' : At w g' C' t') (ht : t ≠ t') : g ≠ g' := by
  intro e
  unfold At at h h'
  rw [e, h'] at h
  simp only [Option.some.injEq, Obj.cells.injEq] at h
  exact ht h.2.1.symm

/-- What a call that answers a signature leaves. -/
def GotG (w w' : World) (s : Bool × List Ty × Ty) (er : Nat) (e : Ending) : Prop :=
  ∃ pv, e = .returned (.tuple #[.agg #[.bool s.1, pv, .int .i64 s.2.2.1, .int .i64 s.2.2.2.1, .int .i64 s.2.2.2.2.1, .bool s.2.2.2.2.2], .int .i64 (er : Int)]) ∧ Ts w' pv s.2.1 ∧ Below w.heap.size w w'

set_option maxHeartbeats 4000000 in
set_option maxRecDepth 100000 in
theorem refSig_any {v : Value} {bs : List UInt8} {w : World} (hv : Bs w v bs) (hl : bs.length ≤ 281474976710656) :
    Calls Try.prog 21 #[v] w fun e w' => GotG w w' (sgR bs).1 (sgR bs).2 e := by
  have h32 := hd32 bs
  have hb0 : Below w.heap.size w (w.alloc (.cells #[.bool false, .slice none 0 0, .int .i64 0, .int .i64 0, .int .i64 0, .bool false] 39)) := (Below.refl _ _).alloc (Nat.le_refl _) _
  have hS0 := At.made w #[.bool false, .slice none 0 0, .int .i64 0, .int .i64 0, .int .i64 0, .bool false] 39
  obtain ⟨va, cap, rfl, hc1, hc2, hc3⟩ := id hv
  unfold maxLen at hc2
  by_cases hbs : bs = []
  · subst hbs
    have HL : Hid (sgR [] = (noS, 1)) := by
      show _ = _
      have : hdE [0, 32] [] 0 = 1 := by rw [h32]; rfl
      unfold sgR; rw [this]; rfl
    clear hv h32 hc3 hS0
    go_enter Try.func21, Try.ntmps21
    go_wp2
    exact bodyPost_ret (v := .tuple #[.agg #[.bool false, .slice none 0 0, .int .i64 0, .int .i64 0, .int .i64 0, .bool false], .int .i64 1]) (by simp [results, Try.results21, go_sem]) rfl (by rw [HL.out]; exact ⟨_, rfl, Ts.nil _, hb0⟩)
  · obtain ⟨b, off, rfl, hb1, hb2⟩ := hc3 hbs
    have hpos : 0 < bs.length := List.length_pos_iff.2 hbs
    have hcell : w.cell? ⟨b, off, none⟩ = some (.int .u8 (byV bs 0 : Int)) := by
      have := hb2 0 hpos
      rw [(by_yes hpos).1]
      simpa using this
    have HCB : Hid (∀ W, Below w.heap.size w W → W.cell? ⟨b, off, none⟩ = some (.int .u8 (byV bs 0 : Int))) := fun W hW => by
      rw [hW.cell (p := ⟨b, off, none⟩) hb1]; exact hcell
    have hne : b ≠ w.heap.size := by omega
    have hbv : byV bs 0 < 256 := (by_yes hpos).2.2
    have HV : Hid (Bs w (.slice (some ⟨b, off, none⟩) bs.length cap) bs) := hv
    have HU : Hid (Calls Try.prog 43 #[.slice (some ⟨b, off, none⟩) bs.length cap, .int .i64 1] (w.alloc (.cells #[.bool false, .slice none 0 0, .int .i64 0, .int .i64 0, .int .i64 0, .bool false] 39)) fun e w' =>
        e = .returned (.agg #[.int .i64 ((unp bs 1).1 : Int), .int .i64 ((unp bs 1).2.1 : Int), .int .i64 ((unp bs 1).2.2 : Int)]) ∧ Below w.heap.size w w' ∧ At w' w.heap.size #[.bool false, .slice none 0 0, .int .i64 0, .int .i64 0, .int .i64 0, .bool false] 39) := by
      refine Calls.mono (unpack_any (hv.later hb0) 1 hpos) ?_
      rintro e w' ⟨rfl, k⟩
      exact ⟨rfl, hb0.trans (k.mono (by simp)), hS0.later k⟩
    have hbad : ∀ (W : World) (er : Nat), At W w.heap.size #[.bool false, .slice none 0 0, .int .i64 0, .int .i64 0, .int .i64 0, .bool false] 39 → Below w.heap.size w W →
        Hid (At ((((((W.setCell ⟨w.heap.size, 0, none⟩ (.bool false)).setCell ⟨w.heap.size, 1, none⟩ (.slice none 0 0)).setCell ⟨w.heap.size, 2, none⟩ (.int .i64 0)).setCell ⟨w.heap.size, 3, none⟩ (.int .i64 0)).setCell ⟨w.heap.size, 4, none⟩ (.int .i64 0)).setCell ⟨w.heap.size, 5, none⟩ (.bool false)) w.heap.size #[.bool false, .slice none 0 0, .int .i64 0, .int .i64 0, .int .i64 0, .bool false] 39 ∧
          GotG w ((((((W.setCell ⟨w.heap.size, 0, none⟩ (.bool false)).setCell ⟨w.heap.size, 1, none⟩ (.slice none 0 0)).setCell ⟨w.heap.size, 2, none⟩ (.int .i64 0)).setCell ⟨w.heap.size, 3, none⟩ (.int .i64 0)).setCell ⟨w.heap.size, 4, none⟩ (.int .i64 0)).setCell ⟨w.heap.size, 5, none⟩ (.bool false)) noS er (.returned (.tuple #[.agg #[.bool false, .slice none 0 0, .int .i64 0, .int .i64 0, .int .i64 0, .bool false], .int .i64 (er : Int)])) ∧
          ∀ m, GotG w (((((((W.setCell ⟨w.heap.size, 0, none⟩ (.bool false)).setCell ⟨w.heap.size, 1, none⟩ (.slice none 0 0)).setCell ⟨w.heap.size, 2, none⟩ (.int .i64 0)).setCell ⟨w.heap.size, 3, none⟩ (.int .i64 0)).setCell ⟨w.heap.size, 4, none⟩ (.int .i64 0)).setCell ⟨w.heap.size, 5, none⟩ (.bool false)).drewN m) noS er (.returned (.tuple #[.agg #[.bool false, .slice none 0 0, .int .i64 0, .int .i64 0, .int .i64 0, .bool false], .int .i64 (er : Int)]))) := fun W er h1 h2 =>
      ⟨h1.set6 _ _ _ _ _ _, ⟨.slice none 0 0, rfl, Ts.nil _, below_set6 h2 (Nat.le_refl _) _ _ _ _ _ _⟩, fun m => ⟨.slice none 0 0, rfl, Ts.nil _, Below.drewN (below_set6 h2 (Nat.le_refl _) _ _ _ _ _ _) m⟩⟩
    by_cases h0 : byV bs 0 = 0 ∨ byV bs 0 = 32
    · have HE : Hid (hdE [0, 32] bs 0 = 0) := by show _ = _; rw [h32, if_pos hpos, if_pos h0]
      have HLc : Hid (sgR bs = if cntE 6 (unp bs 1) ≠ 0 then (noS, cntE 6 (unp bs 1)) else sgX bs (byV bs 0) (allowR 3 (getT bs (1 + (unp bs 1).2.1))) (cntV 6 (unp bs 1))) := by show _ = _; unfold sgR; rw [if_neg (by simpa using HE.out)]
      have HOk : Hid ((unp bs 1).2.2 = 0 → 1 + (unp bs 1).2.1 ≤ bs.length) := fun h => (unp_ok bs 1 h).1
      have hcase : (((byV bs 0 : Int) != 0) = false) ∨ (((byV bs 0 : Int) != 0) = true ∧ ((byV bs 0 : Int) != 32) = false) := by
        simp only [bne_iff_ne, bne_eq_false_iff_eq]; omega
      clear hv h32 hc3 hb2 h0 HE hb0 hS0
      generalize unp bs 1 = u at *
      obtain ⟨n, ln, er⟩ := u
      simp only at HU HLc HOk
      generalize byV bs 0 = c at *
      rcases hcase with hc0 | ⟨hc0, hc32⟩
      all_goals
        go_enter Try.func21, Try.ntmps21
        go_wp2_with fail
        refine Calls.mono HU.out ?_
        rintro e w1 ⟨rfl, k1, k2⟩
        clear HU hcell
        by_cases he : er = 0
        · subst he
          have hok := HOk.out rfl
          have hP := At.made w1 #[.int .i64 (n : Int), .int .i64 (ln : Int), .int .i64 0] 74
          have hba : Below w1.heap.size w1 (w1.alloc (.cells #[.int .i64 (n : Int), .int .i64 (ln : Int), .int .i64 0] 74)) := (Below.refl _ _).alloc (Nat.le_refl _) _
          have hB := k1.trans (hba.mono k1.size)
          have hS := k2.later hba
          clear k1 k2 hba
          have pc := hP.cell
          have sc := hS.cell
          have sm := hS.melt
          by_cases h6 : 6 < n
          · have HL2 : Hid (sgR bs = (noS, 4)) := by show _ = _; rw [HLc.out]; simp [cntE, h6]
            have HBd := hbad _ 4 hS hB
            have HF := HBd.out.1.cell
            clear HLc hP HOk hS hB hbad
            go_wp2
            exact bodyPost_ret (v := .tuple #[.agg #[.bool false, .slice none 0 0, .int .i64 0, .int .i64 0, .int .i64 0, .bool false], .int .i64 4]) (by simp [results, Try.results21, go_sem, HF]) rfl (by rw [HL2.out]; exact HBd.out.2.1)
          · have HL2 : Hid (sgR bs = sgX bs c (allowR 3 (getT bs (1 + ln))) n) := by
              show _ = _
              rw [HLc.out]
              have e1 : cntE 6 (n, ln, 0) = 0 := by simp [cntE, h6]
              have e2 : cntV 6 (n, ln, 0) = n := by simp [cntV, e1]
              rw [e1, e2, if_neg (by simp)]
            have HGt : Hid (Calls Try.prog 37 #[.slice (some ⟨b, off, none⟩) bs.length cap, .int .i64 (1 + (ln : Int))] (w1.alloc (.cells #[.int .i64 (n : Int), .int .i64 (ln : Int), .int .i64 0] 74)) fun e w' => e = .returned (gotv (getT bs (1 + ln))) ∧ Below w.heap.size w w' ∧ At w' w.heap.size #[.bool false, .slice none 0 0, .int .i64 0, .int .i64 0, .int .i64 0, .bool false] 39 ∧ At w' w1.heap.size #[.int .i64 (n : Int), .int .i64 (ln : Int), .int .i64 0] 74) := by
              have := refGet_any (HV.out.later hB) (1 + ln) hok hl
              simp only [Int.natCast_add, Int.cast_ofNat_Int] at this
              refine Calls.mono this ?_
              rintro e w' ⟨rfl, q2⟩
              exact ⟨rfl, hB.trans (q2.mono hB.size), hS.later q2, hP.later q2⟩
            have HAt : Hid ((getT bs (1 + ln)).2.2 = 0 → (getT bs (1 + ln)).2.1 ≤ bs.length) := fun h => (get_ok bs (1 + ln) hok h).2.2.2
            clear HLc HOk hB hS hP sc sm
            generalize getT bs (1 + ln) = g at *
            obtain ⟨⟨k, i, d, r⟩, at_, er⟩ := g
            unfold gotv at HGt
            simp only at HGt HAt
            go_wp2_with fail
            refine Calls.mono HGt.out ?_
            rintro e w2 ⟨rfl, hB, hS, hP⟩
            clear HGt pc
            by_cases hg : er = 0
            · subst hg
              have hat := HAt.out rfl
              have hG := At.made w2 #[.int .i64 k, .int .i64 i, .int .i64 d, .bool r, .int .i64 (at_ : Int), .int .i64 0] 68
              have hba : Below w2.heap.size w2 (w2.alloc (.cells #[.int .i64 k, .int .i64 i, .int .i64 d, .bool r, .int .i64 (at_ : Int), .int .i64 0] 68)) := (Below.refl _ _).alloc (Nat.le_refl _) _
              have hB2 := hB.trans (hba.mono hB.size)
              have hS2 := hS.later hba
              have hP2 := hP.later hba
              clear hB hS hP hba
              have tc := hG.cell
              by_cases hm : mayB 3 k i d r = true
              · have HL3 : Hid (sgR bs = if (lastTs bs (getTs bs n at_)).2 ≠ 0 then (noS, (lastTs bs (getTs bs n at_)).2) else ((c == 32, (lastTs bs (getTs bs n at_)).1, (k, i, d, r)), 0)) := by
                  show _ = _
                  rw [HL2.out]
                  have e1 : allowR 3 ((k, i, d, r), at_, 0) = ((k, i, d, r), at_, 0) := by simp [allowR, mayT, hm]
                  rw [e1]; simp [sgX]
                go_wp2_with fail
                refine (where3_any k i d r _).mono ?_
                rintro e w3 ⟨rfl, hb3⟩
                have hB3 := hB2.trans (hb3.mono hB2.size)
                have hS3 := hS2.later hb3
                have hP3 := hP2.later hb3
                have hG3 := hG.later hb3
                clear hB2 hS2 hP2 hG hb3 tc
                have tc := hG3.cell
                have pc := hP3.cell
                have HTy : Hid (Calls Try.prog 44 #[.slice (some ⟨b, off, none⟩) bs.length cap, .int .i64 (at_ : Int), .int .i64 (n : Int)] w3 fun e w' => ∃ lv, e = .returned (.agg #[lv, .int .i64 ((getTs bs n at_).2.1 : Int), .int .i64 ((getTs bs n at_).2.2 : Int)]) ∧ Ts w' lv (getTs bs n at_).1 ∧ (∀ k, lv.ownBlock = some k → w.heap.size < k) ∧ Below w.heap.size w w' ∧ At w' w.heap.size #[.bool false, .slice none 0 0, .int .i64 0, .int .i64 0, .int .i64 0, .bool false] 39 ∧ At w' w2.heap.size #[.int .i64 k, .int .i64 i, .int .i64 d, .bool r, .int .i64 (at_ : Int), .int .i64 0] 68) := by
                  refine Calls.mono (refTypes_any (HV.out.later hB3) at_ n hat hl (by omega)) ?_
                  rintro e w' ⟨lv, rfl, q1, qo, q2⟩
                  exact ⟨lv, rfl, q1, fun k hk => Nat.lt_of_lt_of_le hS3.lt (qo k hk), hB3.trans (q2.mono hB3.size), hS3.later q2, hG3.later q2⟩
                rw [last_eq] at HL3
                clear HL2 hB3 hS3 hP3 hG3 HAt
                generalize getTs bs n at_ = x at *
                obtain ⟨ts, ax, ex⟩ := x
                simp only at HL3 HTy
                go_wp2_with fail
                refine Calls.mono HTy.out ?_
                rintro e w4 ⟨lv, rfl, q1, hown, hB, hS, hG⟩
                obtain ⟨la, lc, rfl, hl1, hl2⟩ := q1.shape
                unfold maxLen at hl2
                clear HTy tc pc
                by_cases hx : ex = 0
                · subst hx
                  have hX := At.made w4 #[.slice la ts.length lc, .int .i64 (ax : Int), .int .i64 0] 77
                  have hba : Below w4.heap.size w4 (w4.alloc (.cells #[.slice la ts.length lc, .int .i64 (ax : Int), .int .i64 0] 77)) := (Below.refl _ _).alloc (Nat.le_refl _) _
                  have hB5 := hB.trans (hba.mono hB.size)
                  have hS5 := hS.later hba
                  have hG5 := hG.later hba
                  have hTs5 := q1.later hba
                  have xc := hX.cell
                  have tc := hG5.cell
                  have sc := hS5.cell
                  have sm := hS5.melt
                  have hcl := HCB.out _ hB5
                  by_cases hat2 : ax < bs.length
                  · have HL4 : Hid (sgR bs = (noS, 2)) := by show _ = _; rw [HL3.out]; simp [hat2]
                    have HBd := hbad _ 2 hS5 hB5
                    have HF := HBd.out.1.cell
                    clear HL3 hS hG hB q1 hX hba hB5 hS5 hG5 hTs5 hbad
                    go_wp2
                    exact bodyPost_ret (v := .tuple #[.agg #[.bool false, .slice none 0 0, .int .i64 0, .int .i64 0, .int .i64 0, .bool false], .int .i64 2]) (by simp [results, Try.results21, go_sem, HF]) rfl (by rw [HL4.out]; exact HBd.out.2.1)
                  · have HL4 : Hid (sgR bs = ((c == 32, ts, (k, i, d, r)), 0)) := by show _ = _; rw [HL3.out]; simp [hat2]
                    have e32 : ((c : Int) == 32) = (c == 32) := by rw [Bool.eq_iff_iff]; simp only [beq_iff_eq]; omega
                    have HF := (hS5.set6 (.bool (c == 32)) (.slice la ts.length lc) (.int .i64 k) (.int .i64 i) (.int .i64 d) (.bool r)).cell
                    have HB := below_set6 hB5 (Nat.le_refl _) (.bool (c == 32)) (.slice la ts.length lc) (.int .i64 k) (.int .i64 i) (.int .i64 d) (.bool r)
                    have HTs : Hid (Ts ((((((((w4.alloc (.cells #[.slice la ts.length lc, .int .i64 (ax : Int), .int .i64 0] 77)).setCell ⟨w.heap.size, 0, none⟩ (.bool (c == 32))).setCell ⟨w.heap.size, 1, none⟩ (.slice la ts.length lc)).setCell ⟨w.heap.size, 2, none⟩ (.int .i64 k)).setCell ⟨w.heap.size, 3, none⟩ (.int .i64 i)).setCell ⟨w.heap.size, 4, none⟩ (.int .i64 d)).setCell ⟨w.heap.size, 5, none⟩ (.bool r)).drewN 1) (.slice la ts.length lc) ts) := by
                      refine Ts.drewN (hTs5.of_block (below_set6 (Below.refl 0 _) (Nat.zero_le _) _ _ _ _ _ _).size fun g hg hlt => ?_) 1
                      have hne : g ≠ w.heap.size := by have := hown g hg; omega
                      rw [Below.heap_setCell _ _ _ _ hne, Below.heap_setCell _ _ _ _ hne, Below.heap_setCell _ _ _ _ hne, Below.heap_setCell _ _ _ _ hne, Below.heap_setCell _ _ _ _ hne, Below.heap_setCell _ _ _ _ hne]
                    clear HL3 hS hG hB hX hba hB5 hS5 hG5 hbad q1 hTs5 hown
                    go_wp2
                    go_region
                    go_wp2
                    exact bodyPost_ret (v := .tuple #[.agg #[.bool (c == 32), .slice la ts.length lc, .int .i64 k, .int .i64 i, .int .i64 d, .bool r], .int .i64 0]) (by simp [results, Try.results21, go_sem, HF]) rfl (by rw [HL4.out]; exact ⟨_, rfl, HTs.out, Below.drewN HB 1⟩)
                · have hx2 : ((ex : Int) != 0) = true := by rw [bne_iff_ne]; omega
                  have HL4 : Hid (sgR bs = (noS, ex)) := by show _ = _; rw [HL3.out]; simp [hx]
                  have hX := At.made w4 #[.slice la ts.length lc, .int .i64 (ax : Int), .int .i64 (ex : Int)] 77
                  have hba : Below w4.heap.size w4 (w4.alloc (.cells #[.slice la ts.length lc, .int .i64 (ax : Int), .int .i64 (ex : Int)] 77)) := (Below.refl _ _).alloc (Nat.le_refl _) _
                  have hB5 := hB.trans (hba.mono hB.size)
                  have hS5 := hS.later hba
                  have xc := hX.cell
                  have xc2 := (hX.other6 (hX.apart hS5 (by decide)) (.bool false) (.slice none 0 0) (.int .i64 0) (.int .i64 0) (.int .i64 0) (.bool false)).cell
                  have sc := hS5.cell
                  have sm := hS5.melt
                  have HBd := hbad _ ex hS5 hB5
                  have HF := HBd.out.1.cell
                  clear HL3 hS hG hB q1 hX hba hB5 hS5 hbad hx
                  go_wp2
                  go_region
                  go_wp2
                  exact bodyPost_ret (v := .tuple #[.agg #[.bool false, .slice none 0 0, .int .i64 0, .int .i64 0, .int .i64 0, .bool false], .int .i64 (ex : Int)]) (by simp [results, Try.results21, go_sem, HF]) rfl (by rw [HL4.out]; exact HBd.out.2.2 1)
              · have hm' : mayB 3 k i d r = false := by simpa using hm
                have HL3 : Hid (sgR bs = (noS, 10)) := by
                  show _ = _
                  rw [HL2.out]
                  have e1 : allowR 3 ((k, i, d, r), at_, 0) = badR 10 := by simp [allowR, mayT, hm']
                  rw [e1]; simp [sgX, badR]
                clear hm HL2
                go_wp2_with fail
                refine (where3_any k i d r _).mono ?_
                rintro e w3 ⟨rfl, hb3⟩
                have hB3 := hB2.trans (hb3.mono hB2.size)
                have hS3 := hS2.later hb3
                have sc := hS3.cell
                have sm := hS3.melt
                have HBd := hbad _ 10 hS3 hB3
                have HF := HBd.out.1.cell
                clear hB2 hS2 hP2 hG hb3 tc hB3 hS3 hbad
                go_wp2
                exact bodyPost_ret (v := .tuple #[.agg #[.bool false, .slice none 0 0, .int .i64 0, .int .i64 0, .int .i64 0, .bool false], .int .i64 10]) (by simp [results, Try.results21, go_sem, HF]) rfl (by rw [HL3.out]; exact HBd.out.2.1)
            · have hg2 : ((er : Int) != 0) = true := by rw [bne_iff_ne]; omega
              have HL3 : Hid (sgR bs = (noS, er)) := by
                show _ = _
                rw [HL2.out]
                have e1 : allowR 3 ((k, i, d, r), at_, er) = badR er := by simp [allowR, hg]
                rw [e1]; simp [sgX, badR, hg]
              have hG := At.made w2 #[.int .i64 k, .int .i64 i, .int .i64 d, .bool r, .int .i64 (at_ : Int), .int .i64 (er : Int)] 68
              have hba : Below w2.heap.size w2 (w2.alloc (.cells #[.int .i64 k, .int .i64 i, .int .i64 d, .bool r, .int .i64 (at_ : Int), .int .i64 (er : Int)] 68)) := (Below.refl _ _).alloc (Nat.le_refl _) _
              have hB2 := hB.trans (hba.mono hB.size)
              have hS2 := hS.later hba
              have tc := hG.cell
              have tc2 := (hG.other6 (hG.apart hS2 (by decide)) (.bool false) (.slice none 0 0) (.int .i64 0) (.int .i64 0) (.int .i64 0) (.bool false)).cell
              have sc := hS2.cell
              have sm := hS2.melt
              have HBd := hbad _ er hS2 hB2
              have HF := HBd.out.1.cell
              clear HL2 hS hB hP hG hba hB2 hS2 hbad hg HAt
              go_wp2
              go_region
              go_wp2
              exact bodyPost_ret (v := .tuple #[.agg #[.bool false, .slice none 0 0, .int .i64 0, .int .i64 0, .int .i64 0, .bool false], .int .i64 (er : Int)]) (by simp [results, Try.results21, go_sem, HF]) rfl (by rw [HL3.out]; exact HBd.out.2.2 1)
        · have he2 : ((er : Int) != 0) = true := by rw [bne_iff_ne]; omega
          have HL2 : Hid (sgR bs = (noS, er)) := by show _ = _; rw [HLc.out]; simp [cntE, he]
          have hP := At.made w1 #[.int .i64 (n : Int), .int .i64 (ln : Int), .int .i64 (er : Int)] 74
          have hba : Below w1.heap.size w1 (w1.alloc (.cells #[.int .i64 (n : Int), .int .i64 (ln : Int), .int .i64 (er : Int)] 74)) := (Below.refl _ _).alloc (Nat.le_refl _) _
          have hB := k1.trans (hba.mono k1.size)
          have hS := k2.later hba
          have pc := hP.cell
          have pc2 := (hP.other6 (hP.apart hS (by decide)) (.bool false) (.slice none 0 0) (.int .i64 0) (.int .i64 0) (.int .i64 0) (.bool false)).cell
          have sc := hS.cell
          have sm := hS.melt
          have HBd := hbad _ er hS hB
          have HF := HBd.out.1.cell
          clear HLc hP HOk hS hB hbad k1 k2 hba he
          go_wp2
          go_region
          go_wp2
          exact bodyPost_ret (v := .tuple #[.agg #[.bool false, .slice none 0 0, .int .i64 0, .int .i64 0, .int .i64 0, .bool false], .int .i64 (er : Int)]) (by simp [results, Try.results21, go_sem, HF]) rfl (by rw [HL2.out]; exact HBd.out.2.2 1)
    · have HL : Hid (sgR bs = (noS, 2)) := by
        show _ = _
        have : hdE [0, 32] bs 0 = 2 := by rw [h32, if_pos hpos, if_neg h0]
        unfold sgR; rw [this]; rfl
      have h01 : ((byV bs 0 : Int) != 0) = true := by rw [bne_iff_ne]; omega
      have h02 : ((byV bs 0 : Int) != 32) = true := by rw [bne_iff_ne]; omega
      clear hv h32 hc3 hb2 h0 hS0 hbad HU HV HCB
      go_enter Try.func21, Try.ntmps21
      go_wp2
      exact bodyPost_ret (v := .tuple #[.agg #[.bool false, .slice none 0 0, .int .i64 0, .int .i64 0, .int .i64 0, .bool false], .int .i64 2]) (by simp [results, Try.results21, go_sem]) rfl (by rw [HL.out]; exact ⟨_, rfl, Ts.nil _, hb0⟩)

end Go.Proofs.Ytcjoidhbhffcgaa
