
/- types of the references. -/
import Derived.Test.YtcjoidhbhffcgaaAppendT5
import Derived.Test.YtcjoidhbhffcgaaRefGet5
import Derived.Test.YtcjoidhbhffcgaaSigMath
import Derived.Test.YtcjoidhbhffcgaaWakes5
namespace Go.Proofs.Ytcjoidhbhffcgaa
set_option linter.unusedVariables false
set_option linter.unusedSimpArgs false
open Go.RowKit

theorem OwnT.ne {w : World} {base g : Nat} {v : Value} {ts : List Ty} {C : Array Value} {t : TypeId} (ho : OwnT w base v ts) (h : At w g C t) (ht : t ≠ 23) : v.ownBlock ≠ some g := by
  intro e
  obtain ⟨C', hC⟩ := ho.typed g e
  unfold At at h hC
  rw [h] at hC
  simp only [Option.some.injEq, Obj.cells.injEq] at hC
  exact ht hC.2.1
theorem Ts.shape {w : World} {v : Value} {ts : List Ty} (h : Ts w v ts) : ∃ a c, v = .slice a ts.length c ∧ ts.length ≤ c ∧ c ≤ maxLen := by
  obtain ⟨a, c, h1, h2, h3, _⟩ := h
  exact ⟨a, c, h1, h2, h3⟩

set_option maxHeartbeats 4000000 in
set_option maxRecDepth 100000 in
theorem refTypes_any {v : Value} {bs : List UInt8} {w : World} (hv : Bs w v bs) (a n : Nat) (ha : a ≤ bs.length) (hl : bs.length ≤ 281474976710656) (hn : n ≤ 100) :
    Calls Try.prog 44 #[v, .int .i64 (a : Int), .int .i64 (n : Int)] w fun e w' => ∃ lv, e = .returned (.agg #[lv, .int .i64 ((getTs bs n a).2.1 : Int), .int .i64 ((getTs bs n a).2.2 : Int)]) ∧ Ts w' lv (getTs bs n a).1 ∧ (∀ k, lv.ownBlock = some k → w.heap.size ≤ k) ∧ Below w.heap.size w w' := by
  have hb0 : Below w.heap.size w ((w.alloc (.cells #[.slice none 0 0, .int .i64 0, .int .i64 0] 77)).alloc (.cells #[.slice none 0 0, .int .i64 (a : Int), .int .i64 0] 77)) :=
    ((Below.refl _ _).alloc (Nat.le_refl _) _).alloc (by simp) _
  have hG0 := (At.made w #[.slice none 0 0, .int .i64 0, .int .i64 0] 77).next (.cells #[.slice none 0 0, .int .i64 (a : Int), .int .i64 0] 77)
  have hX0 : At ((w.alloc (.cells #[.slice none 0 0, .int .i64 0, .int .i64 0] 77)).alloc (.cells #[.slice none 0 0, .int .i64 (a : Int), .int .i64 0] 77)) (w.heap.size + 1) #[.slice none 0 0, .int .i64 (a : Int), .int .i64 0] 77 := by
    have := At.made (w.alloc (.cells #[.slice none 0 0, .int .i64 0, .int .i64 0] 77)) #[.slice none 0 0, .int .i64 (a : Int), .int .i64 0] 77
    simpa using this
  have HG0 : Hid (getTs bs n a = consR [] (getTs bs n a)) := cons_nil bs n a
  have HV : Hid (Bs w v bs) := hv
  clear hv
  go_enter Try.func44, Try.ntmps44
  go_wp2
  go_loopw [8] (fun z wr => ∃ (q a' : Nat) (ts : List Ty) (lv : Value), q ≤ n ∧ a' ≤ bs.length ∧ ts.length = q ∧ z = .int .i64 (q : Int) ∧ At wr w.heap.size #[.slice none 0 0, .int .i64 0, .int .i64 0] 77 ∧ At wr (w.heap.size + 1) #[lv, .int .i64 (a' : Int), .int .i64 0] 77 ∧ OwnT wr w.heap.size lv ts ∧ Below w.heap.size w wr ∧ Hid (getTs bs n a = consR ts (getTs bs (n - q) a'))) (fun z _ => n - (intOf z).toNat)
  case atStart => exact ⟨0, a, [], .slice none 0 0, Nat.zero_le _, ha, rfl, rfl, hG0, hX0, OwnT.nil _ _, hb0, HG0⟩
  case round =>
    obtain ⟨q, a', ts, lv, hq, ha', hlen, rfl, hG, hX, hT, hB, hC⟩ := hrel
    clear hG0 hX0 hb0 HG0
    have HLn : Hid (ts.length = q) := hlen
    have hlq : ts.length ≤ 100 := by omega
    clear hlen
    obtain ⟨la, lc, rfl, hl1, hl2⟩ := hT.ts.shape
    unfold maxLen at hl2
    have xc := hX.cell
    have xm := hX.melt
    have gc := hG.cell
    have gm := hG.melt
    by_cases hqn : q < n
    · obtain ⟨m, hm⟩ : ∃ m, n - q = m + 1 := ⟨n - q - 1, by omega⟩
      have HM : Hid (n - q = m + 1) := hm
      have HC1 : Hid (Calls Try.prog 37 #[v, .int .i64 (a' : Int)] wr fun e w' => e = .returned (gotv (getT bs a')) ∧ Below wr.heap.size wr w') := refGet_any (HV.out.later (hB.mono (Nat.le_refl _))) a' ha' hl
      have HG1 : Hid ((getT bs a').2.2 ≠ 0 → getTs bs n a = ([], 0, (getT bs a').2.2)) := fun h => by
        have e1 : allowR 2 (getT bs a') = badR (getT bs a').2.2 := by unfold allowR; rw [if_pos h]
        rw [hC.out, hm, cons_bad bs ts m a' (by rw [e1]; exact h), e1]; rfl
      have HG2 : Hid ((getT bs a').2.2 = 0 → mayT 2 (getT bs a').1 = false → getTs bs n a = ([], 0, 10)) := fun h h' => by
        have e1 : allowR 2 (getT bs a') = badR 10 := by unfold allowR; rw [if_neg (by simpa using h), if_neg (by rw [h']; decide)]
        rw [hC.out, hm, cons_bad bs ts m a' (by rw [e1]; decide), e1]; rfl
      have HG3 : Hid ((getT bs a').2.2 = 0 → mayT 2 (getT bs a').1 = true → getTs bs n a = consR (ts ++ [(getT bs a').1]) (getTs bs m (getT bs a').2.1)) := fun h h' => by
        have e1 : allowR 2 (getT bs a') = getT bs a' := by unfold allowR; rw [if_neg (by simpa using h), if_pos h']
        rw [hC.out, hm, cons_step bs ts m a' (by rw [e1]; exact h), e1]
      have HA : Hid ((getT bs a').2.2 = 0 → (getT bs a').2.1 ≤ bs.length) := fun h => (get_ok bs a' ha' h).2.2.2
      clear hC hm
      generalize getT bs a' = g at *
      obtain ⟨⟨k, i, d, r⟩, at_, er⟩ := g
      simp only at HG1 HG2 HG3 HA
      unfold gotv at HC1
      simp only at HC1
      go_wp2_with fail
      refine Calls.mono HC1.out ?_
      rintro e w2 ⟨rfl, hb2⟩
      by_cases he : er = 0
      · subst he
        have HGt := At.made w2 #[.int .i64 k, .int .i64 i, .int .i64 d, .bool r, .int .i64 (at_ : Int), .int .i64 0] 68
        have hba : Below w2.heap.size w2 (w2.alloc (.cells #[.int .i64 k, .int .i64 i, .int .i64 d, .bool r, .int .i64 (at_ : Int), .int .i64 0] 68)) := (Below.refl _ _).alloc (Nat.le_refl _) _
        have hb2' : Below wr.heap.size wr (w2.alloc (.cells #[.int .i64 k, .int .i64 i, .int .i64 d, .bool r, .int .i64 (at_ : Int), .int .i64 0] 68)) := hb2.trans (hba.mono hb2.size)
        have hG2 := hG.later hb2'
        have hX2 := hX.later hb2'
        have hT2 := hT.later hb2'
        have hB2 := hB.trans (hb2'.mono hB.size)
        clear hba hb2 hb2' hG hX hT hB HC1 xc xm gc gm
        have hat := HA.out rfl
        have tc := HGt.cell
        by_cases hm : mayB 2 k i d r = true
        · have HF0 : Hid (getTs bs n a = consR (ts ++ [(k, i, d, r)]) (getTs bs m at_)) := HG3.out rfl hm
          clear HG1 HG2 HG3 HA
          go_wp2_with fail
          refine (where2_any k i d r _).mono ?_
          rintro e w3 ⟨rfl, hb3⟩
          have hGt3 := HGt.later hb3
          have hG3 := hG2.later hb3
          have hX3 := hX2.later hb3
          have HT3 : Hid (OwnT w3 w.heap.size (.slice la ts.length lc) ts) := hT2.later hb3
          have hB3 := hB2.trans (hb3.mono hB2.size)
          clear HGt hG2 hX2 hT2 hB2 hb3 tc
          have xc := hX3.cell
          have tc := hGt3.cell
          have hsz := hB3.size
          go_wp2_with (at_builtin; go_must (refine wpList_append_ts rfl _ _ rfl w.heap.size rfl rfl (HT3.out.later ((Below.refl _ _).alloc (Nat.le_refl _) _)) (one_ty w3 (k, i, d, r) _ rfl) (by simp; omega) (by simp; omega) ?_))
          intro v4 w4 ho4 hg4
          have hb4 : Below w.heap.size w3 w4 := ((Below.refl _ _).alloc (by omega) _).grown hg4 (by simp; omega) (fun k hk => (HT3.out.block k hk).1)
          have hT3' := HT3.out.later ((Below.refl w3.heap.size w3).alloc (Nat.le_refl _) (.cells #[.int .i64 k, .int .i64 i, .int .i64 d, .bool r] 23))
          have hG4 := (hG3.next (.cells #[.int .i64 k, .int .i64 i, .int .i64 d, .bool r] 23)).grownT hT3' (by decide) hg4
          have hX4 := (hX3.next (.cells #[.int .i64 k, .int .i64 i, .int .i64 d, .bool r] 23)).grownT hT3' (by decide) hg4
          have hGt4 := (hGt3.next (.cells #[.int .i64 k, .int .i64 i, .int .i64 d, .bool r] 23)).grownT hT3' (by decide) hg4
          have hB4 := hB3.trans hb4
          clear hG3 hX3 hGt3 hB3 hb4 hg4 hT3' xc tc hsz
          obtain ⟨a4, c4, rfl, h41, h42⟩ := ho4.ts.shape
          have hX5 := hX4.set 0 (.slice a4 (ts ++ [(k, i, d, r)]).length c4)
          have hgne : w2.heap.size ≠ w.heap.size + 1 := by
            intro e
            have h1 := hX4
            have h2 := hGt4
            unfold At at h1 h2
            rw [e, h1] at h2
            simp at h2
          have hGt5 := hGt4.other (o := 0) hgne (.slice a4 (ts ++ [(k, i, d, r)]).length c4)
          have hG5 := hG4.other (g' := w.heap.size + 1) (o := 0) (by omega) (.slice a4 (ts ++ [(k, i, d, r)]).length c4)
          have hT5 := ho4.setOther (o := 0) (u := .slice a4 (ts ++ [(k, i, d, r)]).length c4) (ho4.ne hX4 (by decide))
          have hB5 := hB4.setCell (p := ⟨w.heap.size + 1, 0, none⟩) (show w.heap.size ≤ w.heap.size + 1 by omega) (.slice a4 (ts ++ [(k, i, d, r)]).length c4)
          have hX6 := hX5.set 1 (.int .i64 (at_ : Int))
          have hG6 := hG5.other (g' := w.heap.size + 1) (o := 1) (by omega) (.int .i64 (at_ : Int))
          have hT6 := hT5.setOther (o := 1) (u := .int .i64 (at_ : Int)) (hT5.ne hX5 (by decide))
          have hB6 := hB5.setCell (p := ⟨w.heap.size + 1, 1, none⟩) (show w.heap.size ≤ w.heap.size + 1 by omega) (.int .i64 (at_ : Int))
          have xc4 := hX4.cell
          have xm4 := hX4.melt
          have xc5 := hX5.cell
          have xm5 := hX5.melt
          have tc5 := hGt5.cell
          have HL5 : Hid ((ts ++ [(k, i, d, r)]).length = q + 1) := by show _ = _; simp [HLn.out]
          generalize ts ++ [(k, i, d, r)] = ts2 at *
          have HX6 : Hid _ := hX6
          have HG6 : Hid _ := hG6
          have HT6 : Hid _ := hT6
          have HB6 : Hid _ := hB6
          clear hX4 hX5 hG4 hG5 hGt4 hGt5 ho4 hT5 hB4 hB5 hX6 hG6 hT6 hB6 hgne
          go_wp2
          go_roundw
          case rel => exact ⟨q + 1, at_, ts2, .slice a4 ts2.length c4, by omega, hat, HL5.out, by go_num, HG6.out, by have h9 := HX6.out; unfold At at h9 ⊢; simpa using h9, HT6.out, HB6.out, by rw [show n - (q + 1) = m by have := HM.out; omega]; exact HF0⟩
          case measure => simp [intOf]; omega
        · have hm' : mayB 2 k i d r = false := by simpa using hm
          have HF0 : Hid (getTs bs n a = ([], 0, 10)) := HG2.out rfl hm'
          clear HG1 HG2 HG3 HA hm
          go_wp2_with fail
          refine (where2_any k i d r _).mono ?_
          rintro e w3 ⟨rfl, hb3⟩
          have hG3 := hG2.later hb3
          have hB3 := hB2.trans (hb3.mono hB2.size)
          have gc := hG3.cell
          have gm := hG3.melt
          have HF := (hG3.set3 (.slice none 0 0) (.int .i64 0) (.int .i64 10)).cell
          have HB := below_set3 hB3 (Nat.le_refl _) (.slice none 0 0) (.int .i64 0) (.int .i64 10)
          clear HGt hG2 hX2 hT2 hB2 hb3 tc hG3 hB3
          go_wp2
          exact bodyPost_ret (v := .agg #[.slice none 0 0, .int .i64 0, .int .i64 10]) (by simp [results, Try.results44, go_sem, HF]) rfl (by rw [HF0.out]; exact ⟨_, rfl, Ts.nil _, fun k hk => by simp [Value.ownBlock] at hk, HB⟩)
      · have HGt := At.made w2 #[.int .i64 k, .int .i64 i, .int .i64 d, .bool r, .int .i64 (at_ : Int), .int .i64 (er : Int)] 68
        have hba : Below w2.heap.size w2 (w2.alloc (.cells #[.int .i64 k, .int .i64 i, .int .i64 d, .bool r, .int .i64 (at_ : Int), .int .i64 (er : Int)] 68)) := (Below.refl _ _).alloc (Nat.le_refl _) _
        have hb2' : Below wr.heap.size wr (w2.alloc (.cells #[.int .i64 k, .int .i64 i, .int .i64 d, .bool r, .int .i64 (at_ : Int), .int .i64 (er : Int)] 68)) := hb2.trans (hba.mono hb2.size)
        have hG2 := hG.later hb2'
        have hX2 := hX.later hb2'
        have hT2 := hT.later hb2'
        have hB2 := hB.trans (hb2'.mono hB.size)
        clear hba hb2 hb2' hG hX hT hB HC1 xc xm gc gm
        have HF0 : Hid (getTs bs n a = ([], 0, er)) := HG1.out he
        have he2 : ((er : Int) != 0) = true := by rw [bne_iff_ne]; omega
        have tc := HGt.cell
        have gc := hG2.cell
        have gm := hG2.melt
        have HF := (hG2.set3 (.slice none 0 0) (.int .i64 0) (.int .i64 (er : Int))).cell
        have HB := below_set3 hB2 (Nat.le_refl _) (.slice none 0 0) (.int .i64 0) (.int .i64 (er : Int))
        clear he HG1 HG2 HG3 HA hG2 hX2 hT2 hB2 HGt
        go_wp2
        exact bodyPost_ret (v := .agg #[.slice none 0 0, .int .i64 0, .int .i64 (er : Int)]) (by simp [results, Try.results44, go_sem, HF]) rfl (by rw [HF0.out]; exact ⟨_, rfl, Ts.nil _, fun k hk => by simp [Value.ownBlock] at hk, HB⟩)
    · have hqq : q = n := by omega
      subst hqq
      have HF0 : Hid (getTs bs q a = (ts, a', 0)) := by show _ = _; rw [hC.out, Nat.sub_self, cons_end]
      have HF := (hG.set3 (.slice la ts.length lc) (.int .i64 (a' : Int)) (.int .i64 0)).cell
      have HB := below_set3 hB (Nat.le_refl _) (.slice la ts.length lc) (.int .i64 (a' : Int)) (.int .i64 0)
      have HTs : Hid (Ts (((wr.setCell ⟨w.heap.size, 0, none⟩ (.slice la ts.length lc)).setCell ⟨w.heap.size, 1, none⟩ (.int .i64 (a' : Int))).setCell ⟨w.heap.size, 2, none⟩ (.int .i64 0)) (.slice la ts.length lc) ts) :=
        (((hT.setOther (hT.ne hG (by decide))).setOther (hT.ne hG (by decide))).setOther (hT.ne hG (by decide))).ts
      have HOw : Hid (∀ k, (Value.slice la ts.length lc).ownBlock = some k → w.heap.size ≤ k) := fun k hk => (hT.block k hk).1
      clear hG hX hT hB hC
      go_wp2
      exact bodyPost_ret (v := .agg #[.slice la ts.length lc, .int .i64 (a' : Int), .int .i64 0]) (by simp [results, Try.results44, go_sem, HF]) rfl (by rw [HF0.out]; exact ⟨_, rfl, HTs.out, HOw.out, HB⟩)

end Go.Proofs.Ytcjoidhbhffcgaa
