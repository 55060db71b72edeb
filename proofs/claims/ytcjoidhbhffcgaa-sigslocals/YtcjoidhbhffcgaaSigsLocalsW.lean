
/- SigsLocals: the walk. -/
import Derived.Test.YtcjoidhbhffcgaaSigBack
import Derived.Test.YtcjoidhbhffcgaaRefPuts5
import Derived.Test.YtcjoidhbhffcgaaRefSame5
import Derived.Test.YtcjoidhbhffcgaaAppendT5
import Derived.Test.YtcjoidhbhffcgaaWakes5
import Derived.Test.YtcjoidhbhffcgaaSame
import Derived.Test.YtcjoidhbhffcgaaOpen5
namespace Go.Proofs.Ytcjoidhbhffcgaa
set_option linter.unusedVariables false
set_option linter.unusedSimpArgs false
open Go.RowKit

theorem loc_len (ts : List Ty) (h : locE ts = 0) : (locL ts).length ≤ 1000 := by
  have hl : ¬ 12 < ts.length := by intro q; unfold locE at h; rw [if_pos q] at h; simp at h
  have ha : ts.all (mayT 2) = true := by
    unfold locE at h
    rw [if_neg hl] at h
    by_cases e : ts.all (mayT 2) = true
    · exact e
    · rw [if_neg e] at h; simp at h
  have := encs_len ts 2 may2_plain ha
  unfold locL
  simp
  omega

set_option maxHeartbeats 4000000 in
set_option maxRecDepth 100000 in
theorem sigsLocals_walk (v : Value) (ts : List Ty) (w : World) (hv : Ts w v ts) :
    Calls Try.prog 6 #[v] w fun e w' => e = .returned (.bool true) ∧ Below w.heap.size w w' := by
  have HV : Hid (∀ W, Below w.heap.size w W → Ts W v ts) := fun W hW => hv.later hW
  obtain ⟨a, c, rfl, hc1, hc2, -⟩ := hv
  unfold maxLen at hc2
  by_cases hl : 100 < ts.length
  · go_enter Try.func6, Try.ntmps6
    go_wp2_with fail
    refine (wakes5_any w).mono ?_
    rintro e w1 ⟨rfl, hb1⟩
    have HB1 : Hid (Below w.heap.size w w1) := hb1
    clear hb1
    go_wp2_with fail
    go_ret
    exact ⟨rfl, HB1.out⟩
  · have HLn : Hid (locE ts = 0 → (locL ts).length ≤ 1000 ∧ locR (locL ts) = (ts, 0)) := fun h => ⟨loc_len ts h, loc_enc ts h⟩
    go_enter Try.func6, Try.ntmps6
    go_wp2_with fail
    refine (wakes5_any w).mono ?_
    rintro e w1 ⟨rfl, hb1⟩
    have hs1 := hb1.size
    have hb2 : Below w1.heap.size w1 (w1.alloc (Obj.cells #[] 23)) := (Below.refl _ _).alloc (Nat.le_refl _) _
    have HS2 : Hid (Ts (w1.alloc (Obj.cells #[] 23)) (.slice a ts.length c) ts) := HV.out _ (hb1.trans (hb2.mono hs1))
    have HO2 : Hid (OwnT (w1.alloc (Obj.cells #[] 23)) w1.heap.size (.slice (some ⟨w1.heap.size, 0, none⟩) 0 0) []) := OwnT.empty w1 w1.heap.size (Nat.le_refl _)
    have HB1 : Hid (Below w.heap.size w w1) := hb1
    clear hb1 hb2
    go_wp2_with (at_builtin; go_must (refine wpList_append_ts rfl _ _ rfl w1.heap.size rfl rfl HO2.out HS2.out (by simp; omega) (by simp) ?_))
    intro v3 w3 ho3 hg3
    have hb3 : Below w1.heap.size w1 w3 := ((Below.refl _ _).alloc (Nat.le_refl _) _).grown hg3 (by simp) (fun k hk => (HO2.out.block k hk).1)
    have hB3 := HB1.out.trans (hb3.mono hs1)
    have hT3 : Ts w3 v3 ts := by have h9 := ho3.ts; simpa using h9
    have HQ := putLocals_any hT3
    clear ho3 hg3 hb3 hs1 HO2 HS2 HB1 hT3
    go_wp2_with fail
    refine Calls.mono HQ ?_
    clear HQ
    rintro e w4 ⟨g1, g2, g3⟩
    have hB4 := hB3.trans (g3.mono hB3.size)
    have HQ : Calls Try.prog 29 #[.slice a ts.length c] w4 fun e w' => PutR w4 w' (locL ts) (locE ts) e := refPutLocals_any (HV.out w4 hB4)
    by_cases he : locE ts = 0
    · obtain ⟨v4, rfl, ho4⟩ := g1 he
      obtain ⟨hln, hrr⟩ := HLn.out he
      have hb4s : Bs w4 v4 (locL ts) := ho4.bs
      clear g1 g2 g3 ho4 hB3 HLn
      go_wp2_with fail
      refine Calls.mono HQ ?_
      clear HQ
      rintro e w5 ⟨f1, f2, f3⟩
      obtain ⟨v5, rfl, ho5⟩ := f1 he
      have hB5 := hB4.trans (f3.mono hB4.size)
      have HB4s : Hid (Bs w5 v4 (locL ts)) := hb4s.later f3
      have HQ : Calls Try.prog 13 #[v4, v5] w5 fun e w' => e = .returned (.bool true) ∧ ∃ n, w' = w5.drewN n := by
        have := same_any HB4s.out ho5.bs
        rw [decide_eq_true rfl] at this
        exact this
      clear f1 f2 f3 ho5 hb4s hB4
      go_wp2_with fail
      refine Calls.mono HQ ?_
      clear HQ
      rintro e w6 ⟨rfl, n6, rfl⟩
      have HQ : Calls Try.prog 23 #[v4] (w5.drewN n6) fun e w' => GotLs (w5.drewN n6) w' ts 0 e := by
        have := getLocals_any (HB4s.out.drewN n6) (by omega)
        rw [hrr] at this
        exact this
      have hB6 := Below.drewN hB5 n6
      clear hB5 HB4s hln hrr he
      go_wp2_with fail
      refine Calls.mono HQ ?_
      clear HQ
      rintro e w7 ⟨lv, rfl, hl7, -, hb7⟩
      have hB7 := hB6.trans (hb7.mono hB6.size)
      have HQ := sameTypes_yes hl7 (HV.out w7 hB7)
      clear hB6 hb7 hl7
      go_wp2_with fail
      refine Calls.mono HQ ?_
      clear HQ
      rintro e w8 ⟨rfl, n8, rfl⟩
      go_wp2
      go_ret
      exact ⟨rfl, Below.drewN hB7 n8⟩
    · obtain rfl := g2 he
      have he2 : ((locE ts : Int) != 0) = true := by rw [bne_iff_ne]; omega
      have HHe : Hid (¬ locE ts = 0) := he
      clear g1 g2 g3 hB3 HLn he
      generalize locE ts = er at *
      go_wp2_with fail
      refine Calls.mono HQ ?_
      clear HQ
      rintro e w5 ⟨f1, f2, f3⟩
      obtain rfl := f2 HHe.out
      have hB5 := hB4.trans (f3.mono hB4.size)
      have HQ : Calls Try.prog 13 #[.slice none 0 0, .slice none 0 0] w5 fun e w' => e = .returned (.bool true) ∧ ∃ n, w' = w5.drewN n := by
        have := same_any (Bs.nil w5) (Bs.nil w5)
        rw [decide_eq_true rfl] at this
        exact this
      clear f1 f2 f3 hB4
      go_wp2_with fail
      refine Calls.mono HQ ?_
      clear HQ
      rintro e w6 ⟨rfl, n6, rfl⟩
      go_wp2
      go_ret
      exact ⟨rfl, Below.drewN hB5 n6⟩

end Go.Proofs.Ytcjoidhbhffcgaa
