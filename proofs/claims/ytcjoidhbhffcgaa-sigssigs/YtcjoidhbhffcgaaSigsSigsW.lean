
/- SigsSigs: the walk. -/
import Derived.Test.YtcjoidhbhffcgaaSigBack
import Derived.Test.YtcjoidhbhffcgaaRefPutSig5
import Derived.Test.YtcjoidhbhffcgaaRefSame5
import Derived.Test.YtcjoidhbhffcgaaAppendT5
import Derived.Test.YtcjoidhbhffcgaaWakes5
import Derived.Test.YtcjoidhbhffcgaaSame
import Derived.Test.YtcjoidhbhffcgaaOpen5
namespace Go.Proofs.Ytcjoidhbhffcgaa
set_option linter.unusedVariables false
set_option linter.unusedSimpArgs false
open Go.RowKit

theorem sig_len (this : Bool) (ts : List Ty) (ret : Ty) (h : sigE ts ret = 0) : (sigL this ts ret).length ≤ 1000 := by
  have hl : ¬ 6 < ts.length := by intro q; unfold sigE at h; rw [if_pos q] at h; simp at h
  have ha : mayT 3 ret = true ∧ ts.all (mayT 2) = true := by
    unfold sigE at h
    rw [if_neg hl] at h
    by_cases e : mayT 3 ret = true ∧ ts.all (mayT 2) = true
    · exact e
    · rw [if_neg e] at h; simp at h
  have h1 := encs_len ts 2 may2_plain ha.2
  have h2 := enc_len ret (may3_plain ret ha.1)
  unfold sigL
  simp
  omega
theorem OwnT.ne5 {w : World} {base g : Nat} {v : Value} {ts : List Ty} {C : Array Value} {t : TypeId} (ho : OwnT w base v ts) (h : At w g C t) (ht : t ≠ 23) : v.ownBlock ≠ some g := by
  intro e
  obtain ⟨C', hC⟩ := ho.typed g e
  unfold At at h hC
  rw [h] at hC
  simp only [Option.some.injEq, Obj.cells.injEq] at hC
  exact ht hC.2.1

set_option maxHeartbeats 8000000 in
set_option maxRecDepth 100000 in
theorem sigsSigs_walk (v : Value) (s : Bool × List Ty × Ty) (w : World) (hv : Sg w v s) :
    Calls Try.prog 5 #[v] w fun e w' => e = .returned (.bool true) ∧ Below w.heap.size w w' := by
  obtain ⟨th, ts, k, i, d, r⟩ := s
  obtain ⟨pv, rfl, hT⟩ := hv
  simp only at hT ⊢
  have HV : Hid (∀ W, Below w.heap.size w W → Ts W pv ts) := fun W hW => hT.later hW
  obtain ⟨a, c, rfl, hc1, hc2, -⟩ := hT
  unfold maxLen at hc2
  have hb0 : Below w.heap.size w (w.alloc (.cells #[.bool th, .slice a ts.length c, .int .i64 k, .int .i64 i, .int .i64 d, .bool r] 39)) := (Below.refl _ _).alloc (Nat.le_refl _) _
  have hS0 := At.made w #[.bool th, .slice a ts.length c, .int .i64 k, .int .i64 i, .int .i64 d, .bool r] 39
  by_cases hl : 100 < ts.length
  · go_enter Try.func5, Try.ntmps5
    go_wp2_with fail
    refine (wakes5_any _).mono ?_
    rintro e w1 ⟨rfl, hb1⟩
    have HB1 : Hid (Below w.heap.size w w1) := hb0.trans (hb1.mono (by simp))
    have sc := (hS0.later hb1).cell
    clear hb1 hb0 hS0
    go_wp2_with fail
    go_ret
    exact ⟨rfl, HB1.out⟩
  · have HLn : Hid (sigE ts (k, i, d, r) = 0 → (sigL th ts (k, i, d, r)).length ≤ 1000 ∧ sgR (sigL th ts (k, i, d, r)) = ((th, ts, k, i, d, r), 0)) := fun h => ⟨sig_len th ts _ h, sig_enc th ts _ h⟩
    go_enter Try.func5, Try.ntmps5
    go_wp2_with fail
    refine (wakes5_any _).mono ?_
    rintro e w1 ⟨rfl, hb1⟩
    have hB1 : Below w.heap.size w w1 := hb0.trans (hb1.mono (by simp))
    have hS1 := hS0.later hb1
    have hs1 := hB1.size
    have sc1 := hS1.cell
    clear hb1 hb0 hS0
    have hO2 := At.made w1 #[.bool th, .slice a ts.length c, .int .i64 k, .int .i64 i, .int .i64 d, .bool r] 39
    have hb2 : Below w1.heap.size w1 (w1.alloc (.cells #[.bool th, .slice a ts.length c, .int .i64 k, .int .i64 i, .int .i64 d, .bool r] 39)) := (Below.refl _ _).alloc (Nat.le_refl _) _
    have hb3 : Below w1.heap.size w1 ((w1.alloc (.cells #[.bool th, .slice a ts.length c, .int .i64 k, .int .i64 i, .int .i64 d, .bool r] 39)).alloc (.cells #[] 23)) := hb2.alloc (by simp) _
    have hS3 := hS1.later hb3
    have hO3 := hO2.next (.cells #[] 23)
    have HS2 : Hid (Ts ((w1.alloc (.cells #[.bool th, .slice a ts.length c, .int .i64 k, .int .i64 i, .int .i64 d, .bool r] 39)).alloc (.cells #[] 23)) (.slice a ts.length c) ts) := HV.out _ (hB1.trans (hb3.mono hs1))
    have HO2 : Hid (OwnT ((w1.alloc (.cells #[.bool th, .slice a ts.length c, .int .i64 k, .int .i64 i, .int .i64 d, .bool r] 39)).alloc (.cells #[] 23)) w1.heap.size (.slice (some ⟨w1.heap.size + 1, 0, none⟩) 0 0) []) := by
      have := OwnT.empty (w1.alloc (.cells #[.bool th, .slice a ts.length c, .int .i64 k, .int .i64 i, .int .i64 d, .bool r] 39)) w1.heap.size (by simp)
      show OwnT _ _ _ _
      simpa using this
    have sc3 := hS3.cell
    have HNE : Hid (w.heap.size ≠ w1.heap.size) := by show _ ≠ _; have := hS1.lt; omega
    clear hb2 hO2
    go_wp2_with (at_builtin; go_must (refine wpList_append_ts rfl _ _ rfl w1.heap.size rfl rfl HO2.out HS2.out (by simp; omega) (by simp; try omega) ?_))
    intro v4 w4 ho4 hg4
    have hb4 : Below w1.heap.size w1 w4 := hb3.grown hg4 (by simp; try omega) (fun k hk => (HO2.out.block k hk).1)
    have hS4 := hS3.grownT HO2.out (by decide) hg4
    have hO4 := hO3.grownT HO2.out (by decide) hg4
    have ho4' : OwnT w4 w1.heap.size v4 ts := by have h9 := ho4; simpa using h9
    clear ho4 hg4 hb3 hS3 hO3 HO2 HS2 sc3 hS1 sc1
    obtain ⟨a4, c4, rfl, -, -, -⟩ := id ho4'.ts
    have oc4 := hO4.cell
    have om4 := hO4.melt
    have hO5 := hO4.set 1 (.slice a4 ts.length c4)
    have hS5 := hS4.other (g' := w1.heap.size) (o := 1) HNE.out (.slice a4 ts.length c4)
    have hT5 := (ho4'.setOther (o := 1) (u := .slice a4 ts.length c4) (ho4'.ne5 hO4 (by decide))).ts
    have hB5 := (hB1.trans (hb4.mono hs1)).setCell (p := ⟨w1.heap.size, 1, none⟩) hs1 (.slice a4 ts.length c4)
    have oc5 := hO5.cell
    have HQ := putSig_any hT5 th k i d r
    have HS5 : Hid (At (w4.setCell ⟨w1.heap.size, 1, none⟩ (.slice a4 ts.length c4)) w.heap.size #[.bool th, .slice a ts.length c, .int .i64 k, .int .i64 i, .int .i64 d, .bool r] 39) := hS5
    have HB5 : Hid (Below w.heap.size w (w4.setCell ⟨w1.heap.size, 1, none⟩ (.slice a4 ts.length c4))) := hB5
    clear hb4 hS4 ho4' hO4 hO5 hT5 hB5 hS5 hB1 hs1
    go_wp2_with fail
    refine Calls.mono HQ ?_
    clear HQ oc4 om4 oc5
    rintro e w6 ⟨g1, g2, g3⟩
    have hS6 := HS5.out.later g3
    have hB6 := HB5.out.trans (g3.mono HB5.out.size)
    have sc6 := hS6.cell
    have HQ : Calls Try.prog 27 #[.agg #[.bool th, .slice a ts.length c, .int .i64 k, .int .i64 i, .int .i64 d, .bool r]] w6 fun e w' => PutR w6 w' (sigL th ts (k, i, d, r)) (sigE ts (k, i, d, r)) e := refPutSig_any (HV.out w6 hB6) th k i d r
    clear HS5 HB5
    by_cases he : sigE ts (k, i, d, r) = 0
    · obtain ⟨v6, rfl, ho6⟩ := g1 he
      obtain ⟨hln, hrr⟩ := HLn.out he
      have hb6s : Bs w6 v6 (sigL th ts (k, i, d, r)) := ho6.bs
      clear g1 g2 g3 ho6 HLn
      go_wp2_with fail
      refine Calls.mono HQ ?_
      clear HQ sc6
      rintro e w7 ⟨f1, f2, f3⟩
      obtain ⟨v7, rfl, ho7⟩ := f1 he
      have hB7 := hB6.trans (f3.mono hB6.size)
      have hS7 := hS6.later f3
      have HB6s : Hid (Bs w7 v6 (sigL th ts (k, i, d, r))) := hb6s.later f3
      have HQ : Calls Try.prog 13 #[v6, v7] w7 fun e w' => e = .returned (.bool true) ∧ ∃ n, w' = w7.drewN n := by
        have := same_any HB6s.out ho7.bs
        rw [decide_eq_true rfl] at this
        exact this
      clear f1 f2 f3 ho7 hb6s hB6 hS6
      go_wp2_with fail
      refine Calls.mono HQ ?_
      clear HQ
      rintro e w8 ⟨rfl, n8, rfl⟩
      have HQ : Calls Try.prog 20 #[v6] (w7.drewN n8) fun e w' => GotS (w7.drewN n8) w' (th, ts, k, i, d, r) 0 e := by
        have := getSig_any (HB6s.out.drewN n8) (by omega)
        rw [hrr] at this
        exact this
      have hB8 := Below.drewN hB7 n8
      have hS8 := hS7.drewN n8
      clear hB7 hS7 HB6s hln hrr he
      go_wp2_with fail
      refine Calls.mono HQ ?_
      clear HQ
      rintro e w9 ⟨xv, rfl, hx9, -, hb9⟩
      simp only at hx9 ⊢
      obtain ⟨xa, xc, rfl, -, -, -⟩ := id hx9
      have hB9 := hB8.trans (hb9.mono hB8.size)
      have hS9 := hS8.later hb9
      have hX := At.made w9 #[.bool th, .slice xa ts.length xc, .int .i64 k, .int .i64 i, .int .i64 d, .bool r] 39
      have hba : Below w9.heap.size w9 (w9.alloc (.cells #[.bool th, .slice xa ts.length xc, .int .i64 k, .int .i64 i, .int .i64 d, .bool r] 39)) := (Below.refl _ _).alloc (Nat.le_refl _) _
      have hB10 := hB9.trans (hba.mono hB9.size)
      have hS10 := hS9.later hba
      have xcl := hX.cell
      have scl := hS10.cell
      have HQ := same5_yes (hx9.later hba) (HV.out _ hB10) th k i d r
      clear hB8 hS8 hb9 hx9 hB9 hS9 hX hba hS10
      go_wp2_with fail
      refine Calls.mono HQ ?_
      clear HQ xcl scl
      rintro e w11 ⟨rfl, hb11⟩
      have hB11 := hB10.trans (hb11.mono hB10.size)
      clear hb11 hB10
      go_wp2
      go_ret
      exact ⟨rfl, hB11⟩
    · obtain rfl := g2 he
      have he2 : ((sigE ts (k, i, d, r) : Int) != 0) = true := by rw [bne_iff_ne]; omega
      have HHe : Hid (¬ sigE ts (k, i, d, r) = 0) := he
      clear g1 g2 g3 HLn he
      generalize sigE ts (k, i, d, r) = er at *
      go_wp2_with fail
      refine Calls.mono HQ ?_
      clear HQ sc6
      rintro e w7 ⟨f1, f2, f3⟩
      obtain rfl := f2 HHe.out
      have hB7 := hB6.trans (f3.mono hB6.size)
      have HQ : Calls Try.prog 13 #[.slice none 0 0, .slice none 0 0] w7 fun e w' => e = .returned (.bool true) ∧ ∃ n, w' = w7.drewN n := by
        have := same_any (Bs.nil w7) (Bs.nil w7)
        rw [decide_eq_true rfl] at this
        exact this
      clear f1 f2 f3 hB6 hS6
      go_wp2_with fail
      refine Calls.mono HQ ?_
      clear HQ
      rintro e w8 ⟨rfl, n8, rfl⟩
      go_wp2
      go_ret
      exact ⟨rfl, Below.drewN hB7 n8⟩

end Go.Proofs.Ytcjoidhbhffcgaa
