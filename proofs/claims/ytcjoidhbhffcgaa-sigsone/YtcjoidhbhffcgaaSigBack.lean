
/- Signatures and locals: what is put is got, and what is got, put again, is the very bytes. -/
import Derived.Test.YtcjoidhbhffcgaaGetSig5
import Derived.Test.YtcjoidhbhffcgaaPutSig5
import Derived.Test.YtcjoidhbhffcgaaSigMath
namespace Go.Proofs.Ytcjoidhbhffcgaa
set_option linter.unusedVariables false
set_option linter.unusedSimpArgs false
open Go.RowKit

theorem may2_plain (t : Ty) (h : mayT 2 t = true) : plainT t = true := rule_var.plainT t h
theorem may3_plain (t : Ty) (h : mayT 3 t = true) : plainT t = true := rule_answer.plainT t h

theorem getTs_enc (bs : List UInt8) : ∀ (ts : List Ty) (cs : List UInt8) (a : Nat), a ≤ bs.length → ts.all (mayT 2) = true → bs.drop a = encs ts ++ cs → getTs bs ts.length a = (ts, a + (encs ts).length, 0) := by
  intro ts
  induction ts with
  | nil => intro cs a ha hm h; simp [getTs, encs]
  | cons t r ih =>
    intro cs a ha hm h
    simp only [List.all_cons, Bool.and_eq_true] at hm
    rw [encs_cons, List.append_assoc] at h
    have hg := get_enc bs (encs r ++ cs) t a ha (may2_plain t hm.1) h
    have hal : allowR 2 (getT bs a) = (t, a + (encT t).length, 0) := by rw [hg]; simp [allowR, hm.1]
    have hle : a + (encT t).length ≤ bs.length := by
      have := congrArg List.length h
      simp at this
      omega
    have hd : bs.drop (a + (encT t).length) = encs r ++ cs := by
      rw [← List.drop_drop, h, List.drop_left]
    have hr := ih cs (a + (encT t).length) hle hm.2 hd
    simp only [List.length_cons, getTs, hal, hr]
    simp [encs_cons]
    omega

theorem getTs_ok (bs : List UInt8) : ∀ (n a : Nat), a ≤ bs.length → (getTs bs n a).2.2 = 0 →
    (getTs bs n a).1.length = n ∧ (getTs bs n a).1.all (mayT 2) = true ∧ bs.drop a = encs (getTs bs n a).1 ++ bs.drop (getTs bs n a).2.1 ∧ (getTs bs n a).2.1 ≤ bs.length := by
  intro n
  induction n with
  | zero => intro a ha h; simp [getTs, encs]; exact ha
  | succ n ih =>
    intro a ha h
    unfold getTs at h ⊢
    by_cases h1 : (allowR 2 (getT bs a)).2.2 ≠ 0
    · rw [if_pos h1] at h; exact absurd h h1
    · rw [if_neg h1] at h ⊢
      have h1' : (allowR 2 (getT bs a)).2.2 = 0 := by simpa using h1
      have hal : (getT bs a).2.2 = 0 ∧ mayT 2 (getT bs a).1 = true ∧ allowR 2 (getT bs a) = getT bs a := by
        unfold allowR at h1'
        by_cases e1 : (getT bs a).2.2 ≠ 0
        · rw [if_pos e1] at h1'; exact absurd h1' e1
        · rw [if_neg e1] at h1'
          by_cases e2 : mayT 2 (getT bs a).1 = true
          · refine ⟨by simpa using e1, e2, ?_⟩
            unfold allowR; rw [if_neg e1, if_pos e2]
          · rw [if_neg e2] at h1'; simp [badR] at h1'
      obtain ⟨g1, g2, g3⟩ := hal
      rw [g3] at h ⊢
      obtain ⟨k1, k2, k3, k4⟩ := get_ok bs a ha g1
      by_cases h2 : (getTs bs n (getT bs a).2.1).2.2 ≠ 0
      · rw [if_pos h2] at h; exact absurd h h2
      · rw [if_neg h2]
        obtain ⟨m1, m2, m3, m4⟩ := ih (getT bs a).2.1 k4 (by simpa using h2)
        refine ⟨by simp [m1], by simp [g2, m2], ?_, m4⟩
        simp only [encs_cons]
        rw [k2, m3]
        simp

theorem pk_small (n : Nat) (h : n ≤ 127) : pkL n = [UInt8.ofNat n] := by unfold pkL; rw [if_pos h]

/-- How many: there and back. -/
theorem cnt_enc (bs rest : List UInt8) (hd : UInt8) (n most : Nat) (hb : bs = hd :: UInt8.ofNat n :: rest) (hn : n ≤ most) (hm : most ≤ 100) : unp bs 1 = (n, 1, 0) ∧ cntE most (unp bs 1) = 0 ∧ cntV most (unp bs 1) = n := by
  have hu : unp bs 1 = (n, 1, 0) := by
    have := unp_of_drop bs 1 n rest (by omega) (by rw [hb]; simp) (by rw [pk_small n (by omega), hb]; rfl)
    rw [this, pk_small n (by omega)]; rfl
  have he : cntE most (unp bs 1) = 0 := by rw [hu]; unfold cntE; rw [if_neg (by simp), if_neg (by simp; omega)]
  exact ⟨hu, he, by unfold cntV; rw [if_pos he, hu]⟩
theorem cnt_ok (bs : List UInt8) (most : Nat) (hm : most ≤ 100) (h : cntE most (unp bs 1) = 0) : cntV most (unp bs 1) ≤ most ∧ (unp bs 1).2.1 = 1 ∧ 2 ≤ bs.length ∧ bs.drop 1 = UInt8.ofNat (cntV most (unp bs 1)) :: bs.drop 2 := by
  have hle := cnt_le most (unp bs 1)
  have hv : cntV most (unp bs 1) = (unp bs 1).1 := by unfold cntV; rw [if_pos h]
  have he : (unp bs 1).2.2 = 0 := by
    unfold cntE at h
    by_cases e : (unp bs 1).2.2 ≠ 0
    · rw [if_pos e] at h; exact absurd h e
    · simpa using e
  obtain ⟨g1, g2, g3, g4⟩ := unp_ok bs 1 he
  rw [hv] at hle ⊢
  rw [pk_small _ (by omega)] at g3
  have hl := congrArg List.length g3
  rw [seg_length bs 1 _ g1] at hl
  have h1 : (unp bs 1).2.1 = 1 := by simpa using hl.symm
  refine ⟨hle, h1, by omega, ?_⟩
  have := seg_drop bs 1 (unp bs 1).2.1
  rw [← g3, h1] at this
  simpa using this

theorem hd_ok (xs bs : List UInt8) (h : hdE xs bs 0 = 0) : 0 < bs.length ∧ inB xs (byV bs 0) = true := by
  unfold hdE at h
  by_cases h1 : 0 < bs.length
  · rw [if_pos h1] at h
    by_cases h2 : inB xs (byV bs 0) = true
    · exact ⟨h1, h2⟩
    · rw [if_neg h2] at h; simp at h
  · rw [if_neg h1] at h; simp at h
theorem head_cons (bs : List UInt8) (h : 0 < bs.length) : bs = UInt8.ofNat (byV bs 0) :: bs.drop 1 := by
  have := List.drop_eq_getElem_cons h
  rw [(by_yes h).1]
  simpa using this

/-- Locals: what is put is got. -/
theorem loc_enc (ts : List Ty) (h : locE ts = 0) : locR (locL ts) = (ts, 0) := by
  have hl : ¬ 12 < ts.length := by intro q; unfold locE at h; rw [if_pos q] at h; simp at h
  have ha : ts.all (mayT 2) = true := by
    unfold locE at h
    rw [if_neg hl] at h
    by_cases e : ts.all (mayT 2) = true
    · exact e
    · rw [if_neg e] at h; simp at h
  obtain ⟨c1, c2, c3⟩ := cnt_enc (locL ts) (encs ts) 7 ts.length 12 rfl (by omega) (by omega)
  have hh : hdE [7] (locL ts) 0 = 0 := by simp [hdE, locL, inB, byV]
  have hg := getTs_enc (locL ts) ts [] 2 (by simp [locL]) ha (by simp [locL])
  unfold locR
  rw [if_neg (by simpa using hh), if_neg (by simpa using c2), c3, c1]
  show lastTs (locL ts) (getTs (locL ts) ts.length 2) = _
  rw [hg]
  simp only [lastTs]
  rw [if_neg (by simp), if_neg (by simp [locL]; omega)]

/-- Locals: what is got, put again, is the very bytes. -/
theorem loc_ok (bs : List UInt8) (h : (locR bs).2 = 0) : locE (locR bs).1 = 0 ∧ locL (locR bs).1 = bs := by
  unfold locR at h ⊢
  by_cases h1 : hdE [7] bs 0 ≠ 0
  · rw [if_pos h1] at h; exact absurd h h1
  rw [if_neg h1] at h ⊢
  by_cases h2 : cntE 12 (unp bs 1) ≠ 0
  · rw [if_pos h2] at h; exact absurd h h2
  rw [if_neg h2] at h ⊢
  obtain ⟨p1, p2⟩ := hd_ok [7] bs (by simpa using h1)
  obtain ⟨c1, c2, c3, c4⟩ := cnt_ok bs 12 (by omega) (by simpa using h2)
  have h7 : UInt8.ofNat (byV bs 0) = 7 := by
    obtain ⟨x, hx, hxc⟩ := (in_iff [7] (byV bs 0)).1 p2
    simp at hx; subst hx; rw [← hxc]; rfl
  have hc := head_cons bs p1
  rw [h7, c4] at hc
  rw [c2] at h ⊢
  unfold lastTs at h ⊢
  by_cases h3 : (getTs bs (cntV 12 (unp bs 1)) (1 + 1)).2.2 ≠ 0
  · rw [if_pos h3] at h; exact absurd h h3
  rw [if_neg h3] at h ⊢
  by_cases h4 : (getTs bs (cntV 12 (unp bs 1)) (1 + 1)).2.1 < bs.length
  · rw [if_pos h4] at h; simp at h
  rw [if_neg h4]
  obtain ⟨g1, g2, g3, g4⟩ := getTs_ok bs (cntV 12 (unp bs 1)) (1 + 1) (by omega) (by simpa using h3)
  refine ⟨?_, ?_⟩
  · unfold locE; rw [if_neg (by rw [g1]; omega), if_pos g2]
  · unfold locL
    rw [g1]
    rw [List.drop_of_length_le (show bs.length ≤ (getTs bs (cntV 12 (unp bs 1)) (1 + 1)).2.1 by omega), List.append_nil] at g3
    conv => rhs; rw [hc]
    rw [← g3]

/-- Signatures: what is put is got. -/
theorem sig_enc (this : Bool) (ts : List Ty) (ret : Ty) (h : sigE ts ret = 0) : sgR (sigL this ts ret) = ((this, ts, ret), 0) := by
  have hl : ¬ 6 < ts.length := by intro q; unfold sigE at h; rw [if_pos q] at h; simp at h
  have ha : mayT 3 ret = true ∧ ts.all (mayT 2) = true := by
    unfold sigE at h
    rw [if_neg hl] at h
    by_cases e : mayT 3 ret = true ∧ ts.all (mayT 2) = true
    · exact e
    · rw [if_neg e] at h; simp at h
  obtain ⟨c1, c2, c3⟩ := cnt_enc (sigL this ts ret) (encT ret ++ encs ts) _ ts.length 6 rfl (by omega) (by omega)
  have hbv : byV (sigL this ts ret) 0 = hdN this := by cases this <;> simp [byV, sigL, hdN]
  have hh : hdE [0, 32] (sigL this ts ret) 0 = 0 := by
    unfold hdE
    rw [if_pos (by simp [sigL]), hbv]
    cases this <;> simp [hdN, inB]
  have hg := get_enc (sigL this ts ret) (encs ts) ret 2 (by simp [sigL]) (may3_plain ret ha.1) (by simp [sigL])
  have hal : allowR 3 (getT (sigL this ts ret) 2) = (ret, 2 + (encT ret).length, 0) := by rw [hg]; simp [allowR, ha.1]
  have hd : (sigL this ts ret).drop (2 + (encT ret).length) = encs ts ++ [] := by
    rw [← List.drop_drop]
    simp [sigL]
  have ht := getTs_enc (sigL this ts ret) ts [] (2 + (encT ret).length) (by simp [sigL]; omega) ha.2 hd
  unfold sgR
  rw [if_neg (by simpa using hh), if_neg (by simpa using c2), c3, c1, hbv]
  show sgX _ _ (allowR 3 (getT (sigL this ts ret) 2)) _ = _
  rw [hal]
  unfold sgX
  simp only [ne_eq, not_true_eq_false, if_false, ht]
  have hls : lastTs (sigL this ts ret) (ts, 2 + (encT ret).length + (encs ts).length, 0) = (ts, 0) := by
    unfold lastTs
    rw [if_neg (by simp), if_neg (by simp [sigL]; omega)]
  rw [hls]
  cases this <;> simp [hdN]

/-- Signatures: what is got, put again, is the very bytes. -/
theorem sig_ok (bs : List UInt8) (h : (sgR bs).2 = 0) : sigE (sgR bs).1.2.1 (sgR bs).1.2.2 = 0 ∧ sigL (sgR bs).1.1 (sgR bs).1.2.1 (sgR bs).1.2.2 = bs := by
  unfold sgR at h ⊢
  by_cases h1 : hdE [0, 32] bs 0 ≠ 0
  · rw [if_pos h1] at h; exact absurd h h1
  rw [if_neg h1] at h ⊢
  by_cases h2 : cntE 6 (unp bs 1) ≠ 0
  · rw [if_pos h2] at h; exact absurd h h2
  rw [if_neg h2] at h ⊢
  obtain ⟨p1, p2⟩ := hd_ok [0, 32] bs (by simpa using h1)
  obtain ⟨c1, c2, c3, c4⟩ := cnt_ok bs 6 (by omega) (by simpa using h2)
  have hbv : byV bs 0 = 0 ∨ byV bs 0 = 32 := by
    obtain ⟨x, hx, hxc⟩ := (in_iff [0, 32] (byV bs 0)).1 p2
    simp at hx
    rcases hx with rfl | rfl
    · left; rw [← hxc]; rfl
    · right; rw [← hxc]; rfl
  have hc := head_cons bs p1
  rw [c4] at hc
  rw [c2] at h ⊢
  unfold sgX at h ⊢
  by_cases h3 : (allowR 3 (getT bs (1 + 1))).2.2 ≠ 0
  · rw [if_pos h3] at h; exact absurd h h3
  rw [if_neg h3] at h ⊢
  have h3' : (allowR 3 (getT bs (1 + 1))).2.2 = 0 := by simpa using h3
  have hal : (getT bs (1 + 1)).2.2 = 0 ∧ mayT 3 (getT bs (1 + 1)).1 = true ∧ allowR 3 (getT bs (1 + 1)) = getT bs (1 + 1) := by
    unfold allowR at h3'
    by_cases e1 : (getT bs (1 + 1)).2.2 ≠ 0
    · rw [if_pos e1] at h3'; exact absurd h3' e1
    · rw [if_neg e1] at h3'
      by_cases e2 : mayT 3 (getT bs (1 + 1)).1 = true
      · refine ⟨by simpa using e1, e2, ?_⟩
        unfold allowR; rw [if_neg e1, if_pos e2]
      · rw [if_neg e2] at h3'; simp [badR] at h3'
  obtain ⟨g1, g2, g3⟩ := hal
  rw [g3] at h ⊢
  obtain ⟨k1, k2, k3, k4⟩ := get_ok bs (1 + 1) (by omega) g1
  generalize getT bs (1 + 1) = g at *
  by_cases h4 : (lastTs bs (getTs bs (cntV 6 (unp bs 1)) g.2.1)).2 ≠ 0
  · rw [if_pos h4] at h; exact absurd h h4
  rw [if_neg h4]
  have h4' : (lastTs bs (getTs bs (cntV 6 (unp bs 1)) g.2.1)).2 = 0 := by simpa using h4
  have hls : (getTs bs (cntV 6 (unp bs 1)) g.2.1).2.2 = 0 ∧ ¬ (getTs bs (cntV 6 (unp bs 1)) g.2.1).2.1 < bs.length ∧ lastTs bs (getTs bs (cntV 6 (unp bs 1)) g.2.1) = ((getTs bs (cntV 6 (unp bs 1)) g.2.1).1, 0) := by
    unfold lastTs at h4'
    by_cases e1 : (getTs bs (cntV 6 (unp bs 1)) g.2.1).2.2 ≠ 0
    · rw [if_pos e1] at h4'; exact absurd h4' e1
    · rw [if_neg e1] at h4'
      by_cases e2 : (getTs bs (cntV 6 (unp bs 1)) g.2.1).2.1 < bs.length
      · rw [if_pos e2] at h4'; simp at h4'
      · refine ⟨by simpa using e1, e2, ?_⟩
        unfold lastTs; rw [if_neg e1, if_neg e2]
  obtain ⟨l1, l2, l3⟩ := hls
  rw [l3]
  obtain ⟨m1, m2, m3, m4⟩ := getTs_ok bs (cntV 6 (unp bs 1)) g.2.1 k4 l1
  rw [List.drop_of_length_le (show bs.length ≤ (getTs bs (cntV 6 (unp bs 1)) g.2.1).2.1 by omega), List.append_nil] at m3
  refine ⟨?_, ?_⟩
  · unfold sigE; rw [if_neg (by simp only; rw [m1]; omega), if_pos ⟨g2, m2⟩]
  · unfold sigL
    simp only
    rw [m1, ← m3, ← k2]
    have hhd : UInt8.ofNat (hdN (byV bs 0 == 32)) = UInt8.ofNat (byV bs 0) := by
      rcases hbv with e | e <;> rw [e] <;> rfl
    rw [hhd]
    exact hc.symm

/-- A type: what is got, put again, is the very bytes. -/
theorem type_ok (bs : List UInt8) (h : whE bs = 0) : plainT (whT bs) = true ∧ encT (whT bs) = bs := by
  unfold whE at h
  unfold whT
  by_cases h1 : (getT bs 0).2.2 = 0 ∧ (getT bs 0).2.1 < bs.length
  · rw [if_pos h1] at h; simp at h
  · rw [if_neg h1] at h ⊢
    obtain ⟨k1, k2, k3, k4⟩ := get_ok bs 0 (Nat.zero_le _) h
    refine ⟨k1, ?_⟩
    have hle : bs.length ≤ (getT bs 0).2.1 := by
      rcases Nat.lt_or_ge (getT bs 0).2.1 bs.length with q | q
      · exact absurd ⟨h, q⟩ h1
      · exact q
    rw [List.drop_of_length_le hle, List.append_nil, List.drop_zero] at k2
    exact k2.symm

end Go.Proofs.Ytcjoidhbhffcgaa
