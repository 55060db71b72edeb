
/- readIndex and readType: a type at the reader's place. -/
import Derived.Test.YtcjoidhbhffcgaaCell5
namespace Go.Proofs.Ytcjoidhbhffcgaa
set_option linter.unusedVariables false
set_option linter.unusedSimpArgs false
open Go.RowKit

/-- The number of a class, a value type or a fault; the error. -/
def ixE (k : Int) (u : Nat × Nat × Nat) : Nat :=
  if u.2.2 ≠ 0 then u.2.2 else if k = 7 then (if 7 < u.1 then 5 else 0) else if codedE (u.1 : Int) ≠ 0 ∨ codedT (u.1 : Int) ≠ 0 ∨ 32 < codedR (u.1 : Int) then 5 else 0
def ixV (k : Int) (u : Nat × Nat × Nat) : Int := if ixE k u ≠ 0 then 0 else if k = 7 then (u.1 : Int) else codedR (u.1 : Int) - 1

theorem num_ix (bs : List UInt8) (r : Bool) (j c a : Nat) (hc : c = 17 ∨ c = 18 ∨ c = 19) :
    numR bs r j c a = if ixE (kindI c) (unp bs a) ≠ 0 then badR (ixE (kindI c) (unp bs a)) else ((kindI c, ixV (kindI c) (unp bs a), (j : Int), r), a + (unp bs a).2.1, 0) := by
  unfold numR ixV
  generalize unp bs a = u
  have h7 : kindI 19 = 7 := rfl
  have h6 : kindI 17 = 6 := rfl
  have h5 : kindI 18 = 5 := rfl
  by_cases he : u.2.2 = 0
  · rw [if_neg (by simpa using he)]
    rcases hc with rfl | rfl | rfl
    · simp only [h6]
      have e : ixE 6 u = if codedE (u.1 : Int) ≠ 0 ∨ codedT (u.1 : Int) ≠ 0 ∨ 32 < codedR (u.1 : Int) then 5 else 0 := by simp [ixE, he]
      rw [e]
      by_cases hh : codedE (u.1 : Int) ≠ 0 ∨ codedT (u.1 : Int) ≠ 0 ∨ 32 < codedR (u.1 : Int)
      · rw [if_neg (by omega), if_pos hh, if_pos hh]; simp
      · rw [if_neg (by omega), if_neg hh, if_neg hh]; simp
    · simp only [h5]
      have e : ixE 5 u = if codedE (u.1 : Int) ≠ 0 ∨ codedT (u.1 : Int) ≠ 0 ∨ 32 < codedR (u.1 : Int) then 5 else 0 := by simp [ixE, he]
      rw [e]
      by_cases hh : codedE (u.1 : Int) ≠ 0 ∨ codedT (u.1 : Int) ≠ 0 ∨ 32 < codedR (u.1 : Int)
      · rw [if_neg (by omega), if_pos hh, if_pos hh]; simp
      · rw [if_neg (by omega), if_neg hh, if_neg hh]; simp
    · simp only [h7]
      have e : ixE 7 u = if 7 < u.1 then 5 else 0 := by simp [ixE, he]
      rw [e]
      by_cases hh : 7 < u.1
      · simp [hh]
      · simp [hh]
  · have e : ∀ k, ixE k u = u.2.2 := fun k => by simp [ixE, he]
    rw [if_pos he, e, if_pos he]

theorem tail_bad (bs : List UInt8) (r : Bool) (j c a : Nat) (h : plainB (kindI c) 0 (j : Int) r = false) (hj : j ≤ 3) : tailR bs r j c a = badR 2 := by
  unfold tailR
  by_cases h1 : c = 1
  · rw [if_pos h1]
    by_cases h2 : r = true ∨ 0 < j
    · rw [if_pos h2]
    · exfalso
      have hr : r = false := by cases r <;> simp_all
      have hj0 : j = 0 := by omega
      subst hr hj0 h1
      simp [plainB, kindI] at h
  rw [if_neg h1]
  have key : ∀ k : Int, kindI c = k → (k = 2 ∨ k = 3 ∨ k = 4 ∨ k = 5 ∨ k = 6 ∨ k = 7) → False := by
    intro k e1 e2
    rw [e1] at h
    have : plainB k 0 (j : Int) r = true := by unfold plainB; rw [decide_eq_true_iff]; omega
    rw [this] at h; cases h
  by_cases h2 : c = 8
  · exact absurd (key 2 (by rw [h2]; rfl) (by omega)) id
  rw [if_neg h2]
  by_cases h3 : c = 10
  · exact absurd (key 3 (by rw [h3]; rfl) (by omega)) id
  rw [if_neg h3]
  by_cases h4 : c = 28
  · exact absurd (key 4 (by rw [h4]; rfl) (by omega)) id
  rw [if_neg h4]
  by_cases h5 : c = 17 ∨ c = 18 ∨ c = 19
  · rcases h5 with rfl | rfl | rfl
    · exact absurd (key 6 rfl (by omega)) id
    · exact absurd (key 5 rfl (by omega)) id
    · exact absurd (key 7 rfl (by omega)) id
  · rw [if_neg h5]

theorem tail_bare (bs : List UInt8) (r : Bool) (j c a : Nat) (h : plainB (kindI c) 0 (j : Int) r = true) (h5 : kindI c ≠ 5) (h6 : kindI c ≠ 6) (h7 : kindI c ≠ 7) : tailR bs r j c a = ((kindI c, 0, (j : Int), r), a, 0) := by
  obtain ⟨p1, p2, p3, p4⟩ := plain_facts h
  have c17 : c ≠ 17 := fun e => h6 (by rw [e]; rfl)
  have c18 : c ≠ 18 := fun e => h5 (by rw [e]; rfl)
  have c19 : c ≠ 19 := fun e => h7 (by rw [e]; rfl)
  unfold tailR
  by_cases h1 : c = 1
  · subst h1
    have hk : kindI 1 = 1 := rfl
    rw [hk] at p4 ⊢
    have hr : r = false := by rcases p4 with p | p | p | p <;> first | exact p.2.2.1 | omega
    have hj0 : j = 0 := by omega
    subst hr hj0
    simp
  rw [if_neg h1]
  by_cases h2 : c = 8
  · rw [if_pos h2, h2]; rfl
  rw [if_neg h2]
  by_cases h3 : c = 10
  · rw [if_pos h3, h3]; rfl
  rw [if_neg h3]
  by_cases h4 : c = 28
  · rw [if_pos h4, h4]; rfl
  exfalso
  have : kindI c = 0 := by unfold kindI; rw [if_neg h1, if_neg h2, if_neg h3, if_neg h4, if_neg c18, if_neg c17, if_neg c19]
  omega

theorem tail_num (bs : List UInt8) (r : Bool) (j c a : Nat) (h : kindI c = 5 ∨ kindI c = 6 ∨ kindI c = 7) : tailR bs r j c a = numR bs r j c a ∧ (c = 17 ∨ c = 18 ∨ c = 19) := by
  have hc : c = 17 ∨ c = 18 ∨ c = 19 := by
    unfold kindI at h
    repeat' split at h
    all_goals omega
  refine ⟨?_, hc⟩
  unfold tailR
  rw [if_neg (by omega), if_neg (by omega), if_neg (by omega), if_neg (by omega), if_pos hc]

theorem readIndex_bare (x : Value) (k : Int) (w : World) (h5 : k ≠ 5) (h6 : k ≠ 6) (h7 : k ≠ 7) :
    Calls Try.prog 63 #[x, .int .i64 k] w fun e w' => e = .returned (.tuple #[.int .i64 0, .int .i64 0]) ∧ w' = w := by
  have e5 : (k != 5) = true := by rw [bne_iff_ne]; exact h5
  have e6 : (k != 6) = true := by rw [bne_iff_ne]; exact h6
  have e7 : (k != 7) = true := by rw [bne_iff_ne]; exact h7
  go_enter Try.func63, Try.ntmps63
  go_wp2
  go_ret2
  exact ⟨rfl, rfl⟩

set_option maxHeartbeats 1000000 in
theorem readIndex_any {w : World} {rb : Nat} {bs : List UInt8} {a : Nat} (h : RdAt w rb bs a) (k : Int) (hk : k = 5 ∨ k = 6 ∨ k = 7) :
    Calls Try.prog 63 #[.pointer (some ⟨rb, 0, none⟩), .int .i64 k] w fun e w' =>
      e = .returned (.tuple #[.int .i64 (ixV k (unp bs a)), .int .i64 (ixE k (unp bs a) : Int)]) ∧ RdAt w' rb bs (a + (unp bs a).2.1) ∧ Only rb w w' := by
  have HP : Hid (Calls Try.prog 59 #[.pointer (some ⟨rb, 0, none⟩)] w fun e w' => e = .returned (.tuple #[.int .i64 ((unp bs a).1 : Int), .int .i64 ((unp bs a).2.2 : Int)]) ∧ RdAt w' rb bs (a + (unp bs a).2.1) ∧ Only rb w w') := packed_any h
  clear h
  generalize unp bs a = u at *
  obtain ⟨n, ln, er⟩ := u
  simp only at *
  by_cases he : er = 0
  · subst he
    by_cases h7 : k = 7
    · subst h7
      by_cases hn : 7 < n
      · have e1 : Hid (ixE 7 (n, ln, 0) = 5 ∧ ixV 7 (n, ln, 0) = 0) := by show _ ∧ _; simp [ixE, ixV, hn]
        go_enter Try.func63, Try.ntmps63
        go_wp2_with fail
        refine Calls.mono HP.out ?_
        rintro e w1 ⟨rfl, g1, g2⟩
        go_wp2
        go_ret2
        exact ⟨by rw [e1.out.1, e1.out.2]; rfl, g1, g2⟩
      · have e1 : Hid (ixE 7 (n, ln, 0) = 0 ∧ ixV 7 (n, ln, 0) = n) := by show _ ∧ _; simp [ixE, ixV, hn]
        go_enter Try.func63, Try.ntmps63
        go_wp2_with fail
        refine Calls.mono HP.out ?_
        rintro e w1 ⟨rfl, g1, g2⟩
        go_wp2
        go_ret2
        exact ⟨by rw [e1.out.1, e1.out.2]; rfl, g1, g2⟩
    · have e7 : (k != 7) = true := by rw [bne_iff_ne]; exact h7
      have e7' : (k == 7) = false := by rw [beq_eq_false_iff_ne]; exact h7
      by_cases hh : codedE (n : Int) ≠ 0 ∨ codedT (n : Int) ≠ 0 ∨ 32 < codedR (n : Int)
      · have e1 : Hid (ixE k (n, ln, 0) = 5 ∧ ixV k (n, ln, 0) = 0) := by
          have : ixE k (n, ln, 0) = 5 := by unfold ixE; rw [if_neg (by simp), if_neg h7, if_pos hh]
          exact ⟨this, by unfold ixV; rw [this]; simp⟩
        have hq : Hid (codedE (n : Int) ≠ 0 ∨ codedT (n : Int) ≠ 0 ∨ 32 < codedR (n : Int)) := hh
        clear hh
        rcases hk with hk | hk | hk
        all_goals first | exact absurd hk h7 | skip
        all_goals subst hk
        all_goals
          go_enter Try.func63, Try.ntmps63
          go_wp2_with fail
          refine Calls.mono HP.out ?_
          rintro e w1 ⟨rfl, g1, g2⟩
          go_wp2_with (go_at_call 69; refine (coded_any _ _).mono ?_; rintro e wz ⟨rfl, hz⟩; subst wz)
          all_goals first
            | (go_ret2; exact ⟨by rw [e1.out.1, e1.out.2]; rfl, g1, g2⟩)
            | (exfalso; have := hq.out; simp only [bne_iff_ne, bne_eq_false_iff_eq, ne_eq, Bool.not_eq_true] at *; omega)
      · have e1 : Hid (ixE k (n, ln, 0) = 0 ∧ ixV k (n, ln, 0) = codedR (n : Int) - 1) := by
          have : ixE k (n, ln, 0) = 0 := by unfold ixE; rw [if_neg (by simp), if_neg h7, if_neg hh]
          exact ⟨this, by unfold ixV; rw [this]; simp [h7]⟩
        have q1 : codedE (n : Int) = 0 := by omega
        have q2 : codedT (n : Int) = 0 := by omega
        have q3 : codedR (n : Int) ≤ 32 := by omega
        have q4 : 0 ≤ codedR (n : Int) := by unfold codedR; repeat' split; all_goals omega
        clear hh
        rcases hk with hk | hk | hk
        all_goals first | exact absurd hk h7 | skip
        all_goals subst hk
        all_goals
          go_enter Try.func63, Try.ntmps63
          go_wp2_with fail
          refine Calls.mono HP.out ?_
          rintro e w1 ⟨rfl, g1, g2⟩
          go_wp2_with (go_at_call 69; refine (coded_any _ _).mono ?_; rintro e wz ⟨rfl, hz⟩; subst wz)
          go_ret2
          exact ⟨by rw [e1.out.1, e1.out.2]; rfl, g1, g2⟩
  · have e1 : Hid (ixE k (n, ln, er) = er ∧ ixV k (n, ln, er) = 0) := by
      have : ixE k (n, ln, er) = er := by unfold ixE; rw [if_pos he]
      exact ⟨this, by unfold ixV; rw [this, if_pos he]⟩
    have he2 : ((er : Int) != 0) = true := by rw [bne_iff_ne]; omega
    rcases hk with rfl | rfl | rfl
    all_goals
      go_enter Try.func63, Try.ntmps63
      go_wp2_with fail
      refine Calls.mono HP.out ?_
      rintro e w1 ⟨rfl, g1, g2⟩
      go_wp2
      go_ret2
      exact ⟨by rw [e1.out.1, e1.out.2]; rfl, g1, g2⟩

end Go.Proofs.Ytcjoidhbhffcgaa
