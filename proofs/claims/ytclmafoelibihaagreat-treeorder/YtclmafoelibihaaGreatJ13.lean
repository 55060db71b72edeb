/- Texts joined: SigSpec, Rule5, Cell5. -/
import Derived.Test.YtclmafoelibihaaGreatJ12
import Derived.Test.YtclmafoelibihaaGreatJ01
import Derived.Test.YtclmafoelibihaaGreatJ09
import Derived.Test.YtclmafoelibihaaGreatJ08
/- Layer 5 by definition: types, signatures and locals as bytes, and what bytes tell. -/
namespace Go.Proofs.YtclmafoelibihaaGreat
set_option linter.unusedVariables false
set_option linter.unusedSimpArgs false
open Go.RowKit


/-- The byte of a kind. -/
def markU (k : Int) : UInt8 := if k = 1 then 1 else if k = 2 then 8 else if k = 3 then 10 else if k = 4 then 28 else if k = 5 then 18 else if k = 6 then 17 else if k = 7 then 19 else 0
/-- The bytes of a number. -/
def numL (k i : Int) : List UInt8 := if k = 5 ∨ k = 6 then pkL (4 * (i.toNat + 1)) else if k = 7 then pkL i.toNat else []
def headL (r : Bool) : List UInt8 := if r then [16] else []
/-- A type's bytes. -/
def encB (k i d : Int) (r : Bool) : List UInt8 := headL r ++ (List.replicate d.toNat 29 ++ (markU k :: numL k i))
def encT (t : Ty) : List UInt8 := encB t.1 t.2.1 t.2.2.1 t.2.2.2

/-- Nothing, and an error. -/
def badR (e : Nat) : Ty × Nat × Nat := ((0, 0, 0, false), 0, e)
def numR (bs : List UInt8) (r : Bool) (j c a : Nat) : Ty × Nat × Nat :=
  if (unp bs a).2.2 ≠ 0 then badR (unp bs a).2.2
  else if c = 19 then (if 7 < (unp bs a).1 then badR 5 else ((7, ((unp bs a).1 : Int), (j : Int), r), a + (unp bs a).2.1, 0))
  else if codedE ((unp bs a).1 : Int) ≠ 0 ∨ codedT ((unp bs a).1 : Int) ≠ 0 ∨ 32 < codedR ((unp bs a).1 : Int) then badR 5
  else ((if c = 17 then 6 else 5, codedR ((unp bs a).1 : Int) - 1, (j : Int), r), a + (unp bs a).2.1, 0)
/-- What is told by a byte that is no mark, and what is behind it. -/
def tailR (bs : List UInt8) (r : Bool) (j c a : Nat) : Ty × Nat × Nat :=
  if c = 1 then (if r = true ∨ 0 < j then badR 2 else ((1, 0, 0, false), a, 0))
  else if c = 8 then ((2, 0, (j : Int), r), a, 0)
  else if c = 10 then ((3, 0, (j : Int), r), a, 0)
  else if c = 28 then ((4, 0, (j : Int), r), a, 0)
  else if c = 17 ∨ c = 18 ∨ c = 19 then numR bs r j c a
  else badR 2
/-- With so many dimensions left. -/
def getD (bs : List UInt8) (r : Bool) : Nat → Nat → Ty × Nat × Nat
  | 0, a => if h : a < bs.length then (if bs[a].toNat = 29 then badR 6 else tailR bs r 3 bs[a].toNat (a + 1)) else badR 1
  | n + 1, a => if h : a < bs.length then (if bs[a].toNat = 29 then getD bs r n (a + 1) else tailR bs r (2 - n) bs[a].toNat (a + 1)) else badR 1
/-- The type at a place, the place behind it, the error. -/
def getT (bs : List UInt8) (a : Nat) : Ty × Nat × Nat :=
  if h : a < bs.length then (if bs[a].toNat = 16 then getD bs true 3 (a + 1) else getD bs false 3 a) else badR 1

theorem seg_drop (bs : List UInt8) (a n : Nat) : bs.drop a = seg bs a n ++ bs.drop (a + n) := by
  unfold seg
  rw [← List.drop_drop, List.take_append_drop]

theorem unp_of_drop (bs : List UInt8) (a n : Nat) (cs : List UInt8) (hn : n ≤ 536870911) (ha : a ≤ bs.length) (h : bs.drop a = pkL n ++ cs) : unp bs a = (n, (pkL n).length, 0) := by
  rw [unp_drop bs a ha, h]
  exact unp_pk n hn [] cs

theorem num_ok (bs : List UInt8) (r : Bool) (j c a : Nat) (ha : a ≤ bs.length) (hj : j ≤ 3) (hc : c = 17 ∨ c = 18 ∨ c = 19) (h : (numR bs r j c a).2.2 = 0) :
    plainT (numR bs r j c a).1 = true ∧ (numR bs r j c a).1.2.2.1 = (j : Int) ∧ (numR bs r j c a).1.2.2.2 = r ∧ (markU (numR bs r j c a).1.1).toNat = c ∧
      bs.drop a = numL (numR bs r j c a).1.1 (numR bs r j c a).1.2.1 ++ bs.drop (numR bs r j c a).2.1 ∧ (numR bs r j c a).2.1 = a + (numL (numR bs r j c a).1.1 (numR bs r j c a).1.2.1).length ∧ (numR bs r j c a).2.1 ≤ bs.length := by
  by_cases he : (unp bs a).2.2 = 0
  · obtain ⟨g1, g2, g3, g4⟩ := unp_ok bs a he
    have g5 := seg_drop bs a (unp bs a).2.1
    have g6 : (pkL (unp bs a).1).length = (unp bs a).2.1 := by rw [g3]; exact seg_length bs a _ g1
    rw [← g3] at g5
    unfold numR at h ⊢
    generalize unp bs a = u at *
    rw [if_neg (by simpa using he)] at h ⊢
    by_cases h19 : c = 19
    · rw [if_pos h19] at h ⊢
      by_cases h7 : 7 < u.1
      · rw [if_pos h7] at h; simp [badR] at h
      · rw [if_neg h7]
        refine ⟨by simp [plainT, plainB]; omega, rfl, rfl, by simp [markU, h19], by simpa [numL] using g5, by simp [numL, g6], g1⟩
    · rw [if_neg h19] at h ⊢
      by_cases h7 : codedE (u.1 : Int) ≠ 0 ∨ codedT (u.1 : Int) ≠ 0 ∨ 32 < codedR (u.1 : Int)
      · rw [if_pos h7] at h; simp [badR] at h
      · rw [if_neg h7]
        have q1 : codedE (u.1 : Int) = 0 := by omega
        have q2 : codedT (u.1 : Int) = 0 := by omega
        have q3 : codedR (u.1 : Int) ≤ 32 := by omega
        clear h7 h
        have q4 : codedR (u.1 : Int) = (u.1 : Int) / 4 ∧ u.1 % 4 = 0 ∧ 4 ≤ u.1 := by
          unfold codedE at q1; unfold codedT at q2; unfold codedR
          by_cases z0 : (u.1 : Int) = 0
          · rw [if_pos z0] at q2; omega
          · rw [if_neg z0] at q1 q2 ⊢
            by_cases z1 : (u.1 : Int) < 4 ∨ 65535 < (u.1 : Int) ∨ (u.1 : Int) % 2 = 1
            · rw [if_pos z1] at q1; omega
            · rw [if_neg z1] at q2 ⊢
              by_cases z2 : (u.1 : Int) % 4 = 2
              · rw [if_pos z2] at q2; omega
              · exact ⟨rfl, by omega, by omega⟩
        obtain ⟨q5, q6, q7⟩ := q4
        have q8 : 4 * ((codedR (u.1 : Int) - 1).toNat + 1) = u.1 := by omega
        rcases hc with hc | hc | hc
        · rw [if_pos hc]
          refine ⟨by simp [plainT, plainB]; omega, rfl, rfl, by simp [markU, hc], by simp only [numL, or_true, if_true, q8]; exact g5, by simp only [numL, or_true, if_true, q8, g6], g1⟩
        · rw [if_neg (by omega)]
          refine ⟨by simp [plainT, plainB]; omega, rfl, rfl, by simp [markU, hc], by simp only [numL, true_or, if_true, q8]; exact g5, by simp only [numL, true_or, if_true, q8, g6], g1⟩
        · exact absurd hc h19
  · unfold numR at h
    rw [if_pos he] at h
    exact absurd h he

theorem tail_ok (bs : List UInt8) (r : Bool) (j c a : Nat) (ha : a ≤ bs.length) (hj : j ≤ 3) (h : (tailR bs r j c a).2.2 = 0) :
    plainT (tailR bs r j c a).1 = true ∧ (tailR bs r j c a).1.2.2.1 = (j : Int) ∧ (tailR bs r j c a).1.2.2.2 = r ∧ (markU (tailR bs r j c a).1.1).toNat = c ∧
      bs.drop a = numL (tailR bs r j c a).1.1 (tailR bs r j c a).1.2.1 ++ bs.drop (tailR bs r j c a).2.1 ∧ (tailR bs r j c a).2.1 = a + (numL (tailR bs r j c a).1.1 (tailR bs r j c a).1.2.1).length ∧ (tailR bs r j c a).2.1 ≤ bs.length := by
  unfold tailR at h ⊢
  by_cases h1 : c = 1
  · rw [if_pos h1] at h ⊢
    by_cases h2 : r = true ∨ 0 < j
    · rw [if_pos h2] at h; simp [badR] at h
    · rw [if_neg h2]
      have hr : r = false := by cases r <;> simp_all
      have hj0 : j = 0 := by omega
      subst hr hj0
      exact ⟨by simp [plainT, plainB], rfl, rfl, by simp [markU, h1], by simp [numL], by simp [numL], ha⟩
  rw [if_neg h1] at h ⊢
  by_cases h2 : c = 8
  · rw [if_pos h2]; exact ⟨by simp [plainT, plainB]; omega, rfl, rfl, by simp [markU, h2], by simp [numL], by simp [numL], ha⟩
  rw [if_neg h2] at h ⊢
  by_cases h3 : c = 10
  · rw [if_pos h3]; exact ⟨by simp [plainT, plainB]; omega, rfl, rfl, by simp [markU, h3], by simp [numL], by simp [numL], ha⟩
  rw [if_neg h3] at h ⊢
  by_cases h4 : c = 28
  · rw [if_pos h4]; exact ⟨by simp [plainT, plainB]; omega, rfl, rfl, by simp [markU, h4], by simp [numL], by simp [numL], ha⟩
  rw [if_neg h4] at h ⊢
  by_cases h5 : c = 17 ∨ c = 18 ∨ c = 19
  · rw [if_pos h5] at h ⊢
    exact num_ok bs r j c a ha hj h5 h
  · rw [if_neg h5] at h; simp [badR] at h

theorem getD_ok (bs : List UInt8) (r : Bool) : ∀ (n a : Nat), n ≤ 3 → a ≤ bs.length → (getD bs r n a).2.2 = 0 →
    plainT (getD bs r n a).1 = true ∧ (getD bs r n a).1.2.2.2 = r ∧ 3 - (n : Int) ≤ (getD bs r n a).1.2.2.1 ∧
      bs.drop a = List.replicate ((getD bs r n a).1.2.2.1.toNat - (3 - n)) 29 ++ (markU (getD bs r n a).1.1 :: numL (getD bs r n a).1.1 (getD bs r n a).1.2.1) ++ bs.drop (getD bs r n a).2.1 ∧
      (getD bs r n a).2.1 ≤ bs.length := by
  intro n
  induction n with
  | zero =>
    intro a hn ha h
    unfold getD at h ⊢
    by_cases hl : a < bs.length
    · rw [dif_pos hl] at h ⊢
      by_cases h29 : bs[a].toNat = 29
      · rw [if_pos h29] at h; simp [badR] at h
      · rw [if_neg h29] at h ⊢
        obtain ⟨g1, g2, g3, g4, g5, g6, g7⟩ := tail_ok bs r 3 _ (a + 1) (by omega) (by omega) h
        refine ⟨g1, g3, by rw [g2]; omega, ?_, g7⟩
        rw [g2, List.drop_eq_getElem_cons hl, g5]
        have : markU (tailR bs r 3 bs[a].toNat (a + 1)).1.1 = bs[a] := UInt8.toNat_inj.1 g4
        rw [this]
        simp
    · rw [dif_neg hl] at h; simp [badR] at h
  | succ n ih =>
    intro a hn ha h
    unfold getD at h ⊢
    by_cases hl : a < bs.length
    · rw [dif_pos hl] at h ⊢
      by_cases h29 : bs[a].toNat = 29
      · rw [if_pos h29] at h ⊢
        obtain ⟨g1, g2, g3, g4, g5⟩ := ih (a + 1) (by omega) (by omega) h
        refine ⟨g1, g2, by omega, ?_, g5⟩
        have hb : bs[a] = 29 := UInt8.toNat_inj.1 h29
        rw [List.drop_eq_getElem_cons hl, g4, hb]
        have e : (getD bs r n (a + 1)).1.2.2.1.toNat - (3 - (n + 1)) = ((getD bs r n (a + 1)).1.2.2.1.toNat - (3 - n)) + 1 := by omega
        rw [e, List.replicate_succ]
        simp
      · rw [if_neg h29] at h ⊢
        obtain ⟨g1, g2, g3, g4, g5, g6, g7⟩ := tail_ok bs r (2 - n) _ (a + 1) (by omega) (by omega) h
        refine ⟨g1, g3, by rw [g2]; omega, ?_, g7⟩
        have : markU (tailR bs r (2 - n) bs[a].toNat (a + 1)).1.1 = bs[a] := UInt8.toNat_inj.1 g4
        rw [this, g2, List.drop_eq_getElem_cons hl, g5]
        have e : ((2 - n : Nat) : Int).toNat - (3 - (n + 1)) = 0 := by omega
        rw [e]
        simp
    · rw [dif_neg hl] at h; simp [badR] at h

/-- What is read, put again, is the very bytes. -/
theorem get_ok (bs : List UInt8) (a : Nat) (ha : a ≤ bs.length) (h : (getT bs a).2.2 = 0) :
    plainT (getT bs a).1 = true ∧ bs.drop a = encT (getT bs a).1 ++ bs.drop (getT bs a).2.1 ∧ (getT bs a).2.1 = a + (encT (getT bs a).1).length ∧ (getT bs a).2.1 ≤ bs.length := by
  have key : plainT (getT bs a).1 = true ∧ bs.drop a = encT (getT bs a).1 ++ bs.drop (getT bs a).2.1 ∧ (getT bs a).2.1 ≤ bs.length := by
    unfold getT at h ⊢
    by_cases hl : a < bs.length
    · rw [dif_pos hl] at h ⊢
      by_cases h16 : bs[a].toNat = 16
      · rw [if_pos h16] at h ⊢
        obtain ⟨g1, g2, g3, g4, g5⟩ := getD_ok bs true 3 (a + 1) (by omega) (by omega) h
        have hb : bs[a] = 16 := UInt8.toNat_inj.1 h16
        refine ⟨g1, ?_, g5⟩
        rw [List.drop_eq_getElem_cons hl, g4, hb]
        simp [encT, encB, headL, g2]
      · rw [if_neg h16] at h ⊢
        obtain ⟨g1, g2, g3, g4, g5⟩ := getD_ok bs false 3 a (by omega) (by omega) h
        refine ⟨g1, ?_, g5⟩
        rw [g4]
        simp [encT, encB, headL, g2]
    · rw [dif_neg hl] at h; simp [badR] at h
  obtain ⟨g1, g2, g3⟩ := key
  refine ⟨g1, g2, ?_, g3⟩
  have := congrArg List.length g2
  simp at this
  omega

theorem plain_facts {k i d : Int} {r : Bool} (h : plainB k i d r = true) : 0 ≤ d ∧ d ≤ 3 ∧ 0 ≤ i ∧ (k = 1 ∧ d = 0 ∧ r = false ∧ i = 0 ∨ (k = 2 ∨ k = 3 ∨ k = 4) ∧ i = 0 ∨ (k = 5 ∨ k = 6) ∧ i < 32 ∨ k = 7 ∧ i ≤ 7) := by
  unfold plainB at h
  exact of_decide_eq_true h

theorem tail_enc (bs cs : List UInt8) (k i : Int) (r : Bool) (j a : Nat) (ha : a ≤ bs.length) (hp : plainB k i (j : Int) r = true) (h : bs.drop a = numL k i ++ cs) :
    tailR bs r j (markU k).toNat a = ((k, i, (j : Int), r), a + (numL k i).length, 0) := by
  obtain ⟨h1, h2, h3, h4⟩ := plain_facts hp
  rcases h4 with ⟨rfl, h5, rfl, rfl⟩ | ⟨h4, rfl⟩ | ⟨h4, h5⟩ | ⟨rfl, h5⟩
  · have : j = 0 := by omega
    subst this
    simp [tailR, markU, numL]
  · rcases h4 with rfl | rfl | rfl <;> simp [tailR, markU, numL]
  · obtain ⟨n, rfl⟩ := Int.eq_ofNat_of_zero_le h3
    have q0 : (n : Int).toNat = n := by omega
    have q1 : codedE ((4 * (n + 1) : Nat) : Int) = 0 := by unfold codedE; rw [if_neg (by omega), if_neg (by omega)]
    have q2 : codedT ((4 * (n + 1) : Nat) : Int) = 0 := by unfold codedT; rw [if_neg (by omega), if_neg (by omega), if_neg (by omega)]
    have q3 : codedR ((4 * (n + 1) : Nat) : Int) = (n : Int) + 1 := by unfold codedR; rw [if_neg (by omega), if_neg (by omega)]; omega
    rcases h4 with rfl | rfl
    · have hu := unp_of_drop bs a (4 * (n + 1)) cs (by omega) ha (by simpa [numL] using h)
      have e1 : (markU 5).toNat = 18 := rfl
      have e2 : numL 5 (n : Int) = pkL (4 * (n + 1)) := by simp [numL]
      rw [e1, e2]
      unfold tailR
      rw [if_neg (by omega), if_neg (by omega), if_neg (by omega), if_neg (by omega), if_pos (by omega)]
      unfold numR
      rw [hu]
      simp only [q1, q2, q3]
      rw [if_neg (by simp), if_neg (by omega), if_neg (by omega)]
      simp
    · have hu := unp_of_drop bs a (4 * (n + 1)) cs (by omega) ha (by simpa [numL] using h)
      have e1 : (markU 6).toNat = 17 := rfl
      have e2 : numL 6 (n : Int) = pkL (4 * (n + 1)) := by simp [numL]
      rw [e1, e2]
      unfold tailR
      rw [if_neg (by omega), if_neg (by omega), if_neg (by omega), if_neg (by omega), if_pos (by omega)]
      unfold numR
      rw [hu]
      simp only [q1, q2, q3]
      rw [if_neg (by simp), if_neg (by omega), if_neg (by omega)]
      simp
  · obtain ⟨n, rfl⟩ := Int.eq_ofNat_of_zero_le h3
    have hu := unp_of_drop bs a n cs (by omega) ha (by simpa [numL] using h)
    have e1 : (markU 7).toNat = 19 := rfl
    have e2 : numL 7 (n : Int) = pkL n := by simp [numL]
    rw [e1, e2]
    unfold tailR
    rw [if_neg (by omega), if_neg (by omega), if_neg (by omega), if_neg (by omega), if_pos (by omega)]
    unfold numR
    rw [hu]
    rw [if_neg (by simp), if_pos rfl, if_neg (by omega)]

theorem mark_ne (k : Int) : (markU k).toNat ≠ 29 ∧ (markU k).toNat ≠ 16 := by
  unfold markU
  repeat' split
  all_goals decide

theorem getD_enc (bs cs : List UInt8) (k i : Int) (r : Bool) : ∀ (m n a : Nat), n ≤ 3 → m ≤ n → a ≤ bs.length → plainB k i ((3 - n + m : Nat) : Int) r = true →
    bs.drop a = List.replicate m 29 ++ (markU k :: (numL k i ++ cs)) → getD bs r n a = ((k, i, ((3 - n + m : Nat) : Int), r), a + m + 1 + (numL k i).length, 0) := by
  intro m
  induction m with
  | zero =>
    intro n a hn hm ha hp h
    have hl : a < bs.length := by
      rcases Nat.lt_or_ge a bs.length with q | q
      · exact q
      · rw [List.drop_of_length_le q] at h; simp at h
    rw [List.drop_eq_getElem_cons hl] at h
    simp only [List.replicate_zero, List.nil_append, List.cons.injEq] at h
    obtain ⟨h1, h2⟩ := h
    have hmk := mark_ne k
    cases n with
    | zero =>
      unfold getD
      rw [dif_pos hl, h1, if_neg hmk.1]
      simpa using tail_enc bs cs k i r 3 (a + 1) (by omega) (by simpa using hp) h2
    | succ n =>
      unfold getD
      rw [dif_pos hl, h1, if_neg hmk.1]
      have e : 3 - (n + 1) + 0 = 2 - n := by omega
      rw [e] at hp ⊢
      simpa using tail_enc bs cs k i r (2 - n) (a + 1) (by omega) hp h2
  | succ m ih =>
    intro n a hn hm ha hp h
    have hl : a < bs.length := by
      rcases Nat.lt_or_ge a bs.length with q | q
      · exact q
      · rw [List.drop_of_length_le q] at h; simp [List.replicate_succ] at h
    rw [List.drop_eq_getElem_cons hl, List.replicate_succ] at h
    simp only [List.cons_append, List.cons.injEq] at h
    obtain ⟨h1, h2⟩ := h
    cases n with
    | zero => omega
    | succ n =>
      unfold getD
      have h29 : bs[a].toNat = 29 := by rw [h1]; rfl
      have e : 3 - (n + 1) + (m + 1) = 3 - n + m := by omega
      rw [dif_pos hl, if_pos h29]
      rw [e] at hp ⊢
      rw [ih n (a + 1) (by omega) (by omega) (by omega) hp h2]
      simp
      omega

/-- What is put is got. -/
theorem get_enc (bs cs : List UInt8) (t : Ty) (a : Nat) (ha : a ≤ bs.length) (hp : plainT t = true) (h : bs.drop a = encT t ++ cs) : getT bs a = (t, a + (encT t).length, 0) := by
  obtain ⟨k, i, d, r⟩ := t
  have hp' : plainB k i d r = true := hp
  obtain ⟨h1, h2, h3, h4⟩ := plain_facts hp'
  obtain ⟨m, rfl⟩ := Int.eq_ofNat_of_zero_le h1
  have hl : a < bs.length := by
    rcases Nat.lt_or_ge a bs.length with q | q
    · exact q
    · rw [List.drop_of_length_le q] at h; simp [encT, encB] at h
  have hm : (m : Int).toNat = m := by omega
  have e : 3 - 3 + m = m := by omega
  cases r with
  | true =>
    rw [List.drop_eq_getElem_cons hl] at h
    simp only [encT, encB, headL, if_true, List.cons_append, List.nil_append, List.cons.injEq, List.append_assoc, hm] at h
    obtain ⟨g1, g2⟩ := h
    unfold getT
    rw [dif_pos hl, if_pos (by rw [g1]; rfl)]
    have := getD_enc bs cs k i true m 3 (a + 1) (by omega) (by omega) (by omega) (by rw [e]; exact hp') g2
    rw [e] at this
    rw [this]
    simp [encT, encB, headL]
    omega
  | false =>
    simp only [encT, encB, headL, List.nil_append, List.append_assoc, List.cons_append, hm, Bool.false_eq_true, if_false] at h
    have h16 : bs[a].toNat ≠ 16 := by
      have hd := h
      rw [List.drop_eq_getElem_cons hl] at hd
      cases m with
      | zero =>
        simp only [List.replicate_zero, List.nil_append, List.cons.injEq] at hd
        rw [hd.1]; exact (mark_ne k).2
      | succ m =>
        simp only [List.replicate_succ, List.cons_append, List.cons.injEq] at hd
        rw [hd.1]; decide
    unfold getT
    rw [dif_pos hl, if_neg h16]
    have := getD_enc bs cs k i false m 3 a (by omega) (by omega) (by omega) (by rw [e]; exact hp') h
    rw [e] at this
    rw [this]
    simp [encT, encB, headL]
    omega

end Go.Proofs.YtclmafoelibihaaGreat

/- The rules of layer 5 as function values; the bytes of kinds. -/
namespace Go.Proofs.YtclmafoelibihaaGreat
set_option linter.unusedVariables false
set_option linter.unusedSimpArgs false
open Go.RowKit

theorem markOf5_any (k : Int) (w : World) :
    Calls Tryz.prog 169 #[.int .i64 k] w fun e w' => e = .returned (.int .u8 ((markU k).toNat : Int)) ∧ w' = w := by
  go_enter Tryz.func169, Tryz.ntmps169
  go_wp2
  all_goals go_ret
  all_goals refine ⟨ret_int ?_, rfl⟩
  all_goals simp only [beq_iff_eq, beq_eq_false_iff_ne, ne_eq] at *
  all_goals (simp [markU, *])

/-- A function that has a body is entered. -/
theorem run_enter {P : Program} {f : FuncId} {fn : Func} {c : Code} (hf : P.funcs[f]? = some fn) (hname : (fn.name == "runtime.NumGoroutine") = false) (hb : fn.body = some c) (args : Array Value) (w : World) :
    (callFunc f args).run P w = .ok (.enter f args) w := by
  have h1 : ¬ fn.name = "runtime.NumGoroutine" := by simpa using hname
  simp [callFunc, hf, h1, hb]

/-- A function of the code that tells what may stand there. -/
structure Rule (f : FuncId) (p : Nat) : Prop where
  enter : ∀ args w, (callFunc f args).run Tryz.prog w = .ok (.enter f args) w
  may : ∀ k i d r w, Calls Tryz.prog f #[.agg #[.int .i64 k, .int .i64 i, .int .i64 d, .bool r]] w fun e w' => e = .returned (.bool (mayB p k i d r)) ∧ Below w.heap.size w w'
  plain : ∀ k i d r, mayB p k i d r = true → plainB k i d r = true

theorem rule_plain : Rule 172 0 := ⟨run_enter Tryz.func172 (by kernel_rfl) rfl, fun k i d r w => isPlain_any k i d r w, fun k i d r h => h⟩
theorem rule_field : Rule 147 1 := ⟨run_enter Tryz.func147 (by kernel_rfl) rfl, fun k i d r w => isField_any k i d r w, fun k i d r h => by simp [mayB] at h; exact h.1.1⟩
theorem rule_var : Rule 151 2 := ⟨run_enter Tryz.func151 (by kernel_rfl) rfl, fun k i d r w => isVariable_any k i d r w, fun k i d r h => by simp [mayB] at h; exact h.1⟩
theorem rule_answer : Rule 149 3 := ⟨run_enter Tryz.func149 (by kernel_rfl) rfl, fun k i d r w => isAnswer_any k i d r w, fun k i d r h => by simp [mayB] at h; exact h.1⟩

/-- The kind of a byte. -/
def kindI (c : Nat) : Int := if c = 1 then 1 else if c = 8 then 2 else if c = 10 then 3 else if c = 28 then 4 else if c = 18 then 5 else if c = 17 then 6 else if c = 19 then 7 else 0

theorem kind_of_mark (n c : Nat) (h1 : 1 ≤ n) (h7 : n ≤ 7) (h : (markU (n : Int)).toNat = c) : kindI c = (n : Int) := by
  subst h
  obtain rfl | rfl | rfl | rfl | rfl | rfl | rfl : n = 1 ∨ n = 2 ∨ n = 3 ∨ n = 4 ∨ n = 5 ∨ n = 6 ∨ n = 7 := by omega
  all_goals rfl

theorem kind_none (c : Nat) (h : ∀ m : Nat, 1 ≤ m → m ≤ 7 → (markU (m : Int)).toNat ≠ c) : kindI c = 0 := by
  have a1 := h 1 (by omega) (by omega)
  have a2 := h 2 (by omega) (by omega)
  have a3 := h 3 (by omega) (by omega)
  have a4 := h 4 (by omega) (by omega)
  have a5 := h 5 (by omega) (by omega)
  have a6 := h 6 (by omega) (by omega)
  have a7 := h 7 (by omega) (by omega)
  have b1 : (markU ((1 : Nat) : Int)).toNat = 1 := rfl
  have b2 : (markU ((2 : Nat) : Int)).toNat = 8 := rfl
  have b3 : (markU ((3 : Nat) : Int)).toNat = 10 := rfl
  have b4 : (markU ((4 : Nat) : Int)).toNat = 28 := rfl
  have b5 : (markU ((5 : Nat) : Int)).toNat = 18 := rfl
  have b6 : (markU ((6 : Nat) : Int)).toNat = 17 := rfl
  have b7 : (markU ((7 : Nat) : Int)).toNat = 19 := rfl
  unfold kindI
  rw [if_neg (by omega), if_neg (by omega), if_neg (by omega), if_neg (by omega), if_neg (by omega), if_neg (by omega), if_neg (by omega)]

end Go.Proofs.YtclmafoelibihaaGreat

/- A type in a block of its own; the reader's next byte. -/
namespace Go.Proofs.YtclmafoelibihaaGreat
set_option linter.unusedVariables false
set_option linter.unusedSimpArgs false
open Go.RowKit

/-- In block g lies a type. -/
def TyAt (w : World) (g : Nat) (k i d : Int) (r : Bool) : Prop := w.heap[g]? = some (.cells #[.int .i64 k, .int .i64 i, .int .i64 d, .bool r] 44 (0, 0))

theorem TyAt.cells {w : World} {g : Nat} {k i d : Int} {r : Bool} (h : TyAt w g k i d r) :
    w.cell? ⟨g, 0, none⟩ = some (.int .i64 k) ∧ w.cell? ⟨g, 1, none⟩ = some (.int .i64 i) ∧ w.cell? ⟨g, 2, none⟩ = some (.int .i64 d) ∧ w.cell? ⟨g, 3, none⟩ = some (.bool r) := by
  unfold TyAt at h
  simp [World.cell?, h]
theorem TyAt.melt {w : World} {g : Nat} {k i d : Int} {r : Bool} (h : TyAt w g k i d r) : ∀ o, w.frozen? ⟨g, o, none⟩ = false := by
  unfold TyAt at h
  intro o
  simp [World.frozen?, h]
theorem TyAt.lt {w : World} {g : Nat} {k i d : Int} {r : Bool} (h : TyAt w g k i d r) : g < w.heap.size := (Array.getElem?_eq_some_iff.1 h).1
theorem TyAt.below {w w' : World} {g B : Nat} {k i d : Int} {r : Bool} (h : TyAt w g k i d r) (hb : Below B w w') (hg : g < B) : TyAt w' g k i d r := by
  unfold TyAt at h ⊢
  rw [hb.block g hg]; exact h
theorem TyAt.later {w w' : World} {g : Nat} {k i d : Int} {r : Bool} (h : TyAt w g k i d r) (hb : Below w.heap.size w w') : TyAt w' g k i d r := h.below hb h.lt
theorem TyAt.only {w w' : World} {g rb : Nat} {k i d : Int} {r : Bool} (h : TyAt w g k i d r) (ho : Only rb w w') (hg : g ≠ rb) : TyAt w' g k i d r := by
  have := h.lt
  unfold TyAt at h ⊢
  rw [ho.block g this hg]; exact h
theorem TyAt.made (w : World) (k i d : Int) (r : Bool) : TyAt (w.alloc (.cells #[.int .i64 k, .int .i64 i, .int .i64 d, .bool r] 44)) w.heap.size k i d r := by
  unfold TyAt
  have := heap_alloc_new w (.cells #[.int .i64 k, .int .i64 i, .int .i64 d, .bool r] 44)
  simpa using this
theorem TyAt.other {w : World} {g g' o : Nat} {k i d : Int} {r : Bool} (h : TyAt w g k i d r) (hg : g ≠ g') (u : Value) : TyAt (w.setCell ⟨g', o, none⟩ u) g k i d r := by
  unfold TyAt at h ⊢
  rw [Below.heap_setCell _ _ _ _ hg]; exact h
theorem TyAt.set0 {w : World} {g : Nat} {k i d : Int} {r : Bool} (h : TyAt w g k i d r) (x : Int) : TyAt (w.setCell ⟨g, 0, none⟩ (.int .i64 x)) g x i d r := by
  unfold TyAt at h ⊢
  rw [setCell_eq_setRow w g 0 _ _ _ _ h, setRow_heap w g _ _ _ _ h]
  simp
theorem TyAt.set1 {w : World} {g : Nat} {k i d : Int} {r : Bool} (h : TyAt w g k i d r) (x : Int) : TyAt (w.setCell ⟨g, 1, none⟩ (.int .i64 x)) g k x d r := by
  unfold TyAt at h ⊢
  rw [setCell_eq_setRow w g 1 _ _ _ _ h, setRow_heap w g _ _ _ _ h]
  simp
theorem TyAt.set2 {w : World} {g : Nat} {k i d : Int} {r : Bool} (h : TyAt w g k i d r) (x : Int) : TyAt (w.setCell ⟨g, 2, none⟩ (.int .i64 x)) g k i x r := by
  unfold TyAt at h ⊢
  rw [setCell_eq_setRow w g 2 _ _ _ _ h, setRow_heap w g _ _ _ _ h]
  simp
theorem TyAt.set3 {w : World} {g : Nat} {k i d : Int} {r : Bool} (h : TyAt w g k i d r) (x : Bool) : TyAt (w.setCell ⟨g, 3, none⟩ (.bool x)) g k i d x := by
  unfold TyAt at h ⊢
  rw [setCell_eq_setRow w g 3 _ _ _ _ h, setRow_heap w g _ _ _ _ h]
  simp
theorem TyAt.set4 {w : World} {g : Nat} {k i d : Int} {r : Bool} (h : TyAt w g k i d r) (k' i' d' : Int) (r' : Bool) :
    TyAt ((((w.setCell ⟨g, 0, none⟩ (.int .i64 k')).setCell ⟨g, 1, none⟩ (.int .i64 i')).setCell ⟨g, 2, none⟩ (.int .i64 d')).setCell ⟨g, 3, none⟩ (.bool r')) g k' i' d' r' :=
  (((h.set0 k').set1 i').set2 d').set3 r'

theorem Only.setNew {rb : Nat} {a w : World} (h : Only rb a w) {g : Nat} (hg : a.heap.size ≤ g) (o : Nat) (u : Value) : Only rb a (w.setCell ⟨g, o, none⟩ u) :=
  ⟨h.os, h.tape, h.output, by have := h.size; simp [World.setCell]; exact this, fun k hk hne => by rw [Below.heap_setCell _ _ _ _ (show k ≠ g by omega)]; exact h.block k hk hne⟩
theorem Only.set4 {rb : Nat} {a w : World} (h : Only rb a w) {g : Nat} (hg : a.heap.size ≤ g) (x0 x1 x2 x3 : Value) :
    Only rb a ((((w.setCell ⟨g, 0, none⟩ x0).setCell ⟨g, 1, none⟩ x1).setCell ⟨g, 2, none⟩ x2).setCell ⟨g, 3, none⟩ x3) :=
  (((h.setNew hg _ _).setNew hg _ _).setNew hg _ _).setNew hg _ _
/-- What was made behind a world is not of it. -/
theorem Only.new {rb : Nat} {a w w' : World} (h : Only rb a w) (hb : Below w.heap.size w w') : Only rb a w' :=
  h.trans (Only.of_below hb)

/-- The dimensions of the type in a block. -/
def dimsAt (w : World) (g : Nat) : Nat := match w.cell? ⟨g, 2, none⟩ with
  | some (.int _ n) => n.toNat
  | _ => 0
theorem TyAt.dims {w : World} {g : Nat} {k i d : Int} {r : Bool} (h : TyAt w g k i d r) : dimsAt w g = d.toNat := by
  unfold dimsAt
  rw [h.cells.2.2.1]

/-- The byte that stands there, the error. -/
def byV (bs : List UInt8) (a : Nat) : Nat := if h : a < bs.length then bs[a].toNat else 0
def byE (bs : List UInt8) (a : Nat) : Nat := if a < bs.length then 0 else 1

theorem by_yes {bs : List UInt8} {a : Nat} (h : a < bs.length) : byV bs a = bs[a].toNat ∧ byE bs a = 0 ∧ byV bs a < 256 := by
  have := bs[a].toNat_lt
  simp [byV, byE, h]
  exact this
theorem by_no {bs : List UInt8} {a : Nat} (h : ¬ a < bs.length) : byV bs a = 0 ∧ byE bs a = 1 := by simp [byV, byE, h]

end Go.Proofs.YtclmafoelibihaaGreat
