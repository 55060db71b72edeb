
/- What is decoded, encoded again, is the very bytes; codes without places one behind the other. -/
import Derived.Test.YtpgkjfjooogfmaaDoorCodeBack7
namespace Go.Proofs.YtpgkjfjooogfmaaDoor
set_option linter.unusedVariables false
set_option linter.unusedSimpArgs false
open Go.RowKit

theorem u64_sgn4 (v : Nat) (h : v < 4294967296) : u64n (sgnN v 4) % 4294967296 = v := by
  unfold sgnN u64n
  split <;> omega
theorem u64_sgn2 (v : Nat) (h : v < 65536) : u64n (sgnN v 2) % 65536 = v := by
  unfold sgnN u64n
  split <;> omega
theorem u64_sgn8 (v : Nat) (h : v < 18446744073709551616) : u64n (sgnN v 8) % 18446744073709551616 = v := by
  unfold sgnN u64n
  split <;> omega

theorem opnd_back {p : Nat} (hp : p ≤ 8) (bs : List UInt8) (a : Nat) (ha : a + widN p ≤ bs.length) (n y : Int) (hn : n = valD p bs a) (h5 : p = 5 → y = n - ((a + 2 : Nat) : Int)) (h67 : p = 6 ∨ p = 7 → y = n + 1) (hr : p ≠ 5 → ¬ (p = 6 ∨ p = 7) → y = n) :
    leL (u64n y) (widN p) = seg bs a (widN p) := by
  have hl := seg_length bs a (widN p) ha
  refine leL_of hl ?_
  have hlt := leN_lt (seg bs a (widN p))
  rw [hl] at hlt
  unfold valD at hn
  generalize hv : leN (seg bs a (widN p)) = v at *
  rcases nine_cases hp with rfl | rfl | rfl | rfl | rfl | rfl | rfl | rfl | rfl
  · simp [widN] at hlt ⊢
    rw [Nat.mod_one, hlt]
  · have e := hr (by omega) (by omega)
    simp [widN] at hn hv hlt ⊢
    try rw [hv] at hn
    rw [e, hn, u64_sgn4 v hlt]
  · have e := hr (by omega) (by omega)
    simp [widN] at hn hv hlt ⊢
    try rw [hv] at hn
    rw [e, hn, u64_sgn8 v hlt]
  · have e := hr (by omega) (by omega)
    simp [widN] at hn hv hlt ⊢
    try rw [hv] at hn
    rw [e, hn, u64n_pos (by omega) (by omega)]
    omega
  · have e := hr (by omega) (by omega)
    simp [widN] at hn hv hlt ⊢
    try rw [hv] at hn
    rw [e, hn, u64n_pos (by omega) (by omega)]
    omega
  · have e := h5 rfl
    simp [widN] at hn hv hlt ⊢
    try rw [hv] at hn
    have e2 : y = sgnN v 2 := by omega
    rw [e2, u64_sgn2 v hlt]
  · have e := h67 (by omega)
    simp [widN] at hn hv hlt ⊢
    try rw [hv] at hn
    have e2 : y = (v : Int) := by omega
    rw [e2, u64n_pos (by omega) (by omega)]
    omega
  · have e := h67 (by omega)
    simp [widN] at hn hv hlt ⊢
    try rw [hv] at hn
    have e2 : y = (v : Int) := by omega
    rw [e2, u64n_pos (by omega) (by omega)]
    omega
  · have e := hr (by omega) (by omega)
    simp [widN] at hn hv hlt ⊢
    try rw [hv] at hn
    rw [e, hn, u64n_pos (by omega) (by omega)]
    omega

theorem raw_way {op : Int} {k : Nat} (h5 : opK op = 5) (hin : 1 ≤ op ∧ op ≤ 75) (hk : k < 160) : rawB (op, (k : Int), 0, 0, 0, false) = true := by
  unfold rawB
  rw [if_neg (by show ¬ opK op = 8; omega)]
  unfold fitE
  rw [if_pos (show 1 ≤ op ∧ op ≤ 75 from hin)]
  rw [if_pos]
  · rfl
  · unfold fitB
    rw [opK_at, h5]
    simp [bLo, bHi, zeroB]
    omega

/-- What is decoded is encoded to the bytes. -/
theorem one_enc {bs : List UInt8} {l m : List Ins} (h1 : Rdg bs l bs.length) (h2 : Ress (pls l) l m) : encE m = 0 ∧ encTo m m.length = bs := by
  obtain ⟨f1, _, f3⟩ := h1.facts
  have hml := h2.1
  have hop : ∀ j (h : j < l.length) (h' : j < m.length), m[j].1 = l[j].1 := fun j h h' => (resP_op (h2.2 j h h')).1
  have hsz := szL_ops hml hop
  have hrd : ∀ j (h : j < l.length), l[j] = insD bs (szL (l.take j)) ∧ (1 ≤ l[j].1 ∧ l[j].1 ≤ 75) ∧ szL (l.take j) + 1 + opw l[j] ≤ bs.length ∧ (opK l[j].1 = 5 ∨ rawB l[j] = true) := fun j h => rdI_some (h1.at j h).1
  have hway : ∀ j (h : j < l.length) (h' : j < m.length), opK l[j].1 = 5 → ∃ k, k < l.length ∧ (szL (l.take k) : Int) = l[j].2.1 ∧ m[j] = (l[j].1, (k : Int), l[j].2.2) := by
    intro j h h' h5
    have := h2.2 j h h'
    unfold resP at this
    rw [if_pos h5] at this
    obtain ⟨k, hk, e1, e2⟩ := this
    rw [pls_get] at e1
    rw [pls_length] at hk
    exact ⟨k, hk, e1, e2⟩
  have hsame : ∀ j (h : j < l.length) (h' : j < m.length), opK l[j].1 ≠ 5 → m[j] = l[j] := by
    intro j h h' h5
    have := h2.2 j h h'
    unfold resP at this
    rwa [if_neg h5] at this
  have hraw : ∀ j (h' : j < m.length), rawB m[j] = true ∧ behB m.length m[j] = false := by
    intro j h'
    have h : j < l.length := by omega
    obtain ⟨r1, r2, r3, r4⟩ := hrd j h
    by_cases h5 : opK l[j].1 = 5
    · obtain ⟨k, hk, _, e⟩ := hway j h h' h5
      have hz : l[j].2.2 = (0, 0, 0, false) := by rw [r1]; rfl
      rw [e, hz]
      refine ⟨raw_way h5 r2 (by omega), ?_⟩
      unfold behB
      simp only [Bool.and_eq_false_iff, decide_eq_false_iff_not]
      right
      omega
    · rw [hsame j h h' h5]
      refine ⟨by rcases r4 with r4 | r4; exact absurd r4 h5; exact r4, ?_⟩
      unfold behB
      rw [decide_eq_false h5]
      rfl
  have hall : m.all rawB = true := by
    rw [List.all_eq_true]
    intro x hx
    obtain ⟨j, hj, rfl⟩ := List.mem_iff_getElem.1 hx
    exact (hraw j hj).1
  have hany : m.any (behB m.length) = false := by
    rw [List.any_eq_false]
    intro x hx
    obtain ⟨j, hj, rfl⟩ := List.mem_iff_getElem.1 hx
    rw [(hraw j hj).2]; decide
  refine ⟨encE_of (plE_of (by omega) hall) hany, ?_⟩
  have key : ∀ q, q ≤ l.length → encTo m q = bs.take (szL (l.take q)) := by
    intro q
    induction q with
    | zero => intro _; simp [encTo, szL]
    | succ q ih =>
      intro hq
      have h : q < l.length := by omega
      have h' : q < m.length := by omega
      obtain ⟨r1, r2, r3, r4⟩ := hrd q h
      have hs := szL_succ l q h
      have e1 : m[q].1 = l[q].1 := hop q h h'
      have ew : opw m[q] = opw l[q] := by unfold opw; rw [e1]
      have hfst : l[q].1 = opA bs (szL (l.take q)) := by rw [r1]; rfl
      have hval : l[q].2.1 = valD (opK l[q].1) bs (szL (l.take q) + 1) := by
        have e2 : l[q].2.1 = valD (opK (opA bs (szL (l.take q)))) bs (szL (l.take q) + 1) := by
          conv => lhs; rw [r1]
          rfl
        rw [e2, hfst]
      have hbyte : UInt8.ofNat l[q].1.toNat = bs[szL (l.take q)]'(by omega) := by
        rw [hfst]
        unfold opA
        rw [List.getD_eq_getElem?_getD, List.getElem?_eq_getElem (show szL (l.take q) < bs.length by omega)]
        simp
      have hops : leL (u64n (opnd m q m[q])) (opw l[q]) = seg bs (szL (l.take q) + 1) (opw l[q]) := by
        refine opnd_back (opK_le l[q].1) bs _ r3 l[q].2.1 _ hval ?_ ?_ ?_
        · intro h5
          obtain ⟨k, hk, g1, g2⟩ := hway q h h' h5
          unfold opnd
          rw [e1, if_pos h5, g2]
          simp only [Int.toNat_natCast]
          rw [hsz k (by omega), hsz (q + 1) hq, hs, g1]
          have : opw l[q] = 2 := by unfold opw; rw [h5]; rfl
          omega
        · intro h6
          unfold opnd
          rw [e1, if_neg (by omega), if_pos h6, hsame q h h' (by omega)]
        · intro h5 h6
          unfold opnd
          rw [e1, if_neg h5, if_neg h6, hsame q h h' h5]
      rw [encTo_succ m q h', ih (by omega), hs, Nat.add_assoc, List.take_add]
      congr 1
      unfold encI
      rw [e1, ew, hops, hbyte]
      have := seg_cons bs (szL (l.take q)) (opw l[q]) (by omega)
      unfold seg at this
      rw [Nat.add_comm 1 (opw l[q]), this]
      rfl
  have := key l.length (Nat.le_refl _)
  rw [List.take_length, ← f1, List.take_length] at this
  rw [hml]
  exact this

theorem place_ops : ∀ n : Nat, n < 75 → ((opP ((n : Int) + 1) = 5) ↔ (34 ≤ n + 1 ∧ n + 1 ≤ 42 ∨ n + 1 = 71)) := by decide +kernel
theorem opK_place (op : Int) : opK op = 5 ↔ (34 ≤ op ∧ op ≤ 42 ∨ op = 71) := by
  by_cases hin : 1 ≤ op ∧ op ≤ 75
  · have := place_ops (op - 1).toNat (by omega)
    rw [show ((op - 1).toNat : Int) + 1 = op by omega, opK_at] at this
    constructor
    · intro h
      have := this.1 (by omega)
      omega
    · intro h
      have := this.2 (by omega)
      omega
  · have h0 : opK op = 0 := by unfold opK; rw [opP_out hin]; rfl
    rw [h0]
    constructor
    · intro h; omega
    · intro h; omega

theorem encI_any (l l' : List Ins) (i i' : Nat) (x : Ins) (h : opK x.1 ≠ 5) : encI l i x = encI l' i' x := by
  unfold encI opnd
  rw [if_neg h, if_neg h]

theorem encTo_join (l m : List Ins) (h : ∀ x ∈ l ++ m, opK x.1 ≠ 5) : encTo (l ++ m) (l ++ m).length = encTo l l.length ++ encTo m m.length := by
  have h1 : ∀ q, q ≤ l.length → encTo (l ++ m) q = encTo l q := by
    intro q
    induction q with
    | zero => intro _; rfl
    | succ q ih =>
      intro hq
      rw [encTo_succ l q (by omega), encTo_succ (l ++ m) q (by simp; omega), ih (by omega), List.getElem_append_left (by omega)]
      congr 1
      exact encI_any _ _ _ _ _ (h _ (List.mem_append_left _ (List.getElem_mem _)))
  have h2 : ∀ j, j ≤ m.length → encTo (l ++ m) (l.length + j) = encTo l l.length ++ encTo m j := by
    intro j
    induction j with
    | zero => intro _; rw [Nat.add_zero, h1 _ (Nat.le_refl _)]; simp [encTo]
    | succ j ih =>
      intro hj
      rw [← Nat.add_assoc, encTo_succ (l ++ m) (l.length + j) (by simp; omega), ih (by omega), encTo_succ m j (by omega), List.getElem_append_right (by omega), List.append_assoc]
      congr 2
      simp only [Nat.add_sub_cancel_left]
      exact encI_any _ _ _ _ _ (h _ (List.mem_append_right _ (List.getElem_mem _)))
  rw [List.length_append]
  exact h2 m.length (Nat.le_refl _)

theorem any_none {l : List Ins} (n : Nat) (h : ∀ x ∈ l, opK x.1 ≠ 5) : l.any (behB n) = false := by
  rw [List.any_eq_false]
  intro x hx
  unfold behB
  rw [decide_eq_false (h x hx)]
  simp
theorem encE_join (l m : List Ins) (h : ∀ x ∈ l ++ m, opK x.1 ≠ 5) (hl : l.length ≤ 80) (hm : m.length ≤ 80) : (encE (l ++ m) = 0 ↔ encE l = 0 ∧ encE m = 0) := by
  have hn : ∀ k : List Ins, k.length ≤ 160 → (∀ x ∈ k, opK x.1 ≠ 5) → (encE k = 0 ↔ k.all rawB = true) := by
    intro k hk hx
    constructor
    · intro he; exact (plE_zero (encE_zero he).1).2
    · intro he; exact encE_of (plE_of hk he) (any_none _ hx)
  rw [hn _ (by simp; omega) h, hn l (by omega) (fun x hx => h x (List.mem_append_left _ hx)), hn m (by omega) (fun x hx => h x (List.mem_append_right _ hx)), List.all_append, Bool.and_eq_true]

end Go.Proofs.YtpgkjfjooogfmaaDoor
