
/- There and back: what is encoded is decoded; what is decoded is encoded. -/
import Derived.Test.YtpgkjfjooogfmaaDoorCodeMath
import Derived.Test.YtpgkjfjooogfmaaDoorEnc7
namespace Go.Proofs.YtpgkjfjooogfmaaDoor
set_option linter.unusedVariables false
set_option linter.unusedSimpArgs false
open Go.RowKit

/-- With its place told by bytes. -/
def rf (l : List Ins) (x : Ins) : Ins := (x.1, if opK x.1 = 5 then (szL (l.take x.2.1.toNat) : Int) else x.2.1, x.2.2)

theorem seg_enc (l : List Ins) (k : Nat) (hk : k < l.length) (hin : 1 ≤ l[k].1 ∧ l[k].1 ≤ 75) :
    opA (encTo l l.length) (szL (l.take k)) = l[k].1 ∧ szL (l.take k) + 1 + opw l[k] ≤ (encTo l l.length).length ∧ seg (encTo l l.length) (szL (l.take k) + 1) (opw l[k]) = leL (u64n (opnd l k l[k])) (opw l[k]) := by
  obtain ⟨r, hr⟩ := encTo_split l k hk
  have hl := encTo_length l k (by omega)
  have hn := encTo_length l l.length (Nat.le_refl _)
  have hs := szL_succ l k hk
  have hm := szL_mono l (k + 1) l.length (by omega)
  refine ⟨?_, by rw [hn]; omega, ?_⟩
  · unfold opA
    rw [hr, List.getD_eq_getElem?_getD, List.append_assoc, List.getElem?_append_right (by omega), hl, Nat.sub_self]
    simp [encI]
    omega
  · have e : encTo l l.length = (encTo l k ++ [UInt8.ofNat l[k].1.toNat]) ++ leL (u64n (opnd l k l[k])) (opw l[k]) ++ r := by
      rw [hr]; simp [encI]
    have h1 := seg_mid (encTo l k ++ [UInt8.ofNat l[k].1.toNat]) (leL (u64n (opnd l k l[k])) (opw l[k])) r
    rw [← e, leL_length, List.length_append, hl] at h1
    simpa using h1

theorem val_enc {l : List Ins} {k : Nat} (hk : k < l.length) (hr : rawB l[k] = true) (hb : behB l.length l[k] = false) (h160 : l.length ≤ 160) (bs : List UInt8) (hs : seg bs (szL (l.take k) + 1) (opw l[k]) = leL (u64n (opnd l k l[k])) (opw l[k])) :
    valD (opK l[k].1) bs (szL (l.take k) + 1) = (rf l l[k]).2.1 := by
  have h5 := fun (h : opK l[k].1 = 5) => place_facts hk rfl hr hb h
  have h8 := raw_spec hr
  have hf := raw_fits hr
  have hz := szL_take_le l k
  have hn : leN (seg bs (szL (l.take k) + 1) (opw l[k])) = u64n (opnd l k l[k]) % 256 ^ opw l[k] := by rw [hs, leN_leL]
  unfold opw at hn
  have hrf : (rf l l[k]).2.1 = if opK l[k].1 = 5 then (szL (l.take l[k].2.1.toNat) : Int) else l[k].2.1 := rfl
  have hop : opnd l k l[k] = if opK l[k].1 = 5 then (szL (l.take l[k].2.1.toNat) : Int) - (szL (l.take (k + 1)) : Int) else if opK l[k].1 = 6 ∨ opK l[k].1 = 7 then l[k].2.1 + 1 else l[k].2.1 := rfl
  rw [hrf]
  generalize opnd l k l[k] = y at *
  generalize (rf l l[k]).2.1 = z at *
  generalize szL (l.take k) = a at *
  generalize hnn : l[k].2.1 = n at *
  have hkl := opK_le l[k].1
  generalize opK l[k].1 = p at *
  clear hs hrf
  unfold valD
  rcases nine_cases hkl with rfl | rfl | rfl | rfl | rfl | rfl | rfl | rfl | rfl
  · have := hf (by omega)
    simp [bLo, bHi] at this
    simp
    omega
  · have := hf (by omega)
    simp [bLo, bHi] at this
    simp at hop
    subst hop
    simp [widN] at hn ⊢
    rw [hn]
    exact sgn_back4 _ this.1 this.2.1
  · have := hf (by omega)
    simp [bLo, bHi] at this
    simp at hop
    subst hop
    simp [widN] at hn ⊢
    rw [hn]
    exact sgn_back8 _ this.1 this.2.1
  · have := hf (by omega)
    simp [bLo, bHi] at this
    simp at hop
    subst hop
    simp [widN] at hn ⊢
    rw [hn, u64n_pos (by omega) (by omega)]
    omega
  · have := hf (by omega)
    simp [bLo, bHi] at this
    simp at hop
    subst hop
    simp [widN] at hn ⊢
    rw [hn, u64n_pos (by omega) (by omega)]
    omega
  · obtain ⟨k', e1, e2, e3⟩ := h5 rfl
    have hz2 := szL_take_le l k'
    subst e1
    simp at hop
    simp [widN] at hn ⊢
    rw [hn, sgn_back2 _ (by omega) (by omega)]
    omega
  · have := hf (by omega)
    simp [bLo, bHi] at this
    simp at hop
    subst hop
    simp [widN] at hn ⊢
    rw [hn, u64n_pos (by omega) (by omega)]
    omega
  · have := hf (by omega)
    simp [bLo, bHi] at this
    simp at hop
    subst hop
    simp [widN] at hn ⊢
    rw [hn, u64n_pos (by omega) (by omega)]
    omega
  · have := h8 rfl
    simp at hop
    subst hop
    simp [widN] at hn ⊢
    rw [hn, u64n_pos (by omega) (by omega)]
    omega

/-- What is encoded is read. -/
theorem rd_enc {l : List Ins} (hE : encE l = 0) (k : Nat) (hk : k < l.length) : rdI (encTo l l.length) (szL (l.take k)) = some (rf l l[k]) := by
  obtain ⟨hP, hany⟩ := encE_zero hE
  obtain ⟨h160, hall⟩ := plE_zero hP
  have hr : rawB l[k] = true := List.all_eq_true.1 hall _ (List.getElem_mem hk)
  have hb : behB l.length l[k] = false := by
    have := List.any_eq_false.1 hany l[k] (List.getElem_mem hk)
    simpa using this
  have hin := raw_op hr
  obtain ⟨s1, s2, s3⟩ := seg_enc l k hk hin
  have hv := val_enc hk hr hb h160 _ s3
  have hid : insD (encTo l l.length) (szL (l.take k)) = rf l l[k] := by
    unfold insD
    rw [s1, hv]
    have := raw_zero hr
    unfold rf
    rw [this]
  unfold rdI
  rw [hid, s1, if_pos hin, if_pos (by exact s2)]
  by_cases h5 : opK l[k].1 = 5
  · rw [if_pos (.inl h5)]
  · have e : rf l l[k] = l[k] := by unfold rf; rw [if_neg h5]
    rw [if_pos (.inr (by rw [e]; exact hr))]

theorem rf_len (l : List Ins) : ∀ k, k ≤ l.length → szL ((l.map (rf l)).take k) = szL (l.take k) := by
  refine szL_ops (by simp) ?_
  intro j h h'
  simp [rf]

/-- What is encoded is decoded. -/
theorem enc_dec {l : List Ins} (hE : encE l = 0) : Rdg (encTo l l.length) (l.map (rf l)) (encTo l l.length).length ∧ Ress (pls (l.map (rf l))) (l.map (rf l)) l := by
  obtain ⟨hP, hany⟩ := encE_zero hE
  obtain ⟨h160, hall⟩ := plE_zero hP
  have hlen := encTo_length l l.length (Nat.le_refl _)
  rw [List.take_length] at hlen
  refine ⟨?_, by simp, ?_⟩
  · have := Rdg.mk7 (bs := encTo l l.length) (l.map (rf l)) (by simpa using h160) (fun k hk => by
      rw [rf_len l k (by simp at hk; omega)]
      rw [rd_enc hE k (by simpa using hk)]
      simp) (l.map (rf l)).length (Nat.le_refl _)
    rw [List.take_length] at this
    have e := rf_len l l.length (Nat.le_refl _)
    rw [List.take_length, List.take_of_length_le (by simp)] at e
    rw [e] at this
    rw [hlen]
    exact this
  · intro j h h'
    have hj : j < l.length := h'
    have hr : rawB l[j] = true := List.all_eq_true.1 hall _ (List.getElem_mem hj)
    have hb : behB l.length l[j] = false := by
      have := List.any_eq_false.1 hany l[j] (List.getElem_mem hj)
      simpa using this
    unfold resP
    rw [List.getElem_map]
    by_cases h5 : opK l[j].1 = 5
    · rw [if_pos (show opK (rf l l[j]).1 = 5 from h5)]
      obtain ⟨k, e1, e2, e3⟩ := place_facts hj rfl hr hb h5
      refine ⟨k, by rw [pls_length]; simpa using e2, ?_, ?_⟩
      · rw [pls_get, rf_len l k (by omega)]
        unfold rf
        simp only
        rw [if_pos h5, e1, Int.toNat_natCast]
      · unfold rf
        rw [← e1]
    · rw [if_neg (show ¬ opK (rf l l[j]).1 = 5 from h5)]
      unfold rf
      rw [if_neg h5]

theorem res_one {l m m' : List Ins} (h : Ress (pls l) l m) (h' : Ress (pls l) l m') : m = m' := by
  apply List.ext_getElem (by rw [h.1, h'.1])
  intro j h1 h2
  have hj : j < l.length := by have := h.1; omega
  have a := h.2 j hj h1
  have b := h'.2 j hj h2
  unfold resP at a b
  by_cases h5 : opK l[j].1 = 5
  · rw [if_pos h5] at a b
    obtain ⟨k, hk, e1, e2⟩ := a
    obtain ⟨k', hk', e1', e2'⟩ := b
    have : k = k' := by
      rcases Nat.lt_trichotomy k k' with q | q | q
      · have := pls_rise l k k' hk hk' q; omega
      · exact q
      · have := pls_rise l k' k hk' hk q; omega
    subst this
    rw [e2, e2']
  · rw [if_neg h5] at a b
    rw [a, b]

/-- Whatever is decoded of what was encoded is what it was. -/
theorem dec_enc {l l' m : List Ins} (hE : encE l = 0) (h1 : Rdg (encTo l l.length) l' (encTo l l.length).length) (h2 : Ress (pls l') l' m) : m = l ∧ plcs l' = plcs l := by
  obtain ⟨g1, g2⟩ := enc_dec hE
  have e := h1.one g1
  subst e
  refine ⟨res_one h2 g2, ?_⟩
  unfold plcs
  rw [show (l.map (rf l)).length = l.length by simp]
  apply List.map_congr_left
  intro i hi
  have := List.mem_range.1 hi
  rw [rf_len l i (by omega)]

end Go.Proofs.YtpgkjfjooogfmaaDoor
