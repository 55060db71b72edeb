
/- What is put into a pool is found at its place: the plain fact. -/
import Derived.Test.YtlcfbnbbdpgjiaaRows
import Derived.Test.YtlcfbnbbdpgjiaaPoolNamesW
import Derived.Test.YtlcfbnbbdpgjiaaPoolBlobsW
import Derived.Test.YtlcfbnbbdpgjiaaPoolNameW
import Derived.Test.YtlcfbnbbdpgjiaaBlob
namespace Go.Proofs.Ytlcfbnbbdpgjiaa
set_option linter.unusedVariables false
set_option linter.unusedSimpArgs false
open Go.RowKit Go.Maps

/-- All that was put stands where the pool says. -/
def Found (enc : List UInt8 → List UInt8) (p : PSt) : Prop :=
  ∀ s a, p.M s = some a → (s ≠ [] ∨ enc [] = [0]) → ∃ pre post, p.B = pre ++ (enc s ++ post) ∧ pre.length = a

theorem found0 (enc : List UInt8 → List UInt8) : Found enc pst0 := by
  intro s a h hs
  by_cases e : s = []
  · subst e
    have ha : a = 0 := by simp [pst0, M0] at h; omega
    rcases hs with hs | hs
    · exact absurd rfl hs
    · exact ⟨[], [], by rw [hs]; rfl, by rw [ha]; rfl⟩
  · simp [pst0, M0, e] at h

theorem Found.step {enc : List UInt8 → List UInt8} {p : PSt} (h : Found enc p) (s : List UInt8) : Found enc (pstep enc p s) := by
  intro x a hx hs
  unfold pstep at hx ⊢
  cases hm : p.M s with
  | some b => simp only [hm] at hx ⊢; exact h x a hx hs
  | none =>
    simp only [hm, upd] at hx ⊢
    by_cases e : x = s
    · subst e
      simp only [if_true, Option.some.injEq] at hx
      exact ⟨p.B, [], by simp, hx⟩
    · simp only [if_neg e] at hx
      obtain ⟨pre, post, h1, h2⟩ := h x a hx hs
      exact ⟨pre, post ++ enc s, by rw [h1]; simp, h2⟩

theorem found_all (enc : List UInt8 → List UInt8) (l : List (List UInt8)) : Found enc (pall enc l) := by
  have : ∀ k, k ≤ l.length → Found enc (pall enc (l.take k)) := by
    intro k
    induction k with
    | zero => intro _; exact found0 enc
    | succ k ih =>
      intro hk
      rw [pall_succ enc l k (by omega)]
      exact (ih (by omega)).step _
  simpa using this l.length (Nat.le_refl _)

theorem tw_stops : ∀ (s post : List UInt8), (∀ b ∈ s, b ≠ 0) → tw (s ++ (0 :: post)) = s
  | [], post, _ => by simp [tw]
  | b :: s, post, h => by
    have hb : b ≠ 0 := h b (by simp)
    have := tw_stops s post (fun x hx => h x (by simp [hx]))
    simp only [tw] at this ⊢
    simp [hb, this]

theorem fine_nz {s : List UInt8} (h : fineB s = true) : (∀ b ∈ s, b ≠ 0) ∧ 1 ≤ s.length := by
  simp only [fineB, Bool.and_eq_true, decide_eq_true_eq] at h
  refine ⟨fun b hb e => ?_, h.1.1⟩
  have := List.all_eq_true.1 h.2 b hb
  subst e
  simp [okB] at this

theorem name_found {B pre post s : List UInt8} (hB : B = pre ++ (encN s ++ post)) (hf : fineB s = true) (hp : 1 ≤ pre.length) : nmS B (pre.length : Int) = s ∧ nmE B (pre.length : Int) = 0 := by
  obtain ⟨hnz, hpos⟩ := fine_nz hf
  have hlen : B.length = pre.length + (s.length + 1 + post.length) := by rw [hB]; simp [encN]; omega
  have hout : ¬ ((pre.length : Int) < 1 ∨ (B.length : Int) ≤ (pre.length : Int)) := by omega
  have hd : B.drop pre.length = s ++ (0 :: post) := by rw [hB, List.drop_left]; simp [encN]
  have ht : tw (B.drop pre.length) = s := by rw [hd]; exact tw_stops s post hnz
  have hne : ¬ s.length = (B.drop pre.length).length := by rw [hd]; simp
  unfold nmS nmE
  rw [if_neg hout, if_neg hout, Int.toNat_natCast]
  unfold nameS nameE
  rw [ht, if_pos hf, if_neg hne, if_neg hne, if_pos hf]
  exact ⟨rfl, rfl⟩

theorem blob_found {B pre post s : List UInt8} (hB : B = pre ++ (encB s ++ post)) (hs : s.length ≤ 300) : blS B (pre.length : Int) = s ∧ blE B (pre.length : Int) = 0 := by
  have hk := pkL_le s.length
  have hu : unp B pre.length = (s.length, (pkL s.length).length, 0) := by
    rw [hB]
    have := unp_pk s.length (by omega) pre (s ++ post)
    rw [← this]; simp [encB]
  have hlen : B.length = pre.length + ((pkL s.length).length + s.length + post.length) := by rw [hB]; simp [encB]; omega
  have hout : ¬ ((pre.length : Int) < 0 ∨ (B.length : Int) ≤ (pre.length : Int)) := by omega
  unfold blS blE
  rw [if_neg hout, if_neg hout, Int.toNat_natCast]
  unfold blobS blobE
  rw [hu]
  simp only
  rw [if_pos trivial, if_pos trivial, if_neg (by omega), if_neg (by omega)]
  refine ⟨?_, rfl⟩
  unfold seg
  rw [hB]
  have h1 : pre ++ (encB s ++ post) = (pre ++ pkL s.length) ++ (s ++ post) := by simp [encB]
  rw [h1, show pre.length + (pkL s.length).length = (pre ++ pkL s.length).length by simp, List.drop_left, List.take_left]

/-- The names' pool, at the place of each. -/
theorem names_back (l : List (List UInt8)) (hall : l.all fineB = true) (i : Nat) (h : i < l.length) (g : i < (pall encN l).ats.length) :
    nmS (pall encN l).B ((pall encN l).ats[i] : Int) = l[i] ∧ nmE (pall encN l).B ((pall encN l).ats[i] : Int) = 0 := by
  have hg := good_all encN (fun s _ => by simp [encN]) l
  have hm := hg.some i h g
  have hf : fineB l[i] = true := List.all_eq_true.1 hall _ (List.getElem_mem _)
  have hne : l[i] ≠ [] := by intro e; rw [e] at hf; simp [fineB] at hf
  obtain ⟨pre, post, h1, h2⟩ := found_all encN l l[i] _ hm (.inl hne)
  obtain ⟨_, h3, _⟩ := hg.only _ _ hm hne
  rw [← h2]
  exact name_found h1 hf (by omega)

theorem blobs_back (l : List (List UInt8)) (hz : ∀ s ∈ l, s.length ≤ 300) (i : Nat) (h : i < l.length) (g : i < (pall encB l).ats.length) :
    blS (pall encB l).B ((pall encB l).ats[i] : Int) = l[i] ∧ blE (pall encB l).B ((pall encB l).ats[i] : Int) = 0 := by
  have hg := good_all encB (fun s _ => by have := (pkL_le s.length).1; simp [encB]; omega) l
  have hm := hg.some i h g
  obtain ⟨pre, post, h1, h2⟩ := found_all encB l l[i] _ hm (.inr (by simp [encB, pkL]))
  rw [← h2]
  exact blob_found h1 (hz _ (List.getElem_mem _))

end Go.Proofs.Ytlcfbnbbdpgjiaa
