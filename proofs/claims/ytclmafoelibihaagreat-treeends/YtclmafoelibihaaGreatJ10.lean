/- Texts joined: StreamSpec. -/
import Derived.Test.YtclmafoelibihaaGreatJ09
/- Layer 3 by definition, on lists of bytes: how an image is parted and joined, and that what is joined is parted to what it was. No program is named here. -/
namespace Go.Proofs.YtclmafoelibihaaGreat
set_option linter.unusedVariables false
set_option linter.unusedSimpArgs false
open Go.RowKit

/-- Four streams. -/
structure Strm where
  r : List UInt8
  n : List UInt8
  b : List UInt8
  c : List UInt8

def Strm.nil : Strm := ⟨[], [], [], []⟩
def Strm.part (s : Strm) : Nat → List UInt8
  | 0 => s.r
  | 1 => s.n
  | 2 => s.b
  | _ => s.c
def Strm.put (s : Strm) (k : Nat) (x : List UInt8) : Strm :=
  match k with
  | 0 => ⟨x, s.n, s.b, s.c⟩
  | 1 => ⟨s.r, x, s.b, s.c⟩
  | 2 => ⟨s.r, s.n, x, s.c⟩
  | _ => ⟨s.r, s.n, s.b, x⟩
def tagB : Nat → List UInt8
  | 0 => [82, 79, 87, 83]
  | 1 => [78, 65, 77, 69]
  | 2 => [66, 76, 79, 66]
  | _ => [67, 79, 68, 69]
theorem tagB_length (k : Nat) : (tagB k).length = 4 := by
  match k with
  | 0 => rfl
  | 1 => rfl
  | 2 => rfl
  | _ + 3 => rfl
def magic : List UInt8 := [67, 71, 82, 68]
def numAt (bs : List UInt8) (at_ n : Nat) : Nat := leN (seg bs at_ n)

def ePlace (i : Nat) : Nat := 8 + 12 * i
def eAt (bs : List UInt8) (i : Nat) : Nat := numAt bs (ePlace i) 4
def eLen (bs : List UInt8) (i : Nat) : Nat := numAt bs (ePlace i + 4) 4
def eTag (bs : List UInt8) (i : Nat) : List UInt8 := seg bs (ePlace i + 8) 4

/-- What the entries so far have told: the streams, which tags were there, where the streams lie. -/
structure SSt where
  s : Strm
  met : List Nat
  ivs : List (Nat × Nat)
def sst0 : SSt := ⟨Strm.nil, [], []⟩

def tagOf (met : List Nat) (t : List UInt8) : Option Nat := [0, 1, 2, 3].find? fun j => decide (tagB j = t) && !met.contains j
def shares (ivs : List (Nat × Nat)) (at_ n : Nat) : Bool := ivs.any fun p => decide (max p.1 at_ < min (p.1 + p.2) (at_ + n))

/-- One entry: its error, or what is told behind it. -/
def entry (bs : List UInt8) (i : Nat) (st : SSt) : Nat ⊕ SSt :=
  match tagOf st.met (eTag bs i) with
  | none => .inl 2
  | some k => if eAt bs i < 56 ∨ eAt bs i % 4 ≠ 0 then .inl 3 else if bs.length < eAt bs i + eLen bs i then .inl 1 else if shares st.ivs (eAt bs i) (eLen bs i) = true then .inl 2
    else .inr ⟨st.s.put k (seg bs (eAt bs i) (eLen bs i)), st.met ++ [k], st.ivs ++ [(eAt bs i, eLen bs i)]⟩

/-- The first i entries: what they tell, or the first fault: its place, its error. -/
def runE (bs : List UInt8) : Nat → SSt ⊕ (Nat × Nat)
  | 0 => .inl sst0
  | i + 1 =>
    match runE bs i with
    | .inr e => .inr e
    | .inl st =>
      match entry bs i st with
      | .inl e => .inr (ePlace i, e)
      | .inr st' => .inl st'

/-- An image parted: the streams, the place, the error. -/
def splitR (bs : List UInt8) : Strm × Nat × Nat :=
  if 65536 < bs.length then (Strm.nil, 0, 4) else if bs.length < 56 then (Strm.nil, bs.length, 1) else if seg bs 0 4 ≠ magic then (Strm.nil, 0, 2)
  else if numAt bs 4 2 ≠ 1 then (Strm.nil, 4, 2) else if numAt bs 6 2 ≠ 4 then (Strm.nil, 6, 2)
  else match runE bs 4 with
    | .inl st => (st.s, 0, 0)
    | .inr e => (Strm.nil, e.1, e.2)

/-! ### joined -/
def up4 (x : Nat) : Nat := (x + 3) / 4 * 4
def plc (s : Strm) : Nat → Nat
  | 0 => 56
  | k + 1 => up4 (plc s k + (s.part k).length)
def pad (l : List UInt8) : List UInt8 := l ++ List.replicate (up4 l.length - l.length) 0
def bodyTo (s : Strm) : Nat → List UInt8
  | 0 => []
  | k + 1 => pad (bodyTo s k) ++ s.part k
def headTo (s : Strm) : Nat → List UInt8
  | 0 => magic ++ [1, 0, 4, 0]
  | k + 1 => headTo s k ++ (leL (plc s k) 4 ++ (leL (s.part k).length 4 ++ tagB k))
def joinB (s : Strm) : List UInt8 := headTo s 4 ++ bodyTo s 4
def joinR (s : Strm) : List UInt8 × Nat :=
  if 65536 < (s.part 0).length ∨ 65536 < (s.part 1).length ∨ 65536 < (s.part 2).length ∨ 65536 < (s.part 3).length then ([], 4) else if 65536 < (joinB s).length then ([], 4) else (joinB s, 0)

theorem up4_le (x : Nat) : x ≤ up4 x ∧ up4 x ≤ x + 3 ∧ up4 x % 4 = 0 := by unfold up4; omega
theorem up4_same {x : Nat} (h : x % 4 = 0) : up4 x = x := by unfold up4; omega
theorem pad_length (l : List UInt8) : (pad l).length = up4 l.length := by have := up4_le l.length; simp [pad]; omega
theorem plc_mod (s : Strm) (k : Nat) : plc s k % 4 = 0 := by
  cases k with
  | zero => simp [plc]
  | succ k => exact (up4_le _).2.2
theorem body_length (s : Strm) : ∀ k, 56 + (pad (bodyTo s k)).length = plc s k
  | 0 => by simp [bodyTo, pad, plc, up4]
  | k + 1 => by
    have ih := body_length s k
    have hm := plc_mod s k
    rw [pad_length]
    simp only [bodyTo, List.length_append, plc]
    rw [pad_length] at ih ⊢
    unfold up4 at *
    omega
theorem head_length (s : Strm) : ∀ k, (headTo s k).length = 8 + 12 * k
  | 0 => rfl
  | k + 1 => by
    have ih := head_length s k
    simp only [headTo, List.length_append, leL_length, tagB_length, ih]
    omega
theorem bodyTo_length (s : Strm) (k : Nat) : 56 + (bodyTo s (k + 1)).length = plc s k + (s.part k).length := by
  have := body_length s k
  simp only [bodyTo, List.length_append]; omega
theorem join_length (s : Strm) : (joinB s).length = plc s 3 + (s.part 3).length := by
  have := bodyTo_length s 3
  simp only [joinB, List.length_append, head_length]
  omega
theorem plc_step (s : Strm) (k : Nat) : plc s k + (s.part k).length ≤ plc s (k + 1) ∧ plc s (k + 1) ≤ plc s k + (s.part k).length + 3 := by
  have := up4_le (plc s k + (s.part k).length)
  exact ⟨this.1, this.2.1⟩

/-! ### pieces of lists -/
theorem seg_mid (a b c : List UInt8) (p n : Nat) (hp : p = a.length) (hn : n = b.length) : seg (a ++ (b ++ c)) p n = b := by
  subst hp hn
  unfold seg; rw [List.drop_left, List.take_left]
theorem seg_take (bs : List UInt8) (at_ n m : Nat) (h : at_ + n ≤ m) : seg (bs.take m) at_ n = seg bs at_ n := by
  unfold seg
  rw [List.drop_take, List.take_take]
  congr 1
  omega
theorem seg_pre (a c : List UInt8) (at_ n : Nat) (h : at_ + n ≤ a.length) : seg (a ++ c) at_ n = seg a at_ n := by
  have := seg_take (a ++ c) at_ n a.length h
  rw [List.take_left] at this
  exact this.symm

/-- The head tells its entries. -/
theorem head_entry (s : Strm) (k : Nat) (i : Nat) (h : i < k) : ∃ c, headTo s k = headTo s i ++ ((leL (plc s i) 4 ++ (leL (s.part i).length 4 ++ tagB i)) ++ c) := by
  induction k with
  | zero => omega
  | succ k ih =>
    by_cases e : i = k
    · subst e; exact ⟨[], by simp [headTo]⟩
    · obtain ⟨c, hc⟩ := ih (by omega)
      exact ⟨c ++ (leL (plc s k) 4 ++ (leL (s.part k).length 4 ++ tagB k)), by simp only [headTo]; rw [hc]; simp⟩

/-- The image begins with the head of these streams. -/
structure Headed (s : Strm) (bs : List UInt8) : Prop where
  hd : bs.take 56 = headTo s 4
  small : ∀ k, k < 4 → plc s k < 4294967296 ∧ (s.part k).length < 4294967296

theorem Headed.split {s : Strm} {bs : List UInt8} (h : Headed s bs) : ∃ c, bs = headTo s 4 ++ c := ⟨bs.drop 56, by rw [← h.hd, List.take_append_drop]⟩

theorem leN_at {a b c : List UInt8} {x n p : Nat} {bs : List UInt8} (hbs : bs = a ++ (b ++ c)) (hb : b = leL x n) (hp : p = a.length) (hx : x < 256 ^ n) : numAt bs p n = x := by
  unfold numAt
  rw [hbs, seg_mid a b c p n hp (by rw [hb, leL_length]), hb, leN_leL, Nat.mod_eq_of_lt hx]

theorem Headed.entries {s : Strm} {bs : List UInt8} (h : Headed s bs) (i : Nat) (hi : i < 4) : eAt bs i = plc s i ∧ eLen bs i = (s.part i).length ∧ eTag bs i = tagB i := by
  obtain ⟨c, hc⟩ := h.split
  obtain ⟨c', hc'⟩ := head_entry s 4 i hi
  obtain ⟨h1, h2⟩ := h.small i hi
  have hl := head_length s i
  have e1 : bs = headTo s i ++ (leL (plc s i) 4 ++ (leL (s.part i).length 4 ++ (tagB i ++ (c' ++ c)))) := by rw [hc, hc']; simp
  have e2 : bs = (headTo s i ++ leL (plc s i) 4) ++ (leL (s.part i).length 4 ++ (tagB i ++ (c' ++ c))) := by rw [e1]; simp
  have e3 : bs = (headTo s i ++ leL (plc s i) 4 ++ leL (s.part i).length 4) ++ (tagB i ++ (c' ++ c)) := by rw [e1]; simp
  refine ⟨leN_at e1 rfl (by rw [hl]; rfl) (by omega), leN_at e2 rfl (by simp [hl, leL_length, ePlace]) (by omega), ?_⟩
  unfold eTag
  rw [e3]
  exact seg_mid _ _ _ _ _ (by simp [hl, leL_length, ePlace]) (tagB_length i).symm

theorem Headed.front {s : Strm} {bs : List UInt8} (h : Headed s bs) : seg bs 0 4 = magic ∧ numAt bs 4 2 = 1 ∧ numAt bs 6 2 = 4 := by
  obtain ⟨c, hc⟩ := h.split
  obtain ⟨c', hc'⟩ := head_entry s 4 0 (by omega)
  have e : bs = magic ++ ([1, 0] ++ ([4, 0] ++ ((leL (plc s 0) 4 ++ (leL (s.part 0).length 4 ++ tagB 0)) ++ c' ++ c))) := by
    rw [hc, hc']; simp [headTo]
  have e1 : bs = [] ++ (magic ++ ([1, 0] ++ ([4, 0] ++ ((leL (plc s 0) 4 ++ (leL (s.part 0).length 4 ++ tagB 0)) ++ c' ++ c)))) := by rw [e]; rfl
  have e2 : bs = (magic ++ [1, 0]) ++ ([4, 0] ++ ((leL (plc s 0) 4 ++ (leL (s.part 0).length 4 ++ tagB 0)) ++ c' ++ c)) := by rw [e]; simp
  refine ⟨?_, ?_, ?_⟩
  · rw [e1]; exact seg_mid [] magic _ 0 4 rfl rfl
  · unfold numAt; rw [e, seg_mid magic [1, 0] _ 4 2 rfl rfl]; rfl
  · unfold numAt; rw [e2, seg_mid (magic ++ [1, 0]) [4, 0] _ 6 2 rfl rfl]; rfl

/-- What the entries tell of an image that was joined. -/
def est (s : Strm) : Nat → SSt
  | 0 => sst0
  | k + 1 => ⟨(est s k).s.put k (s.part k), (est s k).met ++ [k], (est s k).ivs ++ [(plc s k, (s.part k).length)]⟩

theorem est_tag (s : Strm) (k : Nat) (h : k < 4) : tagOf (est s k).met (tagB k) = some k := by
  match k, h with
  | 0, _ => rfl
  | 1, _ => rfl
  | 2, _ => rfl
  | 3, _ => rfl
theorem est_ivs (s : Strm) : ∀ k, ∀ p ∈ (est s k).ivs, p.1 + p.2 ≤ plc s k
  | 0 => by intro p hp; simp [est, sst0] at hp
  | k + 1 => by
    intro p hp
    have h1 := plc_step s k
    simp only [est, List.mem_append, List.mem_singleton] at hp
    rcases hp with hp | rfl
    · have := est_ivs s k p hp; omega
    · exact h1.1
theorem est_apart (s : Strm) (k n : Nat) : shares (est s k).ivs (plc s k) n = false := by
  unfold shares
  rw [List.any_eq_false]
  intro p hp
  have := est_ivs s k p hp
  simp only [decide_eq_true_eq]
  omega

theorem plc_ge (s : Strm) : ∀ k, 56 ≤ plc s k
  | 0 => Nat.le_refl _
  | k + 1 => by have := plc_ge s k; have := (plc_step s k).1; omega

/-- As far as the streams lie within the image, the entries tell them. -/
theorem run_ok {s : Strm} {bs : List UInt8} (h : Headed s bs) : ∀ k, k ≤ 4 → (∀ i, i < k → plc s i + (s.part i).length ≤ bs.length ∧ seg bs (plc s i) (s.part i).length = s.part i) → runE bs k = .inl (est s k)
  | 0, _, _ => rfl
  | k + 1, hk, hw => by
    have ih := run_ok h k (by omega) (fun i hi => hw i (by omega))
    obtain ⟨h1, h2⟩ := hw k (by omega)
    obtain ⟨e1, e2, e3⟩ := h.entries k (by omega)
    have hg := plc_ge s k
    have hm := plc_mod s k
    have hen : entry bs k (est s k) = .inr (est s (k + 1)) := by
      unfold entry
      rw [e3, est_tag s k (by omega), e1, e2]
      simp only
      rw [if_neg (by omega), if_neg (by omega), est_apart, h2]
      rfl
    unfold runE
    rw [ih]
    simp only
    rw [hen]

theorem est_all (s : Strm) : (est s 4).s = s := rfl

theorem split_headed {s : Strm} {bs : List UInt8} (h : Headed s bs) (h1 : 56 ≤ bs.length) (h2 : bs.length ≤ 65536) : splitR bs = match runE bs 4 with
    | .inl st => (st.s, 0, 0)
    | .inr e => (Strm.nil, e.1, e.2) := by
  obtain ⟨f1, f2, f3⟩ := h.front
  unfold splitR
  rw [if_neg (by omega), if_neg (by omega), if_neg (by rw [f1]; simp), if_neg (by rw [f2]; simp), if_neg (by rw [f3]; simp)]

/-- An image that begins with the head of these streams, and in which they lie, is parted into them, whatever else it holds. -/
theorem split_ok {s : Strm} {bs : List UInt8} (h : Headed s bs) (h2 : bs.length ≤ 65536) (hw : ∀ i, i < 4 → plc s i + (s.part i).length ≤ bs.length ∧ seg bs (plc s i) (s.part i).length = s.part i) : splitR bs = (s, 0, 0) := by
  have h0 := hw 0 (by omega)
  have : plc s 0 = 56 := rfl
  rw [split_headed h (by omega) h2, run_ok h 4 (Nat.le_refl _) hw]
  simp only [est_all]

theorem run_err {bs : List UInt8} {k m : Nat} {e : Nat × Nat} (h : runE bs k = .inr e) (hm : k ≤ m) : runE bs m = .inr e := by
  induction m with
  | zero => have : k = 0 := by omega
            subst this; exact h
  | succ m ih =>
    by_cases hk : k = m + 1
    · subst hk; exact h
    · unfold runE
      rw [ih (by omega)]

/-- A stream that isn't within the image. -/
theorem run_short {s : Strm} {bs : List UInt8} (h : Headed s bs) (k : Nat) (hk : k < 4) (hw : ∀ i, i < k → plc s i + (s.part i).length ≤ bs.length ∧ seg bs (plc s i) (s.part i).length = s.part i) (ho : bs.length < plc s k + (s.part k).length) : runE bs 4 = .inr (ePlace k, 1) := by
  have ih := run_ok h k (by omega) hw
  obtain ⟨e1, e2, e3⟩ := h.entries k hk
  have hg := plc_ge s k
  have hm := plc_mod s k
  refine run_err (k := k + 1) ?_ (by omega)
  have hen : entry bs k (est s k) = .inl 1 := by
    unfold entry
    rw [e3, est_tag s k hk, e1, e2]
    simp only
    rw [if_neg (by omega), if_pos ho]
  unfold runE
  rw [ih]
  simp only
  rw [hen]

/-! ### what is joined -/
theorem body_part (s : Strm) : ∀ m k, k < m → ∃ a c, bodyTo s m = a ++ (s.part k ++ c) ∧ 56 + a.length = plc s k
  | 0, k, h => by omega
  | m + 1, k, h => by
    by_cases e : k = m
    · subst e
      exact ⟨pad (bodyTo s k), [], by simp [bodyTo], body_length s k⟩
    · obtain ⟨a, c, h1, h2⟩ := body_part s m k (by omega)
      exact ⟨a, c ++ (List.replicate (up4 (bodyTo s m).length - (bodyTo s m).length) 0 ++ s.part m), by simp only [bodyTo, pad]; rw [h1]; simp, h2⟩

theorem join_part (s : Strm) (k : Nat) (h : k < 4) : ∃ a c, joinB s = a ++ (s.part k ++ c) ∧ a.length = plc s k := by
  obtain ⟨a, c, h1, h2⟩ := body_part s 4 k h
  exact ⟨headTo s 4 ++ a, c, by unfold joinB; rw [h1]; simp, by simp [head_length]; omega⟩

theorem join_take (s : Strm) : (joinB s).take 56 = headTo s 4 := by
  have := head_length s 4
  unfold joinB
  exact List.take_left' (by omega)

/-- Streams whose image is no longer than an image may be. -/
structure Room (s : Strm) : Prop where
  le : (joinB s).length ≤ 65536

theorem Room.small {s : Strm} (h : Room s) : ∀ k, k < 4 → plc s k < 4294967296 ∧ (s.part k).length < 4294967296 := by
  intro k hk
  obtain ⟨a, c, h1, h2⟩ := join_part s k hk
  have := h.le
  rw [h1] at this
  simp at this
  omega

theorem join_headed {s : Strm} (h : Room s) : Headed s (joinB s) := ⟨join_take s, h.small⟩

/-- There and back. -/
theorem split_join {s : Strm} (h : Room s) : splitR (joinB s) = (s, 0, 0) := by
  refine split_ok (join_headed h) h.le fun i hi => ?_
  obtain ⟨a, c, h1, h2⟩ := join_part s i hi
  rw [h1]
  refine ⟨by simp; omega, seg_mid a _ c _ _ h2.symm rfl⟩

/-- An image that is cut off. -/
theorem split_cut {s : Strm} (h : Room s) (k : Nat) (hk : k < (joinB s).length) : (splitR ((joinB s).take k)).2.2 = 1 := by
  have hle := h.le
  have hl : ((joinB s).take k).length = k := by simp; omega
  by_cases h56 : k < 56
  · unfold splitR
    rw [if_neg (by omega), if_pos (by omega)]
  · have hh : Headed s ((joinB s).take k) := ⟨by rw [List.take_take, Nat.min_eq_left (by omega)]; exact join_take s, h.small⟩
    have hseg : ∀ i, i < 4 → plc s i + (s.part i).length ≤ k → seg ((joinB s).take k) (plc s i) (s.part i).length = s.part i := by
      intro i hi hik
      rw [seg_take _ _ _ _ hik]
      obtain ⟨a, c, h1, h2⟩ := join_part s i hi
      rw [h1]; exact seg_mid a _ c _ _ h2.symm rfl
    have hfin : ∀ j, j < 4 → (∀ i, i < j → plc s i + (s.part i).length ≤ k) → k < plc s j + (s.part j).length → (splitR ((joinB s).take k)).2.2 = 1 := by
      intro j hj hi ho
      rw [split_headed hh (by omega) (by omega), run_short hh j hj (fun i hij => ⟨by rw [hl]; exact hi i hij, hseg i (by omega) (hi i hij)⟩) (by rw [hl]; exact ho)]
    have hlast := join_length s
    have s0 := plc_step s 0
    have s1 := plc_step s 1
    have s2 := plc_step s 2
    by_cases c0 : plc s 0 + (s.part 0).length ≤ k
    · by_cases c1 : plc s 1 + (s.part 1).length ≤ k
      · by_cases c2 : plc s 2 + (s.part 2).length ≤ k
        · exact hfin 3 (by omega) (fun i hi => by
            match i, hi with
            | 0, _ => exact c0
            | 1, _ => exact c1
            | 2, _ => exact c2) (by omega)
        · exact hfin 2 (by omega) (fun i hi => by
            match i, hi with
            | 0, _ => exact c0
            | 1, _ => exact c1) (by omega)
      · exact hfin 1 (by omega) (fun i hi => by
          match i, hi with
          | 0, _ => exact c0) (by omega)
    · exact hfin 0 (by omega) (fun i hi => by omega) (by omega)

/-- An image some of whose bytes, in no stream and not in the head, are others. -/
theorem split_gaps {s : Strm} (h : Room s) (bs : List UInt8) (hl : (joinB s).length ≤ bs.length) (hb : bs.length ≤ 65536) (h56 : bs.take 56 = (joinB s).take 56)
    (hs : ∀ i, i < 4 → seg bs (plc s i) (s.part i).length = seg (joinB s) (plc s i) (s.part i).length) : splitR bs = (s, 0, 0) := by
  refine split_ok ⟨by rw [h56]; exact join_take s, h.small⟩ hb fun i hi => ?_
  obtain ⟨a, c, h1, h2⟩ := join_part s i hi
  have hlen : plc s i + (s.part i).length ≤ (joinB s).length := by rw [h1]; simp; omega
  refine ⟨by omega, ?_⟩
  rw [hs i hi, h1]
  exact seg_mid a _ c _ _ h2.symm rfl

end Go.Proofs.YtclmafoelibihaaGreat
