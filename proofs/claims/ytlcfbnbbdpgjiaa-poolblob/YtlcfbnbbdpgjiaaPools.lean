
/- The pool that a list of names or blobs makes, by definition; what put does for it. -/
import Derived.Test.YtlcfbnbbdpgjiaaRows
import Derived.Test.YtlcfbnbbdpgjiaaPut2
import Derived.Test.YtlcfbnbbdpgjiaaPack
import Derived.Test.YtlcfbnbbdpgjiaaWakes
namespace Go.Proofs.Ytlcfbnbbdpgjiaa
set_option linter.unusedVariables false
set_option linter.unusedSimpArgs false
open Go.RowKit Go.Maps

/-- A pool in the making: its bytes, what stands where, the places told so far. -/
structure PSt where
  B : List UInt8
  M : List UInt8 → Option Nat
  ats : List Nat

def atOf (p : PSt) (s : List UInt8) : Nat := (p.M s).getD p.B.length
def pstep (enc : List UInt8 → List UInt8) (p : PSt) (s : List UInt8) : PSt :=
  match p.M s with
  | some _ => ⟨p.B, p.M, p.ats ++ [atOf p s]⟩
  | none => ⟨p.B ++ enc s, upd p.M s p.B.length, p.ats ++ [atOf p s]⟩
def pst0 : PSt := ⟨[0], M0, []⟩
def pall (enc : List UInt8 → List UInt8) (l : List (List UInt8)) : PSt := l.foldl (pstep enc) pst0

theorem pall_nil (enc : List UInt8 → List UInt8) : pall enc [] = pst0 := rfl
theorem pall_snoc (enc : List UInt8 → List UInt8) (l : List (List UInt8)) (s : List UInt8) : pall enc (l ++ [s]) = pstep enc (pall enc l) s := by simp [pall]
theorem pall_succ (enc : List UInt8 → List UInt8) (l : List (List UInt8)) (k : Nat) (h : k < l.length) : pall enc (l.take (k + 1)) = pstep enc (pall enc (l.take k)) l[k] := by
  rw [List.take_succ_eq_append_getElem h, pall_snoc]
theorem pstep_ats (enc : List UInt8 → List UInt8) (p : PSt) (s : List UInt8) : (pstep enc p s).ats = p.ats ++ [atOf p s] := by unfold pstep; split <;> rfl
theorem pstep_B (enc : List UInt8 → List UInt8) (p : PSt) (s : List UInt8) : (pstep enc p s).B.length ≤ p.B.length + (enc s).length := by
  unfold pstep; split <;> simp
theorem pstep_grows (enc : List UInt8 → List UInt8) (p : PSt) (s : List UInt8) : p.B.length ≤ (pstep enc p s).B.length := by
  unfold pstep; split <;> simp

/-- What holds of every pool in the making. -/
structure Good (p : PSt) (l : List (List UInt8)) : Prop where
  len : p.ats.length = l.length
  pos : 1 ≤ p.B.length
  nil : p.M [] = some 0
  some : ∀ i (h : i < l.length) (g : i < p.ats.length), p.M l[i] = Option.some p.ats[i]
  only : ∀ s a, p.M s = Option.some a → s ≠ [] → s ∈ l ∧ 1 ≤ a ∧ a < p.B.length

theorem good0 : Good pst0 [] := by
  refine ⟨rfl, by simp [pst0], by simp [pst0, M0], fun i h => by simp at h, fun s a h hs => ?_⟩
  simp [pst0, M0, hs] at h

theorem Good.step {p : PSt} {l : List (List UInt8)} (h : Good p l) (enc : List UInt8 → List UInt8) (s : List UInt8) (he : s ≠ [] → 1 ≤ (enc s).length) : Good (pstep enc p s) (l ++ [s]) := by
  have hats := pstep_ats enc p s
  have hM : (pstep enc p s).M s = Option.some (atOf p s) := by
    unfold pstep atOf
    cases hm : p.M s with
    | some a => simp [hm]
    | none => simp [upd]
  have hold : ∀ x a, p.M x = Option.some a → (pstep enc p s).M x = Option.some a := by
    intro x a hx
    unfold pstep
    cases hm : p.M s with
    | some b => exact hx
    | none =>
      have : x ≠ s := by intro e; subst e; rw [hm] at hx; simp at hx
      simp [upd, this, hx]
  refine ⟨by rw [hats]; simp [h.len], Nat.le_trans h.pos (pstep_grows enc p s), hold _ _ h.nil, ?_, ?_⟩
  · intro i hi hg
    by_cases e : i < l.length
    · have g : i < p.ats.length := by rw [h.len]; exact e
      have h1 := hold _ _ (h.some i e g)
      simp only [List.getElem_append_left e, hats, List.getElem_append_left g]
      exact h1
    · have e' : i = l.length := by simp at hi; omega
      subst e'
      simp only [List.getElem_append_right (Nat.le_refl _), Nat.sub_self, List.getElem_singleton, hats]
      rw [List.getElem_append_right (by rw [h.len]; exact Nat.le_refl _)]
      simp only [h.len, Nat.sub_self, List.getElem_singleton]
      exact hM
  · intro x a hx hne
    unfold pstep at hx ⊢
    cases hm : p.M s with
    | some b =>
      simp only [hm] at hx ⊢
      obtain ⟨h1, h2, h3⟩ := h.only x a hx hne
      exact ⟨by simp [h1], h2, h3⟩
    | none =>
      simp only [hm, upd] at hx ⊢
      by_cases e : x = s
      · subst e
        simp only [if_true, Option.some.injEq] at hx
        subst hx
        have := he hne
        refine ⟨by simp, h.pos, by simp; omega⟩
      · simp only [if_neg e] at hx
        obtain ⟨h1, h2, h3⟩ := h.only x a hx hne
        refine ⟨by simp [h1], h2, by simp; omega⟩

theorem good_all (enc : List UInt8 → List UInt8) (he : ∀ s, s ≠ [] → 1 ≤ (enc s).length) (l : List (List UInt8)) : Good (pall enc l) l := by
  have : ∀ k, k ≤ l.length → Good (pall enc (l.take k)) (l.take k) := by
    intro k
    induction k with
    | zero => intro _; exact good0
    | succ k ih =>
      intro hk
      rw [pall_succ enc l k (by omega), List.take_succ_eq_append_getElem (show k < l.length by omega)]
      exact (ih (by omega)).step enc _ (he _)
  simpa using this l.length (Nat.le_refl _)

theorem pall_B (enc : List UInt8 → List UInt8) (l : List (List UInt8)) (c : Nat) (hc : ∀ s ∈ l, (enc s).length ≤ c) : ∀ k, k ≤ l.length → (pall enc (l.take k)).B.length ≤ 1 + k * c := by
  intro k
  induction k with
  | zero => intro _; simp [pall, pst0]
  | succ k ih =>
    intro hk
    rw [pall_succ enc l k (by omega)]
    have h1 := pstep_B enc (pall enc (l.take k)) l[k]
    have h2 := hc l[k] (List.getElem_mem _)
    have h3 := ih (by omega)
    have h4 : (k + 1) * c = k * c + c := Nat.succ_mul k c
    omega

/-- put, for the pool in the making. -/
theorem put_any {w : World} {base mb bm : Nat} {pv : Value} {p : PSt} (h : Mk w base mb bm pv p.B p.M) (s : ByteArray) (hn : p.M [] = some 0) (hz : s.size ≤ maxLen) (enc : List UInt8 → List UInt8) {va vb : Value} {ah be : List UInt8} (ha : Bs w va ah) (hb : Bs w vb be)
    (henc : enc s.data.toList = ah ++ s.data.toList ++ be) (hap : be = [] ∨ ∃ (kb : Nat) (C : Array Value) (fr : Nat × Nat), vb.ownBlock = some kb ∧ w.heap[kb]? = some (Obj.cells C 5 fr) ∧ pv.ownBlock ≠ some kb) (hfit : (pstep enc p s.data.toList).B.length ≤ 65536) :
    Calls Try.prog 24 #[.pointer (some ⟨mb, 0, none⟩), .string s, va, vb] w fun e w' => e = .returned (.tuple #[.int .i64 (atOf p s.data.toList : Int), .int .i64 0]) ∧
      (∃ pv', Mk w' base mb bm pv' (pstep enc p s.data.toList).B (pstep enc p s.data.toList).M) ∧ Below base w w' ∧ ∀ (k : Nat) C fr, w.heap[k]? = some (Obj.cells C 3 fr) → w'.heap[k]? = some (Obj.cells C 3 fr) := by
  cases hM : p.M s.data.toList with
  | some a =>
    refine (put_old h s hz a hM va vb).mono ?_
    rintro e w' ⟨rfl, rfl⟩
    refine ⟨by simp [atOf, hM], ⟨pv, ?_⟩, Below.refl _ _, fun _ _ _ h => h⟩
    simpa [pstep, hM] using h
  | none =>
    have hpos : 0 < s.size := by
      rcases Nat.eq_zero_or_pos s.size with e | e
      · have : s.data.toList = [] := List.eq_nil_of_length_eq_zero (by rw [toList_len]; exact e)
        rw [this, hn] at hM; simp at hM
      · exact e
    have hB : (pstep enc p s.data.toList).B = p.B ++ enc s.data.toList := by simp [pstep, hM]
    have hMM : (pstep enc p s.data.toList).M = upd p.M s.data.toList p.B.length := by simp [pstep, hM]
    rw [hB, henc] at hfit
    refine (put_new h s hM hpos ha hb hap (by simp only [List.length_append, toList_len] at hfit; omega)).mono ?_
    rintro e w' ⟨rfl, ⟨pv', hk⟩, h2, h3⟩
    refine ⟨by simp [atOf, hM], ⟨pv', ?_⟩, h2, h3⟩
    rw [hB, hMM, henc]
    simpa only [List.append_assoc] using hk

/-- The places told so far, in a row of so many. -/
def Pl (w : World) (pb n : Nat) (l : List Nat) : Prop := ∃ C : Array Value, w.heap[pb]? = some (Obj.cells C 3 (0, 0)) ∧ C.size = n ∧ l.length ≤ n ∧ C.toList.take l.length = i64s (l.map fun (a : Nat) => (a : Int))

theorem Pl.cells {w : World} {pb n : Nat} {l : List Nat} (h : Pl w pb n l) (k : Nat) (hk : k < n) : (∃ x, w.cell? ⟨pb, k, none⟩ = some x) ∧ w.frozen? ⟨pb, k, none⟩ = false := by
  obtain ⟨C, h1, h2, h3, h4⟩ := h
  refine ⟨⟨C[k], ?_⟩, ?_⟩
  · simp only [World.cell?, h1]; rw [Array.getElem?_eq_getElem (by omega)]; rfl
  · simp [World.frozen?, h1]

theorem Pl.kept {w w' : World} {pb n : Nat} {l : List Nat} (h : Pl w pb n l) (hi : ∀ (k : Nat) C fr, w.heap[k]? = some (Obj.cells C 3 fr) → w'.heap[k]? = some (Obj.cells C 3 fr)) : Pl w' pb n l := by
  obtain ⟨C, h1, r⟩ := h
  exact ⟨C, hi _ _ _ h1, r⟩
theorem Pl.later {w w' : World} {pb n : Nat} {l : List Nat} (h : Pl w pb n l) (hb : Below w.heap.size w w') : Pl w' pb n l :=
  h.kept fun k C fr hk => by rw [hb.block k (Array.getElem?_eq_some_iff.1 hk).1, hk]
theorem Pl.set {w : World} {pb n : Nat} {l : List Nat} (h : Pl w pb n l) (a : Nat) (hk : l.length < n) : Pl (w.setCell ⟨pb, l.length, none⟩ (.int .i64 (a : Int))) pb n (l ++ [a]) := by
  obtain ⟨C, h1, h2, h3, h4⟩ := h
  refine ⟨C.setIfInBounds l.length (.int .i64 (a : Int)), ?_, by simp [h2], by simp; omega, ?_⟩
  · rw [setCell_eq_setRow w pb _ _ _ _ _ h1, setRow_heap w pb _ _ _ _ h1]
  · have : (l ++ [a]).length = l.length + 1 := by simp
    rw [this]
    simp only [Array.toList_setIfInBounds, List.map_append, List.map_cons, List.map_nil]
    rw [List.take_succ_eq_append_getElem (by simp; omega), List.take_set_of_le (Nat.le_refl _), h4]
    simp [i64s]

theorem Pl.is {w : World} {pb n : Nat} {l : List Nat} (h : Pl w pb n l) (hl : l.length = n) (hm : n ≤ maxLen) : Is w (.slice (some ⟨pb, 0, none⟩) n n) (l.map fun (a : Nat) => (a : Int)) := by
  obtain ⟨C, h1, h2, h3, h4⟩ := h
  have hlen : (i64s (l.map fun (a : Nat) => (a : Int))).length = n := by rw [i64s_length]; simp [hl]
  refine ⟨_, n, by rw [hlen], by omega, hm, fun _ => ⟨pb, 0, rfl, (Array.getElem?_eq_some_iff.1 h1).1, fun i hi => ?_⟩⟩
  simp only [World.cell?, h1, Nat.zero_add]
  rw [hlen] at hi
  have hx : C.toList = i64s (l.map fun (a : Nat) => (a : Int)) := by rw [← h4, List.take_of_length_le (by simp; omega)]
  have : C.toList[i]? = some (i64s (l.map fun (a : Nat) => (a : Int)))[i] := by rw [hx]; exact List.getElem?_eq_getElem _
  simpa using this

theorem Pl.made (w : World) (n : Nat) (C : Array Value) (hC : C.size = n) : Pl (w.alloc (Obj.cells C 3)) w.heap.size n [] :=
  ⟨C, heap_alloc_new w _, hC, Nat.zero_le _, by simp [i64s]⟩

theorem Mk.setInt {w : World} {base mb bm pb n : Nat} {pv : Value} {B : List UInt8} {M : List UInt8 → Option Nat} {l : List Nat} (h : Mk w base mb bm pv B M) (hp : Pl w pb n l) (k : Nat) (x : Value) : Mk (w.setCell ⟨pb, k, none⟩ x) base mb bm pv B M := by
  obtain ⟨n', D, hn, ht, p⟩ := h.ps
  obtain ⟨C, h1, _⟩ := hp
  have hsz : (w.setCell ⟨pb, k, none⟩ x).heap.size = w.heap.size := by simp [World.setCell]
  have hother : ∀ (j : Nat) C t fr, w.heap[j]? = some (Obj.cells C t fr) → t ≠ 3 → (w.setCell ⟨pb, k, none⟩ x).heap[j]? = w.heap[j]? := by
    intro j C' t fr hj ht
    refine Below.heap_setCell _ _ _ _ fun e => ?_
    have e' : j = pb := e
    rw [e', h1] at hj
    simp only [Option.some.injEq, Obj.cells.injEq] at hj
    exact ht hj.2.1.symm
  refine ⟨n', D, hn, ht, ⟨by rw [hother mb _ _ _ p.blk (by decide)]; exact p.blk, p.own.of_block fun j hj _ => ?_, ?_, Below.refl _ _, fun _ _ _ h => h, Bs.nil _, .inl rfl, p.mlo, p.blo, by rw [hsz]; exact p.top⟩⟩
  · obtain ⟨C', hC'⟩ := p.own.typed j hj
    exact hother j C' _ _ hC' (by decide)
  · refine p.map.setCell ?_ x
    intro e
    have e' : bm = pb := e
    obtain ⟨es, ck, hb, _⟩ := p.map
    rw [e', h1] at hb; simp at hb

theorem pool_step {w w2 : World} {base mb bm pb n j : Nat} {pv : Value} {p p' : PSt} {enc : List UInt8 → List UInt8} {s : List UInt8} (hm : Mk w2 base mb bm pv (pstep enc p s).B (pstep enc p s).M) (hp : Pl w2 pb n p.ats) (hb : Below base w w2)
    (hl : p.ats.length = j) (hj : j < n) (hpb : base ≤ pb) (he : p' = pstep enc p s) :
    Mk (w2.setCell ⟨pb, j, none⟩ (.int .i64 (atOf p s : Int))) base mb bm pv p'.B p'.M ∧ Pl (w2.setCell ⟨pb, j, none⟩ (.int .i64 (atOf p s : Int))) pb n p'.ats ∧ Below base w (w2.setCell ⟨pb, j, none⟩ (.int .i64 (atOf p s : Int))) := by
  subst he hl
  refine ⟨hm.setInt hp _ _, ?_, hb.trans ⟨rfl, rfl, rfl, by simp [World.setCell], fun k hk => Below.heap_setCell _ _ _ _ (by show k ≠ pb; omega)⟩⟩
  rw [pstep_ats]
  exact hp.set _ hj

theorem Mk.pvlt {w : World} {base mb bm : Nat} {pv : Value} {B : List UInt8} {M : List UInt8 → Option Nat} (h : Mk w base mb bm pv B M) : ∀ k, pv.ownBlock = some k → k < w.heap.size := by
  obtain ⟨n', D, hn, ht, p⟩ := h.ps
  exact fun k hk => (p.own.block k hk).2
theorem Mk.bs {w : World} {base mb bm : Nat} {pv : Value} {B : List UInt8} {M : List UInt8 → Option Nat} (h : Mk w base mb bm pv B M) : Bs w pv B ∧ w.cell? ⟨mb, 0, none⟩ = some pv := by
  obtain ⟨n', D, hn, ht, p⟩ := h.ps
  exact ⟨p.own.own.bs, p.cells.1⟩

end Go.Proofs.Ytlcfbnbbdpgjiaa
