/- Texts joined: TreeMath, Sort11, Faces11. -/
import Derived.Test.YthpmpdpfnlecmaaGreatK10
import Derived.Shelf.Sort.Plain
import Derived.Shelf.Slices.In.SortNone
import Derived.Test.YthpmpdpfnlecmaaGreatRows
import Derived.Test.YthpmpdpfnlecmaaGreatK13
import Derived.Sort.OwnSortedInts
namespace Go.Proofs.YthpmpdpfnlecmaaGreat
set_option linter.unusedVariables false
set_option linter.unusedSimpArgs false
open Go.RowKit
theorem wrgL_ok (g : Img) : ∀ (k i : Nat), (wrgL g k i).2 = 0 → ∀ j, i ≤ j → j < i + k → errT g j = 0
 | 0, i, _, j, h1, h2 => by omega
 | k + 1, i, h, j, h1, h2 => by
  unfold wrgL at h
  by_cases he : errT g i = 0
  ·rw [if_pos he] at h
   by_cases hij : j = i
   ·subst hij; exact he
   ·exact wrgL_ok g k (i + 1) h j (by omega) (by omega)
  ·rw [if_neg he] at h; exact absurd h he
theorem wel_all {g : Img} (h : welB g = true) : imB g = true ∧ ∀ t, numB t g.ts.length = true → flgF (flI g t) (exI g t) = true ∧ extB g t = true ∧ facB g t = true ∧ nmdB g t = true ∧ szdB g t = true := by
 unfold welB chkI at h
 rw [decide_eq_true_iff] at h
 by_cases hi : imB g = true
 ·rw [if_pos hi] at h
  refine ⟨hi, fun t ht => ?_⟩
  have ht' := numB_iff.1 ht
  have := wrgL_ok g _ _ h t.toNat (Nat.zero_le _) (by omega)
  rw [show ((t.toNat : Nat) : Int) = t by omega] at this
  unfold errT at this
  cases ha : (flgF (flI g t) (exI g t) && extB g t && facB g t) with
  | false => rw [ha, if_pos rfl] at this; omega
  | true =>
   rw [ha, if_neg (by decide)] at this
   cases hb : nmdB g t with
   | false => rw [hb, if_pos rfl] at this; omega
   | true =>
    rw [hb, if_neg (by decide)] at this
    cases hc : szdB g t with
    | false => rw [hc, if_pos rfl] at this; omega
    | true =>
     rw [Bool.and_eq_true, Bool.and_eq_true] at ha
     exact ⟨ha.1.1, ha.1.2, ha.2, rfl, rfl⟩
 ·rw [if_neg hi] at h; simp at h

/-- Going up, so many steps. -/
def chnL (g : Img) : Nat → Int → List Int
 | 0, _ => []
 | k + 1, t => if numB t g.ts.length = true then t :: chnL g k (exI g t) else []
theorem upG_chn (g : Img) : ∀ (k : Nat) (l : List Int) (t : Int) (K : Nat), k ≤ K → (k ≠ 0 ∨ l ≠ []) → (∀ h : l ≠ [], exI g (l.getLast h) = t) →
  (∀ h : upG g k l t ≠ [], numB (exI g ((upG g k l t).getLast h)) g.ts.length = false) → upG g k l t = l ++ chnL g K t
 | 0, l, t, K, hk, h0, hl, hs => by
  have hne : l ≠ [] := by exact h0.resolve_left (fun h => h rfl)
  have := hs hne
  have h2 : numB t g.ts.length = false := by rw [← hl hne]; exact this
  show l = l ++ chnL g K t
  cases K with
  | zero => simp [chnL]
  | succ K => unfold chnL; rw [h2]; simp
 | k + 1, l, t, K, hk, h0, hl, hs => by
  obtain ⟨K', rfl⟩ : ∃ K', K = K' + 1 := ⟨K - 1, by omega⟩
  by_cases hc : numB t g.ts.length = true ∧ l.contains t = false
  ·have he : upG g (k + 1) l t = upG g k (l ++ [t]) (exI g t) := by rw [upG, if_pos hc]
   have ih := upG_chn g k (l ++ [t]) (exI g t) K' (by omega) (Or.inr (by simp)) (fun h => by simp) (fun h => by
    have := hs (by rw [he]; exact h)
    simpa [he] using this)
   have hcn : chnL g (K' + 1) t = t :: chnL g K' (exI g t) := by show (if _ then _ else _) = _; rw [if_pos hc.1]
   rw [he, ih, hcn, List.append_assoc]; rfl
  ·have he : upG g (k + 1) l t = l := by rw [upG, if_neg hc]
   rw [he]
   have hn : numB t g.ts.length = false := by
    by_cases hne : l = []
    ·subst hne
     cases hn : numB t g.ts.length with
     | false => rfl
     | true => exact absurd ⟨hn, by simp⟩ hc
    ·have := hs (by rw [he]; exact hne)
     rw [← hl hne]
     simpa [he] using this
   unfold chnL
   rw [hn]; simp

/-- The facts of an image whose types are well. -/
structure Wel (g : Img) : Prop where
 im : imB g = true
 flg : ∀ t, numB t g.ts.length = true → flgF (flI g t) (exI g t) = true
 ext : ∀ t, numB t g.ts.length = true → extB g t = true
 fac : ∀ t, numB t g.ts.length = true → facB g t = true
theorem Wel.of {g : Img} (h : welB g = true) : Wel g := by
 obtain ⟨h1, h2⟩ := wel_all h
 exact ⟨h1, fun t ht => (h2 t ht).1, fun t ht => (h2 t ht).2.1, fun t ht => (h2 t ht).2.2.1⟩

theorem upL_nd (g : Img) (t : Int) : Nd g.ts.length 0 (upL g t) := by rw [← upL_eq]; exact reachL_nd _ _ _
theorem upL_iff {g : Img} {t x : Int} : x ∈ upL g t ↔ Rch g.ts.length (upS g) [t] x := by rw [← upL_eq]; exact reachL_iff
theorem upL_out {g : Img} {t : Int} (h : numB t g.ts.length = false) : upL g t = [] := by unfold upL; rw [upG, if_neg (by rw [h]; simp)]
theorem upL_self {g : Img} {t : Int} (h : numB t g.ts.length = true) : t ∈ upL g t := upL_iff.2 (fun S hS _ => hS t (by simp) h)
theorem upL_chn {g : Img} (W : Wel g) {t : Int} (h : numB t g.ts.length = true) : ∀ K, g.ts.length + 2 ≤ K → upL g t = chnL g K t := by
 intro K hK
 have hx := W.ext t h
 unfold extB at hx
 rw [Bool.and_eq_true] at hx
 have := upG_chn g (g.ts.length + 2) [] t K hK (Or.inl (by omega)) (fun h => absurd rfl h) (fun hne => by
  have h2 := hx.2
  unfold upL at h2
  rw [List.getLast?_eq_some_getLast hne] at h2
  simp only [decide_eq_true_iff] at h2
  rw [h2]; rfl)
 simpa [upL] using this
/-- Going up is the type, and going up from what it extends. -/
theorem upL_cons {g : Img} (W : Wel g) {t : Int} (h : numB t g.ts.length = true) : upL g t = t :: upL g (exI g t) := by
 rw [upL_chn W h (g.ts.length + 3) (by omega)]
 unfold chnL
 rw [if_pos h]
 cases he : numB (exI g t) g.ts.length with
 | true => rw [← upL_chn W he (g.ts.length + 2) (Nat.le_refl _)]
 | false => rw [upL_out he]; unfold chnL; rw [he]; simp
theorem upL_last {g : Img} (W : Wel g) {t : Int} (h : numB t g.ts.length = true) : ∀ hne : upL g t ≠ [], exI g ((upL g t).getLast hne) = -1 := by
 intro hne
 have hx := W.ext t h
 unfold extB at hx
 rw [Bool.and_eq_true] at hx
 have h2 := hx.2
 rw [List.getLast?_eq_some_getLast hne] at h2
 simpa using h2
/-- What is come to going up has a shorter way up. -/
theorem upL_suffix {g : Img} (W : Wel g) : ∀ (n : Nat) (x y : Int), numB x g.ts.length = true → (upL g x).length ≤ n → y ∈ upL g x → upL g y <:+ upL g x
 | 0, x, y, hx, hn, hy => by rw [upL_cons W hx] at hn; simp at hn
 | n + 1, x, y, hx, hn, hy => by
  have hc := upL_cons W hx
  rw [hc] at hy
  rcases List.mem_cons.1 hy with rfl | hy
  ·exact List.suffix_rfl
  ·have he : numB (exI g x) g.ts.length = true := by
    cases he : numB (exI g x) g.ts.length with
    | true => rfl
    | false => rw [upL_out he] at hy; simp at hy
   have := upL_suffix W n (exI g x) y he (by rw [hc] at hn; simpa using hn) hy
   rw [hc]
   exact this.trans (List.suffix_cons _ _)
theorem upL_anti {g : Img} (W : Wel g) {x y : Int} (hx : numB x g.ts.length = true) (hy : numB y g.ts.length = true) (h1 : y ∈ upL g x) (h2 : x ∈ upL g y) : x = y := by
 have a := upL_suffix W _ x y hx (Nat.le_refl _) h1
 have b := upL_suffix W _ y x hy (Nat.le_refl _) h2
 have e : upL g y = upL g x := a.eq_of_length (Nat.le_antisymm a.length_le b.length_le)
 rw [upL_cons W hx, upL_cons W hy] at e
 exact (List.cons.inj e).1.symm

/-- What is an interface extends nothing. -/
theorem kind_face {g : Img} (W : Wel g) {t : Int} (h : kndI g t = 2) : numB t g.ts.length = true ∧ exI g t = -1 := by
 have hn : numB t g.ts.length = true := by
  cases hn : numB t g.ts.length with
  | true => rfl
  | false => unfold kndI at h; rw [hn] at h; simp at h
 refine ⟨hn, ?_⟩
 have hf := W.flg t hn
 unfold kndI at h
 rw [if_pos hn] at h
 unfold flgF at hf
 rw [if_pos h, Bool.and_eq_true] at hf
 simpa using hf.1
theorem upL_face {g : Img} (W : Wel g) {t : Int} (h : kndI g t = 2) : upL g t = [t] := by
 obtain ⟨hn, he⟩ := kind_face W h
 rw [upL_cons W hn, he, upL_out rfl]
theorem facL_face {g : Img} (W : Wel g) {t : Int} (h : kndI g t = 2) {x : Int} : x ∈ facL g t ↔ Rch g.ts.length (fsI g) (fsI g t) x := by
 unfold facL
 rw [reachL_iff, upL_face W h]; simp
theorem facL_iff {g : Img} {t x : Int} : x ∈ facL g t ↔ Rch g.ts.length (fsI g) ((upL g t).flatMap (fsI g)) x := by unfold facL; rw [reachL_iff]
theorem up_num {g : Img} {t x : Int} (h : x ∈ upL g t) : numB x g.ts.length = true := (upL_nd g t).1 x h
theorem fac_kind1 {g : Img} (W : Wel g) {t f : Int} (ht : numB t g.ts.length = true) (h : f ∈ fsI g t) : kndI g f = 2 := by
 have hf := W.fac t ht
 unfold facB at hf
 rw [Bool.and_eq_true, Bool.and_eq_true, List.all_eq_true] at hf
 simpa using hf.1.1 f h
/-- All faces are interfaces. -/
theorem fac_kind {g : Img} (W : Wel g) {t f : Int} (h : f ∈ facL g t) : kndI g f = 2 := by
 refine facL_iff.1 h (fun f => kndI g f = 2) (fun y hy _ => ?_) (fun y hy z hz _ => fac_kind1 W (kind_face W hy).1 hz)
 obtain ⟨u, hu, hy⟩ := List.mem_flatMap.1 hy
 exact fac_kind1 W (up_num hu) hy
/-- All that is come to going up, behind the type itself, are classes. -/
theorem up_kind {g : Img} (W : Wel g) : ∀ (n : Nat) (t : Int), numB t g.ts.length = true → (upL g t).length ≤ n → ∀ u ∈ (upL g t).drop 1, kndI g u = 0
 | 0, t, ht, hn, u, hu => by rw [upL_cons W ht] at hn; simp at hn
 | n + 1, t, ht, hn, u, hu => by
  have hc := upL_cons W ht
  rw [hc] at hu hn
  simp only [List.drop_succ_cons, List.drop_zero] at hu
  have he : numB (exI g t) g.ts.length = true := by
   cases he : numB (exI g t) g.ts.length with
   | true => rfl
   | false => rw [upL_out he] at hu; simp at hu
  have hc2 := upL_cons W he
  rw [hc2] at hu
  rcases List.mem_cons.1 hu with rfl | hu
  ·have hx := W.ext t ht
   unfold extB at hx
   rw [Bool.and_eq_true] at hx
   rw [Bool.or_eq_true] at hx
   rcases hx.1 with h | h
   ·rw [decide_eq_true_iff] at h; rw [h] at he; simp [numB] at he
   ·rw [Bool.and_eq_true] at h; simpa using h.1
  ·exact up_kind W n (exI g t) he (by simpa using hn) u (by rw [hc2]; simpa using hu)
theorem bel_iff {g : Img} {a b : Int} : belB g a b = true ↔ b ∈ upL g a ∨ b ∈ facL g a := by unfold belB; rw [Bool.or_eq_true, List.contains_iff_mem, List.contains_iff_mem]
theorem bel_self {g : Img} {t : Int} (h : numB t g.ts.length = true) : belB g t t = true := bel_iff.2 (Or.inl (upL_self h))
theorem fac_up {g : Img} {a b c : Int} (h : b ∈ upL g a) (hc : c ∈ facL g b) : c ∈ facL g a := by
 refine facL_iff.2 ((facL_iff.1 hc).mono fun y hy => ?_)
 obtain ⟨u, hu, hy⟩ := List.mem_flatMap.1 hy
 refine List.mem_flatMap.2 ⟨u, ?_, hy⟩
 refine upL_iff.2 (fun S hS hT => upL_iff.1 hu S (fun y hy _ => ?_) hT)
 simp at hy; subst hy
 exact upL_iff.1 h S hS hT
theorem up_trans {g : Img} {a b c : Int} (h : b ∈ upL g a) (hc : c ∈ upL g b) : c ∈ upL g a :=
 upL_iff.2 (fun S hS hT => upL_iff.1 hc S (fun y hy _ => by simp at hy; subst hy; exact upL_iff.1 h S hS hT) hT)
theorem fac_trans {g : Img} (W : Wel g) {a b c : Int} (h : b ∈ facL g a) (hc : c ∈ facL g b) : c ∈ facL g a :=
 facL_iff.2 ((facL_iff.1 h).trans ((facL_face W (fac_kind W h)).1 hc))
theorem bel_trans {g : Img} (W : Wel g) {a b c : Int} (h1 : belB g a b = true) (h2 : belB g b c = true) : belB g a c = true := by
 rcases bel_iff.1 h1 with h1 | h1
 ·rcases bel_iff.1 h2 with h2 | h2
  ·exact bel_iff.2 (Or.inl (up_trans h1 h2))
  ·exact bel_iff.2 (Or.inr (fac_up h1 h2))
 ·rcases bel_iff.1 h2 with h2 | h2
  ·rw [upL_face W (fac_kind W h1)] at h2
   simp at h2; subst h2
   exact bel_iff.2 (Or.inr h1)
  ·exact bel_iff.2 (Or.inr (fac_trans W h1 h2))
theorem bel_anti {g : Img} (W : Wel g) {a b : Int} (ha : numB a g.ts.length = true) (hb : numB b g.ts.length = true) (h1 : belB g a b = true) (h2 : belB g b a = true) : a = b := by
 rcases bel_iff.1 h1 with h1 | h1
 ·rcases bel_iff.1 h2 with h2 | h2
  ·exact upL_anti W ha hb h1 h2
  ·rw [upL_face W (fac_kind W h2)] at h1
   simp at h1; exact h1.symm
 ·rcases bel_iff.1 h2 with h2 | h2
  ·rw [upL_face W (fac_kind W h1)] at h2
   simp at h2; exact h2
  ·have hk := fac_kind W h2
   have hf := W.fac a ha
   unfold facB at hf
   rw [Bool.and_eq_true] at hf
   have h3 := hf.2
   have hr : a ∈ reachL g.ts.length (fsI g) (fsI g a) := by
    rw [reachL_iff, ← facL_face W hk]
    exact fac_trans W h1 h2
   rw [Bool.or_eq_true] at h3
   rcases h3 with h3 | h3
   ·rw [decide_eq_true_iff] at h3; exact absurd hk h3
   ·have hr' := List.contains_iff_mem.2 hr
    rw [hr'] at h3; cases h3
/-- Its interfaces hold those of what it extends. -/
theorem fac_ext {g : Img} (W : Wel g) {t f : Int} (ht : numB t g.ts.length = true) (h : f ∈ facL g (exI g t)) : f ∈ facL g t := by
 cases he : numB (exI g t) g.ts.length with
 | true => exact fac_up (by rw [upL_cons W ht]; exact List.mem_cons_of_mem _ (upL_self he)) h
 | false =>
  have h' := facL_iff.1 h
  rw [upL_out he] at h'
  exact absurd (h' (fun _ => False) (fun y hy _ => absurd hy (by simp)) (fun _ h _ _ _ => h)) id

theorem flat_take {l : List Int} {f : Int → List Int} {q : Nat} (hq : q < l.length) : (l.take (q + 1)).flatMap f = (l.take q).flatMap f ++ f l[q] := by
 rw [List.take_succ_eq_append_getElem hq, List.flatMap_append]; simp
end Go.Proofs.YthpmpdpfnlecmaaGreat

namespace Go.Proofs.YthpmpdpfnlecmaaGreat
open Go.Shelf
def lays189_ren : Go.Shelf.Ren := ⟨fun | 189 => 39 | 125 => 74 | 257 => 73 | 128 => 128 | 129 => 129 | 294 => 119 | 295 => 120 | 296 => 121 | 297 => 122 | 298 => 123 | 299 => 124 | 216 => 125 | 300 => 126 | 301 => 127 | 328 => 172 | 329 => 173 | 330 => 174 | 331 => 175 | 332 => 176 | 215 => 177 | 343 => 207 | n => n, fun | 28 => 31 | 3 => 3 | 46 => 87 | 0 => 0 | 51 => 132 | 53 => 134 | 4 => 4 | 183 => 125 | 182 => 124 | 131 => 129 | 5 => 5 | 9 => 9 | 218 => 148 | 222 => 152 | 228 => 179 | 229 => 58 | n => n, fun | n => n⟩
theorem lays189 : Go.Proofs.Lays.n189 Tryz.prog lays189_ren := {
 mixed := by kernel_rfl
 f125 := Tryz.func74.trans (congrArg some (by kernel_rfl))
 f128 := Tryz.func128.trans (congrArg some (by kernel_rfl))
 f129 := Tryz.func129.trans (congrArg some (by kernel_rfl))
 f189 := Tryz.func39.trans (congrArg some (by kernel_rfl))
 f215 := Tryz.func177.trans (congrArg some (by kernel_rfl))
 f216 := Tryz.func125.trans (congrArg some (by kernel_rfl))
 f257 := Tryz.func73.trans (congrArg some (by kernel_rfl))
 f294 := Tryz.func119.trans (congrArg some (by kernel_rfl))
 f295 := Tryz.func120.trans (congrArg some (by kernel_rfl))
 f296 := Tryz.func121.trans (congrArg some (by kernel_rfl))
 f297 := Tryz.func122.trans (congrArg some (by kernel_rfl))
 f298 := Tryz.func123.trans (congrArg some (by kernel_rfl))
 f299 := Tryz.func124.trans (congrArg some (by kernel_rfl))
 f300 := Tryz.func126.trans (congrArg some (by kernel_rfl))
 f301 := Tryz.func127.trans (congrArg some (by kernel_rfl))
 f328 := Tryz.func172.trans (congrArg some (by kernel_rfl))
 f329 := Tryz.func173.trans (congrArg some (by kernel_rfl))
 f330 := Tryz.func174.trans (congrArg some (by kernel_rfl))
 f331 := Tryz.func175.trans (congrArg some (by kernel_rfl))
 f332 := Tryz.func176.trans (congrArg some (by kernel_rfl))
 f343 := Tryz.func207.trans (congrArg some (by kernel_rfl))
 t0 := Tryz.underlying0
 a0 := Tryz.isAgg0
 z0 := Tryz.sizeOf0
 v0 := Tryz.zeroValue0
 t3 := Tryz.underlying3
 a3 := Tryz.isAgg3
 z3 := Tryz.sizeOf3
 v3 := Tryz.zeroValue3
 t4 := Tryz.underlying4
 a4 := Tryz.isAgg4
 z4 := Tryz.sizeOf4
 v4 := Tryz.zeroValue4
 t5 := Tryz.underlying5
 a5 := Tryz.isAgg5
 z5 := Tryz.sizeOf5
 v5 := Tryz.zeroValue5
 t9 := Tryz.underlying9
 a9 := Tryz.isAgg9
 z9 := Tryz.sizeOf9
 v9 := Tryz.zeroValue9
 t28 := Tryz.underlying31
 a28 := Tryz.isAgg31
 z28 := Tryz.sizeOf31
 v28 := Tryz.zeroValue31
 t46 := Tryz.underlying87
 a46 := Tryz.isAgg87
 z46 := Tryz.sizeOf87
 v46 := Tryz.zeroValue87
 t51 := Tryz.underlying132
 a51 := Tryz.isAgg132
 z51 := Tryz.sizeOf132
 v51 := Tryz.zeroValue132
 t53 := Tryz.underlying134
 a53 := Tryz.isAgg134
 z53 := Tryz.sizeOf134
 v53 := Tryz.zeroValue134
 t131 := Tryz.underlying129
 a131 := Tryz.isAgg129
 z131 := Tryz.sizeOf129
 v131 := Tryz.zeroValue129
 t182 := Tryz.underlying124
 a182 := Tryz.isAgg124
 z182 := Tryz.sizeOf124
 v182 := Tryz.zeroValue124
 t183 := Tryz.underlying125
 a183 := Tryz.isAgg125
 z183 := Tryz.sizeOf125
 v183 := Tryz.zeroValue125
 t218 := Tryz.underlying148
 a218 := Tryz.isAgg148
 z218 := Tryz.sizeOf148
 v218 := Tryz.zeroValue148
 t222 := Tryz.underlying152
 a222 := Tryz.isAgg152
 z222 := Tryz.sizeOf152
 v222 := Tryz.zeroValue152
 t228 := Tryz.underlying179
 a228 := Tryz.isAgg179
 z228 := Tryz.sizeOf179
 v228 := Tryz.zeroValue179
 t229 := Tryz.underlying58
 a229 := Tryz.isAgg58
 z229 := Tryz.sizeOf58
 v229 := Tryz.zeroValue58 }
open Go.Sort Go.RowKit in
theorem slices_Sort_int (blk off cap : Nat) (zs : List Int) (w : World) (hH : Holds (Value.int .i64) w blk off zs.toArray) (hblk : blk < w.heap.size) (hsz : zs.length < 4611686018427387904) :
  Calls Tryz.prog 39 #[.slice (some ⟨blk, off, none⟩) zs.length cap] w fun e w' =>
   e = .returned (.tuple #[]) ∧ ∃ n os, w' = grow (putRow (Value.int .i64) (Sort.ahead w n) blk off (zs.mergeSort fun x y => decide (x ≤ y)).toArray) os := Any.slices_Sort_int lays189 blk off cap zs w hH hblk hsz
open Go.RowKit in
theorem slices_Sort_int_none (p : Option Addr) (cap : Nat) (w : World) : Calls Tryz.prog 39 #[.slice p 0 cap] w fun e w' => e = .returned (.tuple #[]) ∧ w' = w := Any.slices_Sort_int_none lays189 p cap w
end Go.Proofs.YthpmpdpfnlecmaaGreat

namespace Go.Proofs.YthpmpdpfnlecmaaGreat
set_option linter.unusedVariables false
set_option linter.unusedSimpArgs false
open Go.RowKit
attribute [local go_sem ↓] Go.wp_at_zero Go.wp_at_succ
theorem sort11_any {w : World} {base : Nat} {v : Value} {l : List Int} (h : OwnI w base v l) (hl : l.length ≤ 100000) :
  Calls Tryz.prog 39 #[v] w fun e w' => e = .returned (.tuple #[]) ∧ ∃ l', l'.Perm l ∧ OwnI w' base v l' ∧ w.grownBy w' v.ownBlock := by
 rcases h.2 with ⟨rfl, h0⟩ | ⟨g, cap, cur, hv, hbase, hb, h1, h2, h3, h4⟩
 ·have : l = [] := List.eq_nil_of_length_eq_zero (by rw [i64s_length] at h0; exact h0)
  subst this
  refine (slices_Sort_int_none none 0 w).mono ?_
  rintro e w' ⟨rfl, rfl⟩
  exact ⟨rfl, [], List.Perm.refl _, h, ⟨rfl, rfl, rfl, Nat.le_refl _, fun _ _ _ => rfl⟩⟩
 ·subst hv
  rw [i64s_length] at h1 h4 ⊢
  have h4' : cur.toList.take l.length = l.map (Value.int .i64) := by simpa [i64s] using h4
  have hH := holds_of_blockI hb h4'
  refine (slices_Sort_int g 0 cap l w hH (Array.getElem?_eq_some_iff.1 hb).1 (by omega)).mono ?_
  rintro e w' ⟨rfl, n, os, rfl⟩
  have hp := List.mergeSort_perm l (fun x y => decide (x ≤ y))
  refine ⟨rfl, _, hp, ?_, grownBy_sortedI _⟩
  have := ownsRow_sortedI (n := n) (os := os) (ts := l.mergeSort fun x y => decide (x ≤ y)) (ss := l) hp.length_eq hbase hb h1 h2 h3
  unfold OwnI OwnV
  rw [i64s_length, hp.length_eq]
  exact this

theorem flat_len {f : Int → List Int} {m : Nat} : ∀ (l : List Int), (∀ x ∈ l, (f x).length ≤ m) → (l.flatMap f).length ≤ l.length * m
 | [], _ => by simp
 | x :: r, h => by
  have h1 := flat_len r (fun y hy => h y (List.mem_cons_of_mem _ hy))
  have h2 := h x (by simp)
  simp only [List.flatMap_cons, List.length_append, List.length_cons, Nat.add_mul]
  omega

set_option maxHeartbeats 4000000 in
set_option maxRecDepth 100000 in
theorem faces_any {g : Img} {t : Int} {w : World} (hg : Im w g) (hi : imB g = true) (hw : Wf t) :
  Calls Tryz.prog 15 #[imV g, .int .i64 t] w fun e w' => ∃ v l, e = .returned v ∧ l.Perm (facL g t) ∧ OwnI w' w.heap.size v l ∧ Below w.heap.size w w' := by
 obtain ⟨w0, hw0⟩ : ∃ W, W = w.alloc (.cells (imC g) 26) := ⟨_, rfl⟩
 have HW0 : Hid (w0 = _) := hw0
 obtain ⟨hb0, hgb⟩ := GB.made hg hw0
 have HB0 : Hid (Below w.heap.size w w0) := hb0
 have HG : Hid (GB w0 w.heap.size g) := hgb
 have HI : Hid (imB g = true) := hi
 have hln := (im_len hi).1
 have HK : Hid (∀ W, Below w0.heap.size w0 W → W.cell? ⟨w.heap.size, 0, none⟩ = some (.slice g.ta g.ts.length g.tc) ∧ W.cell? ⟨w.heap.size, 1, none⟩ = some (.slice g.fa g.fs.length g.fc) ∧ W.cell? ⟨w.heap.size, 2, none⟩ = some (.slice g.ma g.ms.length g.mc) ∧ W.cell? ⟨w.heap.size, 3, none⟩ = some (.int .i64 g.en)) := fun W hW => (hgb.later hW).cells
 have HUp : Hid (Calls Tryz.prog 14 #[.agg (imC g), .int .i64 t] w0 fun e w' => ∃ v, e = .returned v ∧ OwnI w' w0.heap.size v (upL g t) ∧ Below w0.heap.size w0 w') := up_any hgb.im hi hw
 have HFl : Hid (∀ q : Nat, ((upL g t).take q).flatMap (fsI g) = ((upL g t).take q).flatMap (fsI g) ∧ (((upL g t).take q).flatMap (fsI g)).length ≤ 200) := fun q => by
  refine ⟨rfl, ?_⟩
  have h1 := (upL_nd g t).len
  have h2 := flat_len (f := fsI g) (m := 4) ((upL g t).take q) (fun x hx => by
   obtain ⟨k, rfl, hk⟩ := num_nat ((upL_nd g t).1 x (List.mem_of_mem_take hx))
   rw [fsI_at hk]; exact (im_type hi hk).2.1)
  rw [List.length_take] at h2
  omega
 obtain ⟨c0, c1, c2, c3⟩ := hgb.cells
 unfold imC at HW0 HUp
 clear hw0 hb0 hgb hg hi hw
 unfold imV
 go_enter Tryz.func15, Tryz.ntmps15
 go_wp2_with (rw [← HW0.out])
 refine Calls.mono HUp.out ?_
 rintro e w1 ⟨uv, rfl, hu, hb1⟩
 have HU : Hid (OwnI w1 w0.heap.size uv (upL g t)) := hu
 have HB1 : Hid (Below w0.heap.size w0 w1) := hb1
 have HUN : Hid (Nd g.ts.length 0 (upL g t)) := upL_nd g t
 obtain ⟨up, hup⟩ : ∃ X, X = upL g t := ⟨_, rfl⟩
 have HUE : Hid (facL g t = reachL g.ts.length (fsI g) (up.flatMap (fsI g))) := by show _ = _; rw [hup]; rfl
 rw [← hup] at HU HUN HFl
 obtain ⟨ua, uc, huv, _, _⟩ := (show Is w1 uv up from HU.out.is).shape
 subst huv
 clear hu hb1 c0 c1 c2 c3 HUp hup
 go_wp2_with fail
 go_loopw [5, 7, 13] (fun lv _ z wr => ∃ q : Nat, q ≤ up.length ∧ z = .int .i64 q ∧ Hid (OwnI wr w1.heap.size lv ((up.take q).flatMap (fsI g))) ∧ Hid (Below w1.heap.size w1 wr)) (fun _ _ z _ => up.length - (intOf z).toNat)
 case atStart => exact ⟨0, Nat.zero_le _, rfl, OwnI.nil _ _, Below.refl _ _⟩
 case round =>
  obtain ⟨q, hq, rfl, HO, HB⟩ := hrel
  have hupl := HUN.out.len
  by_cases hql : q < up.length
  ·obtain ⟨ub, uoff, hua, hub, _, h6, h7, hc⟩ := (show Is wr (.slice ua up.length uc) up from Sl.later HU.out.is HB.out).at hql
   have cq := hc q hql
   obtain ⟨k, hkk, hkl⟩ := num_nat (HUN.out.1 _ (List.getElem_mem hql))
   have HT : Hid ((up.take (q + 1)).flatMap (fsI g) = (up.take q).flatMap (fsI g) ++ g.ts[k].fs) := by show _ = _; rw [flat_take hql, hkk, fsI_at hkl]
   have HLn : Hid (((up.take q).flatMap (fsI g)).length ≤ 200) := (HFl.out q).2
   rw [hkk] at cq
   obtain ⟨tb, off, hta, h8, h9, hty⟩ := HG.out.ty (by intro e; rw [e] at hkl; simp at hkl)
   obtain ⟨d0, hd⟩ := hty wr (HB1.out.trans (HB.out.mono HB1.out.size))
   obtain ⟨_, _, _, d3⟩ := hd k hkl
   have HFs : Hid (∀ W, Below w0.heap.size w0 W → Is W (.slice g.ts[k].fa g.ts[k].fs.length g.ts[k].fc) g.ts[k].fs) := fun W hW => Sl.later (HG.out.im.tok _ (List.getElem_mem hkl)).toIs hW
   have hf4 := (im_type HI.out hkl).2.1
   subst hua
   unfold maxLen at h7 h9
   clear hc hty hkk hta hd
   generalize g.ts[k] = x at *
   have HB01 : Hid (Below w0.heap.size w0 wr) := HB1.out.trans (HB.out.mono HB1.out.size)
   go_wp2_with (at_builtin; go_must (refine wpList_append_at rfl (.tmp 17) (.tmp 23) 31 31 rfl w1.heap.size 3 (.int .i64 0) 8 Tryz.underlying31 Tryz.infoInt7 rfl (v := u5) (y := .slice x.fa x.fs.length x.fc) rfl rfl HO.out (Sl.src (HFs.out _ HB01.out) Tryz.underlying31 (i64s_one _)) (by have := HLn.out; rw [i64s_length, i64s_length]; unfold maxLen; omega) (by have := HLn.out; rw [i64s_length, i64s_length]; omega) HB.out.size ?_; intro v5 w5 ho5 hg5 hp5 hs5))
   have HO5 : Hid (OwnI w5 w1.heap.size v5 ((up.take q).flatMap (fsI g) ++ x.fs)) := by
    show OwnV _ _ _ _ _
    rw [i64s_append]; exact ho5
   have HB5 : Hid (Below w1.heap.size w1 w5) := HB.out.trans (grown_below11 HO.out hg5 (Nat.le_refl _) HB.out.size)
   clear ho5 hg5 hp5 hs5 d0 d3 cq
   go_roundw
   case rel => exact ⟨q + 1, by omega, by go_num, by rw [HT.out]; exact HO5.out, HB5.out⟩
   case measure => simp [intOf]; omega
  ·have HOw : Hid (OwnI wr w1.heap.size u5 (up.flatMap (fsI g))) := by
    have := HO.out
    rwa [List.take_of_length_le (by omega)] at this
   have HB01 : Hid (Below w0.heap.size w0 wr) := HB1.out.trans (HB.out.mono HB1.out.size)
   have HKr : Hid (∀ W, Below wr.heap.size wr W → W.cell? ⟨w.heap.size, 0, none⟩ = some (.slice g.ta g.ts.length g.tc) ∧ W.cell? ⟨w.heap.size, 1, none⟩ = some (.slice g.fa g.fs.length g.fc) ∧ W.cell? ⟨w.heap.size, 2, none⟩ = some (.slice g.ma g.ms.length g.mc) ∧ W.cell? ⟨w.heap.size, 3, none⟩ = some (.int .i64 g.en)) := fun W hW => HK.out W (bstep HB01.out hW)
   have HGO : Hid (∀ W kb, Below wr.heap.size wr W → At W kb (imC g) 26 → Calls Tryz.prog 36 #[.agg (imC g), u5, .func (.func 72) #[] #[.pointer (some ⟨kb, 0, none⟩)]] W fun e w' => ∃ v, e = .returned v ∧ OwnI w' wr.heap.size v (facL g t) ∧ Below wr.heap.size wr w') := by
    intro W kb hbW hkb
    have hGB : GB W kb g := ⟨hkb, HG.out.im.later (bstep HB01.out hbW)⟩
    refine (goOn_any hGB.im (by omega) (HOw.out.later hbW).is (fun _ k hk => ((HOw.out.later hbW).block k hk).2) (fun x hx => ?_) (steps_fac hGB HI.out)).mono ?_
    ·obtain ⟨y, hy, hx⟩ := List.mem_flatMap.1 hx
     obtain ⟨k, rfl, hkl⟩ := num_nat (HUN.out.1 y hy)
     rw [fsI_at hkl] at hx
     exact wf_num (by omega) ((im_type HI.out hkl).2.2 x hx)
    ·rintro e w' ⟨v, rfl, ho, hb⟩
     rw [← HUE.out] at ho
     exact ⟨v, rfl, ho.mono hbW.size, bstep hbW hb⟩
   have HBF : Hid (∀ W, Calls Tryz.prog 38 #[.agg (imC g)] W fun e w' => e = .returned (.func (.func 72) #[] #[.pointer (some ⟨W.heap.size, 0, none⟩)]) ∧ w' = W.alloc (.cells (imC g) 26)) := fun W => byFaces_any W
   obtain ⟨c0, c1, c2, c3⟩ := HKr.out wr (Below.refl _ _)
   clear HO HB
   go_wp2_with fail
   go_region_held3 (fun W => W.cell? ⟨w.heap.size, 0, none⟩ = some (.slice g.ta g.ts.length g.tc) ∧ W.cell? ⟨w.heap.size, 1, none⟩ = some (.slice g.fa g.fs.length g.fc) ∧ W.cell? ⟨w.heap.size, 2, none⟩ = some (.slice g.ma g.ms.length g.mc) ∧ W.cell? ⟨w.heap.size, 3, none⟩ = some (.int .i64 g.en))
    (first | (exact HKr.out _ hb2) | (exact HKr.out _ (bdrew _)) | (exact HKr.out _ (bbox (bdrew _) _)))
    (first | (go_at_call 38; refine (HBF.out _).mono ?_; rintro e w2 ⟨rfl, hz1⟩; subst hz1) | (go_at_call 36; refine (HGO.out _ _ (bbox (bdrew _) _) (At.made _ _ _)).mono ?_; rintro e w3 ⟨v, rfl, ho2, hb2⟩))
   rename_i hheld
   clear hheld
   have HB3 : Hid (Below w0.heap.size w0 w3) := bstep HB01.out hb2
   have HO3 : Hid (OwnI w3 wr.heap.size v (facL g t)) := ho2
   have HSo : Hid (Calls Tryz.prog 39 #[v] w3 fun e w' => e = .returned (.tuple #[]) ∧ ∃ l', l'.Perm (facL g t) ∧ OwnI w' wr.heap.size v l' ∧ w3.grownBy w' v.ownBlock) := sort11_any ho2 (by have := reachL_len g.ts.length (fsI g) ((upL g t).flatMap (fsI g)); unfold facL; omega)
   clear ho2 hb2 c0 c1 c2 c3
   go_wp2_with fail
   refine Calls.mono HSo.out ?_
   rintro e w4 ⟨rfl, l', hperm, ho4, hg4⟩
   have HB4 : Hid (Below w0.heap.size w0 w4) := HB3.out.trans (grown_below11 HO3.out hg4 HB01.out.size HB3.out.size)
   have HO4 : Hid (OwnI w4 wr.heap.size v l') := ho4
   clear ho4 hg4
   go_wp2_with fail
   go_ret
   exact ⟨_, l', rfl, hperm, HO4.out.mono (Nat.le_trans HB0.out.size HB01.out.size), bstep HB0.out HB4.out⟩

set_option maxHeartbeats 2000000 in
theorem below_any {g : Img} {a b : Int} {w : World} (hg : Im w g) (hi : imB g = true) (hw : Wf a) :
  Calls Tryz.prog 12 #[imV g, .int .i64 a, .int .i64 b] w fun e w' => e = .returned (.bool (belB g a b)) ∧ Below w.heap.size w w' := by
 obtain ⟨w0, hw0⟩ : ∃ W, W = w.alloc (.cells (imC g) 26) := ⟨_, rfl⟩
 have HW0 : Hid (w0 = _) := hw0
 obtain ⟨hb0, hgb⟩ := GB.made hg hw0
 have HB0 : Hid (Below w.heap.size w w0) := hb0
 have HK : Hid (∀ W, Below w0.heap.size w0 W → GB W w.heap.size g) := fun W hW => hgb.later hW
 have HUp : Hid (Calls Tryz.prog 14 #[.agg (imC g), .int .i64 a] w0 fun e w' => ∃ v, e = .returned v ∧ OwnI w' w0.heap.size v (upL g a) ∧ Below w0.heap.size w0 w') := up_any hgb.im hi hw
 have HFa : Hid (∀ W, Below w0.heap.size w0 W → Calls Tryz.prog 15 #[.agg (imC g), .int .i64 a] W fun e w' => ∃ v l, e = .returned v ∧ l.Perm (facL g a) ∧ OwnI w' W.heap.size v l ∧ Below W.heap.size W w') := fun W hW => faces_any (hgb.im.later hW) hi hw
 have HR : Hid (belB g a b = ((upL g a).contains b || (facL g a).contains b)) := rfl
 obtain ⟨c0, c1, c2, c3⟩ := hgb.cells
 unfold imC at HW0 HUp HFa
 clear hw0 hb0 hgb hg hi hw
 unfold imV
 go_enter Tryz.func12, Tryz.ntmps12
 go_wp2_with (rw [← HW0.out])
 refine Calls.mono HUp.out ?_
 rintro e w1 ⟨uv, rfl, hu, hb1⟩
 have HB1 : Hid (Below w0.heap.size w0 w1) := hb1
 have HCo : Hid (Calls Tryz.prog 33 #[uv, .int .i64 b] w1 fun e w' => e = .returned (.bool ((upL g a).contains b)) ∧ w' = w1) := contains11_any hu.is b
 clear hu hb1 c0 c1 c2 c3 HUp
 go_wp2_with fail
 refine Calls.mono HCo.out ?_
 rintro e wz ⟨rfl, hz⟩
 subst wz
 cases hc : (upL g a).contains b with
 | true =>
  have HE : Hid (belB g a b = true) := by show _ = _; rw [HR.out, hc]; rfl
  clear hc HCo HR
  go_wp2_with fail
  go_ret
  exact ⟨ret_bool HE.out.symm, bstep HB0.out HB1.out⟩
 | false =>
  have HE : Hid (belB g a b = (facL g a).contains b) := by show _ = _; rw [HR.out, hc]; rfl
  obtain ⟨c0, c1, c2, c3⟩ := (HK.out w1 HB1.out).cells
  clear hc HCo HR
  go_wp2_with fail
  refine Calls.mono (HFa.out w1 HB1.out) ?_
  rintro e w2 ⟨fv, l, rfl, hp, hf, hb2⟩
  have HB2 : Hid (Below w0.heap.size w0 w2) := bstep HB1.out hb2
  have HLc : Hid (l.contains b = (facL g a).contains b) := by
   show _ = _
   rw [Bool.eq_iff_iff, List.contains_iff_mem, List.contains_iff_mem]
   exact hp.mem_iff
  have HC2 : Hid (Calls Tryz.prog 33 #[fv, .int .i64 b] w2 fun e w' => e = .returned (.bool (l.contains b)) ∧ w' = w2) := contains11_any hf.is b
  clear hf hb2 c0 c1 c2 c3 hp
  go_wp2_with fail
  refine Calls.mono HC2.out ?_
  rintro e wz ⟨rfl, hz⟩
  subst wz
  generalize l.contains b = r at *
  go_wp2_with fail
  go_ret
  exact ⟨ret_bool (by rw [HE.out, HLc.out]), bstep HB0.out HB2.out⟩
end Go.Proofs.YthpmpdpfnlecmaaGreat
