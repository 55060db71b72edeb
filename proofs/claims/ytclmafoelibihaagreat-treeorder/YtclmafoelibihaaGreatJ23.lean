/- Texts joined: RefUp11, TreeMath, Sort11. -/
import Derived.Test.YtclmafoelibihaaGreatJ22
import Derived.Test.YtclmafoelibihaaGreatJ18
import Derived.Shelf.Sort.Plain
import Derived.Shelf.Slices.In.SortNone
import Derived.Test.YtclmafoelibihaaGreatRows
/- Up, Fields, Methods of the references. -/
namespace Go.Proofs.YtclmafoelibihaaGreat
set_option linter.unusedVariables false
set_option linter.unusedSimpArgs false
open Go.RowKit
attribute [local go_sem ↓] Go.wp_at_zero Go.wp_at_succ

/-- Where the types, the fields, the methods of an image in a box lie, in all worlds to come. -/
theorem GB.ty {w0 : World} {b : Nat} {g : Img} (h : GB w0 b g) (hne : g.ts ≠ []) : ∃ tb off, g.ta = some ⟨tb, off, none⟩ ∧ g.ts.length ≤ g.tc ∧ g.tc ≤ maxLen ∧ ∀ W, Below w0.heap.size w0 W → W.cell? ⟨b, 0, none⟩ = some (.slice (some ⟨tb, off, none⟩) g.ts.length g.tc) ∧
    ∀ q (hq : q < g.ts.length), W.cell? ⟨tb, off + q * 4, none⟩ = some (.string g.ts[q].nm) ∧ W.cell? ⟨tb, off + q * 4 + 1, none⟩ = some (.int .i64 g.ts[q].fl) ∧ W.cell? ⟨tb, off + q * 4 + 2, none⟩ = some (.int .i64 g.ts[q].ex) ∧ W.cell? ⟨tb, off + q * 4 + 3, none⟩ = some (.slice g.ts[q].fa g.ts[q].fs.length g.ts[q].fc) := by
  obtain ⟨tb, off, cap, hv, h1, h2, hb, hc⟩ := h.im.ts.parts hne
  simp only [Value.slice.injEq] at hv
  obtain ⟨ha, _, hcap⟩ := hv
  subst hcap
  refine ⟨tb, off, ha, h1, h2, fun W hW => ⟨?_, fun q hq => (show El tdE W tb (off + q * 4) g.ts[q] from (hc q hq).below hW hb).cells_T⟩⟩
  have := (h.later hW).cells.1
  rw [ha] at this; exact this
theorem GB.fd {w0 : World} {b : Nat} {g : Img} (h : GB w0 b g) (hne : g.fs ≠ []) : ∃ tb off, g.fa = some ⟨tb, off, none⟩ ∧ g.fs.length ≤ g.fc ∧ g.fc ≤ maxLen ∧ ∀ W, Below w0.heap.size w0 W → W.cell? ⟨b, 1, none⟩ = some (.slice (some ⟨tb, off, none⟩) g.fs.length g.fc) ∧ ∀ q (hq : q < g.fs.length), El fdE W tb (off + q * 7) g.fs[q] := by
  obtain ⟨tb, off, cap, hv, h1, h2, hb, hc⟩ := h.im.fs.parts hne
  simp only [Value.slice.injEq] at hv
  obtain ⟨ha, _, hcap⟩ := hv
  subst hcap
  refine ⟨tb, off, ha, h1, h2, fun W hW => ⟨?_, fun q hq => show El fdE W tb (off + q * 7) g.fs[q] from (hc q hq).below hW hb⟩⟩
  have := (h.later hW).cells.2.1
  rw [ha] at this; exact this
theorem GB.md {w0 : World} {b : Nat} {g : Img} (h : GB w0 b g) (hne : g.ms ≠ []) : ∃ tb off, g.ma = some ⟨tb, off, none⟩ ∧ g.ms.length ≤ g.mc ∧ g.mc ≤ maxLen ∧ ∀ W, Below w0.heap.size w0 W → W.cell? ⟨b, 2, none⟩ = some (.slice (some ⟨tb, off, none⟩) g.ms.length g.mc) ∧ ∀ q (hq : q < g.ms.length), El mdE W tb (off + q * 12) g.ms[q] := by
  obtain ⟨tb, off, cap, hv, h1, h2, hb, hc⟩ := h.im.ms.parts hne
  simp only [Value.slice.injEq] at hv
  obtain ⟨ha, _, hcap⟩ := hv
  subst hcap
  refine ⟨tb, off, ha, h1, h2, fun W hW => ⟨?_, fun q hq => show El mdE W tb (off + q * 12) g.ms[q] from (hc q hq).below hW hb⟩⟩
  have := (h.later hW).cells.2.2.1
  rw [ha] at this; exact this
theorem grown_below11 {w w' : World} {base B : Nat} {v : Value} {l : List Int} (ho : OwnI w base v l) (hg : w.grownBy w' v.ownBlock) (hB : B ≤ base) (hs : B ≤ w.heap.size) : Below B w w' :=
  ⟨hg.os, hg.tape, hg.output, hg.size, fun k hk => hg.block k (by omega) (fun e => by have := ho.block k e.symm; omega)⟩
/-- A slice's length. -/
def lenV : Value → Nat
  | .slice _ n _ => n
  | _ => 0
theorem OwnI.lenV {w : World} {base : Nat} {v : Value} {l : List Int} (h : OwnI w base v l) : lenV v = l.length := by
  obtain ⟨a, c, e, _⟩ := h.is
  rw [e, i64s_length]; rfl

set_option maxHeartbeats 4000000 in
set_option maxRecDepth 100000 in
theorem refUp_any {g : Img} {t : Int} {w : World} (hg : Im w g) (hi : imB g = true) :
    Calls Tryz.prog 19 #[imV g, .int .i64 t] w fun e w' => ∃ v, e = .returned v ∧ OwnI w' w.heap.size v (upL g t) ∧ Below w.heap.size w w' := by
  obtain ⟨w0, hw0⟩ : ∃ W, W = w.alloc (.cells (imC g) 26) := ⟨_, rfl⟩
  have HW0 : Hid (w0 = _) := hw0
  obtain ⟨hb0, hgb⟩ := GB.made hg hw0
  have HB0 : Hid (Below w.heap.size w w0) := hb0
  have HG : Hid (GB w0 w.heap.size g) := hgb
  have hln := (im_len hi).1
  have HTh : Hid (∀ W (t : Int), Below w0.heap.size w0 W → Calls Tryz.prog 35 #[.agg (imC g), .int .i64 t] W fun e w' => e = .returned (.bool (numB t g.ts.length)) ∧ Below W.heap.size W w') := fun W t hW => refThere_any t (hgb.im.later hW)
  have HC4 : Hid (∀ W, Below w0.heap.size w0 W → W.cell? ⟨w.heap.size, 0, none⟩ = some (.slice g.ta g.ts.length g.tc) ∧ W.cell? ⟨w.heap.size, 1, none⟩ = some (.slice g.fa g.fs.length g.fc) ∧ W.cell? ⟨w.heap.size, 2, none⟩ = some (.slice g.ma g.ms.length g.mc) ∧ W.cell? ⟨w.heap.size, 3, none⟩ = some (.int .i64 g.en)) := fun W hW => (hgb.later hW).cells
  unfold imC at HW0 HTh
  clear hw0 hb0 hgb hg hi
  unfold imV
  go_enter Tryz.func19, Tryz.ntmps19
  go_wp2_with (rw [← HW0.out])
  obtain ⟨t0, ht0⟩ : ∃ x, x = t := ⟨_, rfl⟩
  have HT0 : Hid (upG g (g.ts.length + 2) [] t = upL g t0) := by show _ = _; rw [ht0]; rfl
  go_loopw [1, 5] (fun tv lv wr => ∃ (x : Int) (k : Nat) (L : List Int), tv = .int .i64 x ∧ Hid (OwnI wr w0.heap.size lv L) ∧ Below w0.heap.size w0 wr ∧ Hid (Nd g.ts.length 0 L) ∧ k + L.length = g.ts.length + 2 ∧ Hid (upG g k L x = upL g t0)) (fun _ lv _ => g.ts.length + 2 - lenV lv)
  case atStart => exact ⟨t, g.ts.length + 2, [], rfl, OwnI.nil _ _, Below.refl _ _, Nd.nil _, rfl, HT0.out⟩
  case round =>
    obtain ⟨x, k, L, rfl, HO, hB, HN, hk, HU⟩ := hrel
    have hLl := HN.out.len
    have HBL : Hid (Below w0.heap.size w0 wr) := hB
    obtain ⟨k', rfl⟩ : ∃ k', k = k' + 1 := ⟨k - 1, by omega⟩
    obtain ⟨c0, c1, c2, c3⟩ := HC4.out wr hB
    have hlen := HO.out.lenV
    clear hB
    go_wp2_with fail
    refine Calls.mono (HTh.out wr x HBL.out) ?_
    rintro e w1 ⟨rfl, hb1⟩
    have HB1 : Hid (Below w0.heap.size w0 w1) := bstep HBL.out hb1
    have HO1 : Hid (OwnI w1 w0.heap.size u5 L) := HO.out.later hb1
    clear hb1 c0 c1 c2 c3 HO HBL
    cases hn : numB x g.ts.length with
    | false =>
      have HE : Hid (L = upL g t0) := by show _ = _; rw [← HU.out, upG, if_neg (by rw [hn]; simp)]
      clear hn
      go_wp2_with fail
      go_ret
      exact ⟨_, rfl, by rw [← ht0, ← HE.out]; exact HO1.out.mono HB0.out.size, bstep HB0.out HB1.out⟩
    | true =>
      go_wp2_with fail
      refine (refHas_any HO1.out.is x).mono ?_
      rintro e wz ⟨rfl, hz⟩
      subst wz
      cases hh : L.contains x with
      | true =>
        have HE : Hid (L = upL g t0) := by show _ = _; rw [← HU.out, upG, if_neg (by rw [hh]; simp)]
        clear hn hh
        go_wp2_with fail
        go_ret
        exact ⟨_, rfl, by rw [← ht0, ← HE.out]; exact HO1.out.mono HB0.out.size, bstep HB0.out HB1.out⟩
      | false =>
        have HU2 : Hid (upG g k' (L ++ [x]) (exI g x) = upL g t0) := by show _ = _; rw [← HU.out, upG, if_pos ⟨hn, hh⟩]
        have HN2 : Hid (Nd g.ts.length 0 (L ++ [x])) := by have := HN.out.step x; rw [stepC_new hn hh] at this; exact this
        obtain ⟨q, rfl, hq⟩ := num_nat hn
        have HX : Hid (exI g (q : Int) = g.ts[q].ex) := exI_at hq
        obtain ⟨tb, off, hta, h6, h7, hty⟩ := HG.out.ty (by intro e; rw [e] at hq; simp at hq)
        have HTY : Hid (∀ W, Below w0.heap.size w0 W → W.cell? ⟨w.heap.size, 0, none⟩ = some (.slice (some ⟨tb, off, none⟩) g.ts.length g.tc) ∧ W.cell? ⟨tb, off + q * 4 + 2, none⟩ = some (.int .i64 g.ts[q].ex)) := fun W hW => ⟨(hty W hW).1, ((hty W hW).2 q hq).2.2.1⟩
        unfold maxLen at h7
        clear hty hn hh hta
        generalize g.ts[q].ex = y at *
        go_wp2_with (at_builtin; go_must (refine wpList_append_int (v := u5) rfl (.tmp 15) (.tmp 17) rfl w0.heap.size rfl rfl (HO1.out.later (made_below _ _ _)) (one_int w1 q _ rfl) (by omega) (Nat.le_trans HB1.out.size (made_below _ _ _).size) ?_; intro v5 w5 ho5 hg5; have hB5 := (bbox HB1.out _).trans (grown_below11 (HO1.out.later (made_below _ _ _)) hg5 (Nat.le_refl _) (Nat.le_trans HB1.out.size (made_below _ _ _).size)); obtain ⟨d0, d1⟩ := HTY.out w5 hB5))
        have hl5 := ho5.lenV
        clear d0 d1
        go_roundw
        case rel => exact ⟨y, k', L ++ [(q : Int)], rfl, ho5, hB5, HN2.out, by simp; omega, by rw [← HX.out]; exact HU2.out⟩
        case measure => simp at hl5; omega

end Go.Proofs.YtclmafoelibihaaGreat

/- Where all types are well: below is an order. No function is named here. -/
namespace Go.Proofs.YtclmafoelibihaaGreat
set_option linter.unusedVariables false
set_option linter.unusedSimpArgs false
open Go.RowKit

theorem wrgL_ok (g : Img) : ∀ (k i : Nat), (wrgL g k i).2 = 0 → ∀ j, i ≤ j → j < i + k → errT g j = 0
  | 0, i, _, j, h1, h2 => by omega
  | k + 1, i, h, j, h1, h2 => by
    unfold wrgL at h
    by_cases he : errT g i = 0
    · rw [if_pos he] at h
      by_cases hij : j = i
      · subst hij; exact he
      · exact wrgL_ok g k (i + 1) h j (by omega) (by omega)
    · rw [if_neg he] at h; exact absurd h he
theorem wel_all {g : Img} (h : welB g = true) : imB g = true ∧ ∀ t, numB t g.ts.length = true → flgF (flI g t) (exI g t) = true ∧ extB g t = true ∧ facB g t = true ∧ nmdB g t = true ∧ szdB g t = true := by
  unfold welB chkI at h
  rw [decide_eq_true_iff] at h
  by_cases hi : imB g = true
  · rw [if_pos hi] at h
    refine ⟨hi, fun t ht => ?_⟩
    have ht' := numB_iff.1 ht
    have := wrgL_ok g _ _ h t.toNat (Nat.zero_le _) (by omega)
    rw [show ((t.toNat : Nat) : Int) = t by omega] at this
    unfold errT at this
    cases ha : (flgF (flI g t) (exI g t) && extB g t && facB g t) with
    | false => rw [ha, if_pos rfl] at this; omega
    | true =>
      rw [ha, if_neg (by decide)] at this
      cases hb : nmdB g t with
      | false => rw [hb, if_pos rfl] at this; omega
      | true =>
        rw [hb, if_neg (by decide)] at this
        cases hc : szdB g t with
        | false => rw [hc, if_pos rfl] at this; omega
        | true =>
          rw [Bool.and_eq_true, Bool.and_eq_true] at ha
          exact ⟨ha.1.1, ha.1.2, ha.2, rfl, rfl⟩
  · rw [if_neg hi] at h; simp at h

/-- Going up, so many steps. -/
def chnL (g : Img) : Nat → Int → List Int
  | 0, _ => []
  | k + 1, t => if numB t g.ts.length = true then t :: chnL g k (exI g t) else []
theorem upG_chn (g : Img) : ∀ (k : Nat) (l : List Int) (t : Int) (K : Nat), k ≤ K → (k ≠ 0 ∨ l ≠ []) → (∀ h : l ≠ [], exI g (l.getLast h) = t) →
    (∀ h : upG g k l t ≠ [], numB (exI g ((upG g k l t).getLast h)) g.ts.length = false) → upG g k l t = l ++ chnL g K t
  | 0, l, t, K, hk, h0, hl, hs => by
    have hne : l ≠ [] := by exact h0.resolve_left (fun h => h rfl)
    have := hs hne
    have h2 : numB t g.ts.length = false := by rw [← hl hne]; exact this
    show l = l ++ chnL g K t
    cases K with
    | zero => simp [chnL]
    | succ K => unfold chnL; rw [h2]; simp
  | k + 1, l, t, K, hk, h0, hl, hs => by
    obtain ⟨K', rfl⟩ : ∃ K', K = K' + 1 := ⟨K - 1, by omega⟩
    by_cases hc : numB t g.ts.length = true ∧ l.contains t = false
    · have he : upG g (k + 1) l t = upG g k (l ++ [t]) (exI g t) := by rw [upG, if_pos hc]
      have ih := upG_chn g k (l ++ [t]) (exI g t) K' (by omega) (Or.inr (by simp)) (fun h => by simp) (fun h => by
        have := hs (by rw [he]; exact h)
        simpa [he] using this)
      have hcn : chnL g (K' + 1) t = t :: chnL g K' (exI g t) := by show (if _ then _ else _) = _; rw [if_pos hc.1]
      rw [he, ih, hcn, List.append_assoc]; rfl
    · have he : upG g (k + 1) l t = l := by rw [upG, if_neg hc]
      rw [he]
      have hn : numB t g.ts.length = false := by
        by_cases hne : l = []
        · subst hne
          cases hn : numB t g.ts.length with
          | false => rfl
          | true => exact absurd ⟨hn, by simp⟩ hc
        · have := hs (by rw [he]; exact hne)
          rw [← hl hne]
          simpa [he] using this
      unfold chnL
      rw [hn]; simp

/-- The facts of an image whose types are well. -/
structure Wel (g : Img) : Prop where
  im : imB g = true
  flg : ∀ t, numB t g.ts.length = true → flgF (flI g t) (exI g t) = true
  ext : ∀ t, numB t g.ts.length = true → extB g t = true
  fac : ∀ t, numB t g.ts.length = true → facB g t = true
theorem Wel.of {g : Img} (h : welB g = true) : Wel g := by
  obtain ⟨h1, h2⟩ := wel_all h
  exact ⟨h1, fun t ht => (h2 t ht).1, fun t ht => (h2 t ht).2.1, fun t ht => (h2 t ht).2.2.1⟩

theorem upL_nd (g : Img) (t : Int) : Nd g.ts.length 0 (upL g t) := by rw [← upL_eq]; exact reachL_nd _ _ _
theorem upL_iff {g : Img} {t x : Int} : x ∈ upL g t ↔ Rch g.ts.length (upS g) [t] x := by rw [← upL_eq]; exact reachL_iff
theorem upL_out {g : Img} {t : Int} (h : numB t g.ts.length = false) : upL g t = [] := by unfold upL; rw [upG, if_neg (by rw [h]; simp)]
theorem upL_self {g : Img} {t : Int} (h : numB t g.ts.length = true) : t ∈ upL g t := upL_iff.2 (fun S hS _ => hS t (by simp) h)
theorem upL_chn {g : Img} (W : Wel g) {t : Int} (h : numB t g.ts.length = true) : ∀ K, g.ts.length + 2 ≤ K → upL g t = chnL g K t := by
  intro K hK
  have hx := W.ext t h
  unfold extB at hx
  rw [Bool.and_eq_true] at hx
  have := upG_chn g (g.ts.length + 2) [] t K hK (Or.inl (by omega)) (fun h => absurd rfl h) (fun hne => by
    have h2 := hx.2
    unfold upL at h2
    rw [List.getLast?_eq_some_getLast hne] at h2
    simp only [decide_eq_true_iff] at h2
    rw [h2]; rfl)
  simpa [upL] using this
/-- Going up is the type, and going up from what it extends. -/
theorem upL_cons {g : Img} (W : Wel g) {t : Int} (h : numB t g.ts.length = true) : upL g t = t :: upL g (exI g t) := by
  rw [upL_chn W h (g.ts.length + 3) (by omega)]
  unfold chnL
  rw [if_pos h]
  cases he : numB (exI g t) g.ts.length with
  | true => rw [← upL_chn W he (g.ts.length + 2) (Nat.le_refl _)]
  | false => rw [upL_out he]; unfold chnL; rw [he]; simp
theorem upL_last {g : Img} (W : Wel g) {t : Int} (h : numB t g.ts.length = true) : ∀ hne : upL g t ≠ [], exI g ((upL g t).getLast hne) = -1 := by
  intro hne
  have hx := W.ext t h
  unfold extB at hx
  rw [Bool.and_eq_true] at hx
  have h2 := hx.2
  rw [List.getLast?_eq_some_getLast hne] at h2
  simpa using h2
/-- What is come to going up has a shorter way up. -/
theorem upL_suffix {g : Img} (W : Wel g) : ∀ (n : Nat) (x y : Int), numB x g.ts.length = true → (upL g x).length ≤ n → y ∈ upL g x → upL g y <:+ upL g x
  | 0, x, y, hx, hn, hy => by rw [upL_cons W hx] at hn; simp at hn
  | n + 1, x, y, hx, hn, hy => by
    have hc := upL_cons W hx
    rw [hc] at hy
    rcases List.mem_cons.1 hy with rfl | hy
    · exact List.suffix_rfl
    · have he : numB (exI g x) g.ts.length = true := by
        cases he : numB (exI g x) g.ts.length with
        | true => rfl
        | false => rw [upL_out he] at hy; simp at hy
      have := upL_suffix W n (exI g x) y he (by rw [hc] at hn; simpa using hn) hy
      rw [hc]
      exact this.trans (List.suffix_cons _ _)
theorem upL_anti {g : Img} (W : Wel g) {x y : Int} (hx : numB x g.ts.length = true) (hy : numB y g.ts.length = true) (h1 : y ∈ upL g x) (h2 : x ∈ upL g y) : x = y := by
  have a := upL_suffix W _ x y hx (Nat.le_refl _) h1
  have b := upL_suffix W _ y x hy (Nat.le_refl _) h2
  have e : upL g y = upL g x := a.eq_of_length (Nat.le_antisymm a.length_le b.length_le)
  rw [upL_cons W hx, upL_cons W hy] at e
  exact (List.cons.inj e).1.symm

/-- What is an interface extends nothing. -/
theorem kind_face {g : Img} (W : Wel g) {t : Int} (h : kndI g t = 2) : numB t g.ts.length = true ∧ exI g t = -1 := by
  have hn : numB t g.ts.length = true := by
    cases hn : numB t g.ts.length with
    | true => rfl
    | false => unfold kndI at h; rw [hn] at h; simp at h
  refine ⟨hn, ?_⟩
  have hf := W.flg t hn
  unfold kndI at h
  rw [if_pos hn] at h
  unfold flgF at hf
  rw [if_pos h, Bool.and_eq_true] at hf
  simpa using hf.1
theorem upL_face {g : Img} (W : Wel g) {t : Int} (h : kndI g t = 2) : upL g t = [t] := by
  obtain ⟨hn, he⟩ := kind_face W h
  rw [upL_cons W hn, he, upL_out rfl]
theorem facL_face {g : Img} (W : Wel g) {t : Int} (h : kndI g t = 2) {x : Int} : x ∈ facL g t ↔ Rch g.ts.length (fsI g) (fsI g t) x := by
  unfold facL
  rw [reachL_iff, upL_face W h]; simp
theorem facL_iff {g : Img} {t x : Int} : x ∈ facL g t ↔ Rch g.ts.length (fsI g) ((upL g t).flatMap (fsI g)) x := by unfold facL; rw [reachL_iff]
theorem up_num {g : Img} {t x : Int} (h : x ∈ upL g t) : numB x g.ts.length = true := (upL_nd g t).1 x h
theorem fac_kind1 {g : Img} (W : Wel g) {t f : Int} (ht : numB t g.ts.length = true) (h : f ∈ fsI g t) : kndI g f = 2 := by
  have hf := W.fac t ht
  unfold facB at hf
  rw [Bool.and_eq_true, Bool.and_eq_true, List.all_eq_true] at hf
  simpa using hf.1.1 f h
/-- All faces are interfaces. -/
theorem fac_kind {g : Img} (W : Wel g) {t f : Int} (h : f ∈ facL g t) : kndI g f = 2 := by
  refine facL_iff.1 h (fun f => kndI g f = 2) (fun y hy _ => ?_) (fun y hy z hz _ => fac_kind1 W (kind_face W hy).1 hz)
  obtain ⟨u, hu, hy⟩ := List.mem_flatMap.1 hy
  exact fac_kind1 W (up_num hu) hy
/-- All that is come to going up, behind the type itself, are classes. -/
theorem up_kind {g : Img} (W : Wel g) : ∀ (n : Nat) (t : Int), numB t g.ts.length = true → (upL g t).length ≤ n → ∀ u ∈ (upL g t).drop 1, kndI g u = 0
  | 0, t, ht, hn, u, hu => by rw [upL_cons W ht] at hn; simp at hn
  | n + 1, t, ht, hn, u, hu => by
    have hc := upL_cons W ht
    rw [hc] at hu hn
    simp only [List.drop_succ_cons, List.drop_zero] at hu
    have he : numB (exI g t) g.ts.length = true := by
      cases he : numB (exI g t) g.ts.length with
      | true => rfl
      | false => rw [upL_out he] at hu; simp at hu
    have hc2 := upL_cons W he
    rw [hc2] at hu
    rcases List.mem_cons.1 hu with rfl | hu
    · have hx := W.ext t ht
      unfold extB at hx
      rw [Bool.and_eq_true] at hx
      rw [Bool.or_eq_true] at hx
      rcases hx.1 with h | h
      · rw [decide_eq_true_iff] at h; rw [h] at he; simp [numB] at he
      · rw [Bool.and_eq_true] at h; simpa using h.1
    · exact up_kind W n (exI g t) he (by simpa using hn) u (by rw [hc2]; simpa using hu)
theorem up_mem_drop {g : Img} (W : Wel g) {t u : Int} (ht : numB t g.ts.length = true) (hu : u ∈ upL g t) (hne : u ≠ t) : u ∈ (upL g t).drop 1 := by
  rw [upL_cons W ht] at hu ⊢
  rcases List.mem_cons.1 hu with rfl | hu
  · exact absurd rfl hne
  · simpa using hu

theorem bel_iff {g : Img} {a b : Int} : belB g a b = true ↔ b ∈ upL g a ∨ b ∈ facL g a := by unfold belB; rw [Bool.or_eq_true, List.contains_iff_mem, List.contains_iff_mem]
theorem bel_self {g : Img} {t : Int} (h : numB t g.ts.length = true) : belB g t t = true := bel_iff.2 (Or.inl (upL_self h))
theorem fac_up {g : Img} {a b c : Int} (h : b ∈ upL g a) (hc : c ∈ facL g b) : c ∈ facL g a := by
  refine facL_iff.2 ((facL_iff.1 hc).mono fun y hy => ?_)
  obtain ⟨u, hu, hy⟩ := List.mem_flatMap.1 hy
  refine List.mem_flatMap.2 ⟨u, ?_, hy⟩
  refine upL_iff.2 (fun S hS hT => upL_iff.1 hu S (fun y hy _ => ?_) hT)
  simp at hy; subst hy
  exact upL_iff.1 h S hS hT
theorem up_trans {g : Img} {a b c : Int} (h : b ∈ upL g a) (hc : c ∈ upL g b) : c ∈ upL g a :=
  upL_iff.2 (fun S hS hT => upL_iff.1 hc S (fun y hy _ => by simp at hy; subst hy; exact upL_iff.1 h S hS hT) hT)
theorem fac_trans {g : Img} (W : Wel g) {a b c : Int} (h : b ∈ facL g a) (hc : c ∈ facL g b) : c ∈ facL g a :=
  facL_iff.2 ((facL_iff.1 h).trans ((facL_face W (fac_kind W h)).1 hc))
theorem bel_trans {g : Img} (W : Wel g) {a b c : Int} (h1 : belB g a b = true) (h2 : belB g b c = true) : belB g a c = true := by
  rcases bel_iff.1 h1 with h1 | h1
  · rcases bel_iff.1 h2 with h2 | h2
    · exact bel_iff.2 (Or.inl (up_trans h1 h2))
    · exact bel_iff.2 (Or.inr (fac_up h1 h2))
  · rcases bel_iff.1 h2 with h2 | h2
    · rw [upL_face W (fac_kind W h1)] at h2
      simp at h2; subst h2
      exact bel_iff.2 (Or.inr h1)
    · exact bel_iff.2 (Or.inr (fac_trans W h1 h2))
theorem bel_anti {g : Img} (W : Wel g) {a b : Int} (ha : numB a g.ts.length = true) (hb : numB b g.ts.length = true) (h1 : belB g a b = true) (h2 : belB g b a = true) : a = b := by
  rcases bel_iff.1 h1 with h1 | h1
  · rcases bel_iff.1 h2 with h2 | h2
    · exact upL_anti W ha hb h1 h2
    · rw [upL_face W (fac_kind W h2)] at h1
      simp at h1; exact h1.symm
  · rcases bel_iff.1 h2 with h2 | h2
    · rw [upL_face W (fac_kind W h1)] at h2
      simp at h2; exact h2
    · have hk := fac_kind W h2
      have hf := W.fac a ha
      unfold facB at hf
      rw [Bool.and_eq_true] at hf
      have h3 := hf.2
      have hr : a ∈ reachL g.ts.length (fsI g) (fsI g a) := by
        rw [reachL_iff, ← facL_face W hk]
        exact fac_trans W h1 h2
      rw [Bool.or_eq_true] at h3
      rcases h3 with h3 | h3
      · rw [decide_eq_true_iff] at h3; exact absurd hk h3
      · have hr' := List.contains_iff_mem.2 hr
        rw [hr'] at h3; cases h3
/-- Its interfaces hold those of what it extends. -/
theorem fac_ext {g : Img} (W : Wel g) {t f : Int} (ht : numB t g.ts.length = true) (h : f ∈ facL g (exI g t)) : f ∈ facL g t := by
  cases he : numB (exI g t) g.ts.length with
  | true => exact fac_up (by rw [upL_cons W ht]; exact List.mem_cons_of_mem _ (upL_self he)) h
  | false =>
    have h' := facL_iff.1 h
    rw [upL_out he] at h'
    exact absurd (h' (fun _ => False) (fun y hy _ => absurd hy (by simp)) (fun _ h _ _ _ => h)) id

end Go.Proofs.YtclmafoelibihaaGreat

/- A contract of the library at this seat, laid by its own plain mode. -/
namespace Go.Proofs.YtclmafoelibihaaGreat
open Go.Shelf
def lays189_ren : Go.Shelf.Ren := ⟨fun | 189 => 24 | 125 => 40 | 257 => 39 | 128 => 76 | 129 => 77 | 294 => 67 | 295 => 68 | 296 => 69 | 297 => 70 | 298 => 71 | 299 => 72 | 216 => 73 | 300 => 74 | 301 => 75 | 328 => 111 | 329 => 112 | 330 => 113 | 331 => 114 | 332 => 115 | 215 => 116 | 343 => 145 | n => n, fun | 28 => 31 | 3 => 3 | 46 => 63 | 0 => 0 | 51 => 93 | 53 => 95 | 4 => 4 | 183 => 86 | 182 => 85 | 131 => 90 | 5 => 5 | 9 => 9 | 218 => 106 | 222 => 110 | 228 => 144 | 229 => 49 | n => n, fun | n => n⟩
theorem lays189 : Go.Proofs.Lays.n189 Tryz.prog lays189_ren := {
  mixed := by kernel_rfl
  f125 := Tryz.func40.trans (congrArg some (by kernel_rfl))
  f128 := Tryz.func76.trans (congrArg some (by kernel_rfl))
  f129 := Tryz.func77.trans (congrArg some (by kernel_rfl))
  f189 := Tryz.func24.trans (congrArg some (by kernel_rfl))
  f215 := Tryz.func116.trans (congrArg some (by kernel_rfl))
  f216 := Tryz.func73.trans (congrArg some (by kernel_rfl))
  f257 := Tryz.func39.trans (congrArg some (by kernel_rfl))
  f294 := Tryz.func67.trans (congrArg some (by kernel_rfl))
  f295 := Tryz.func68.trans (congrArg some (by kernel_rfl))
  f296 := Tryz.func69.trans (congrArg some (by kernel_rfl))
  f297 := Tryz.func70.trans (congrArg some (by kernel_rfl))
  f298 := Tryz.func71.trans (congrArg some (by kernel_rfl))
  f299 := Tryz.func72.trans (congrArg some (by kernel_rfl))
  f300 := Tryz.func74.trans (congrArg some (by kernel_rfl))
  f301 := Tryz.func75.trans (congrArg some (by kernel_rfl))
  f328 := Tryz.func111.trans (congrArg some (by kernel_rfl))
  f329 := Tryz.func112.trans (congrArg some (by kernel_rfl))
  f330 := Tryz.func113.trans (congrArg some (by kernel_rfl))
  f331 := Tryz.func114.trans (congrArg some (by kernel_rfl))
  f332 := Tryz.func115.trans (congrArg some (by kernel_rfl))
  f343 := Tryz.func145.trans (congrArg some (by kernel_rfl))
  t0 := Tryz.underlying0
  a0 := Tryz.isAgg0
  z0 := Tryz.sizeOf0
  v0 := Tryz.zeroValue0
  t3 := Tryz.underlying3
  a3 := Tryz.isAgg3
  z3 := Tryz.sizeOf3
  v3 := Tryz.zeroValue3
  t4 := Tryz.underlying4
  a4 := Tryz.isAgg4
  z4 := Tryz.sizeOf4
  v4 := Tryz.zeroValue4
  t5 := Tryz.underlying5
  a5 := Tryz.isAgg5
  z5 := Tryz.sizeOf5
  v5 := Tryz.zeroValue5
  t9 := Tryz.underlying9
  a9 := Tryz.isAgg9
  z9 := Tryz.sizeOf9
  v9 := Tryz.zeroValue9
  t28 := Tryz.underlying31
  a28 := Tryz.isAgg31
  z28 := Tryz.sizeOf31
  v28 := Tryz.zeroValue31
  t46 := Tryz.underlying63
  a46 := Tryz.isAgg63
  z46 := Tryz.sizeOf63
  v46 := Tryz.zeroValue63
  t51 := Tryz.underlying93
  a51 := Tryz.isAgg93
  z51 := Tryz.sizeOf93
  v51 := Tryz.zeroValue93
  t53 := Tryz.underlying95
  a53 := Tryz.isAgg95
  z53 := Tryz.sizeOf95
  v53 := Tryz.zeroValue95
  t131 := Tryz.underlying90
  a131 := Tryz.isAgg90
  z131 := Tryz.sizeOf90
  v131 := Tryz.zeroValue90
  t182 := Tryz.underlying85
  a182 := Tryz.isAgg85
  z182 := Tryz.sizeOf85
  v182 := Tryz.zeroValue85
  t183 := Tryz.underlying86
  a183 := Tryz.isAgg86
  z183 := Tryz.sizeOf86
  v183 := Tryz.zeroValue86
  t218 := Tryz.underlying106
  a218 := Tryz.isAgg106
  z218 := Tryz.sizeOf106
  v218 := Tryz.zeroValue106
  t222 := Tryz.underlying110
  a222 := Tryz.isAgg110
  z222 := Tryz.sizeOf110
  v222 := Tryz.zeroValue110
  t228 := Tryz.underlying144
  a228 := Tryz.isAgg144
  z228 := Tryz.sizeOf144
  v228 := Tryz.zeroValue144
  t229 := Tryz.underlying49
  a229 := Tryz.isAgg49
  z229 := Tryz.sizeOf49
  v229 := Tryz.zeroValue49 }
open Go.Sort Go.RowKit in
theorem slices_Sort_int (blk off cap : Nat) (zs : List Int) (w : World) (hH : Holds (Value.int .i64) w blk off zs.toArray) (hblk : blk < w.heap.size) (hsz : zs.length < 4611686018427387904) :
    Calls Tryz.prog 24 #[.slice (some ⟨blk, off, none⟩) zs.length cap] w fun e w' =>
      e = .returned (.tuple #[]) ∧ ∃ n os, w' = grow (putRow (Value.int .i64) (Sort.ahead w n) blk off (zs.mergeSort fun x y => decide (x ≤ y)).toArray) os := Any.slices_Sort_int lays189 blk off cap zs w hH hblk hsz
open Go.RowKit in
theorem slices_Sort_int_none (p : Option Addr) (cap : Nat) (w : World) : Calls Tryz.prog 24 #[.slice p 0 cap] w fun e w' => e = .returned (.tuple #[]) ∧ w' = w := Any.slices_Sort_int_none lays189 p cap w
end Go.Proofs.YtclmafoelibihaaGreat
