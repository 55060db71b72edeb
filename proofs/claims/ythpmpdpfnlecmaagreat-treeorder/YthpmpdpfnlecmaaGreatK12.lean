/- Texts joined: Has11, Keep10, Met11, Come11. -/
import Derived.Test.YthpmpdpfnlecmaaGreatK11
import Derived.Test.YthpmpdpfnlecmaaGreatK09
import Derived.Maps.OwnSet
import Derived.Maps.OwnOps
namespace Go.Proofs.YthpmpdpfnlecmaaGreat
set_option linter.unusedVariables false
set_option linter.unusedSimpArgs false
open Go.RowKit
attribute [local go_sem ↓] Go.wp_at_zero Go.wp_at_succ
theorem has_step {l : List Int} {n : Int} {q : Nat} (hq : q < l.length) (h : (l.take q).contains n = false) (hx : l[q] ≠ n) : (l.take (q + 1)).contains n = false := by
 rw [List.take_succ_eq_append_getElem hq]
 rw [Bool.eq_false_iff]
 intro hc
 rw [List.contains_iff_mem] at hc
 rcases List.mem_append.1 hc with hc | hc
 ·rw [List.contains_iff_mem.2 hc] at h; cases h
 ·simp at hc; exact hx hc.symm
theorem has_yes {l : List Int} {n : Int} {q : Nat} (hq : q < l.length) (hx : l[q] = n) : l.contains n = true := by
 rw [List.contains_iff_mem, ← hx]; exact List.getElem_mem hq
theorem has_done {l : List Int} {n : Int} {q : Nat} (hq : ¬ q < l.length) (h : (l.take q).contains n = false) : l.contains n = false := by
 rwa [List.take_of_length_le (by omega)] at h
/-- A slice of numbers, cell by cell. -/
theorem Is.parts {w : World} {v : Value} {l : List Int} (h : Is w v l) (hne : l ≠ []) : ∃ b off cap, v = .slice (some ⟨b, off, none⟩) l.length cap ∧ l.length ≤ cap ∧ cap ≤ maxLen ∧ b < w.heap.size ∧ ∀ i (hi : i < l.length), w.cell? ⟨b, off + i, none⟩ = some (.int .i64 l[i]) := by
 obtain ⟨a, cap, rfl, h1, h2, h3⟩ := h
 rw [i64s_length] at h1
 obtain ⟨b, off, rfl, hb, hc⟩ := h3 (by intro e; apply hne; simpa [i64s] using e)
 refine ⟨b, off, cap, by rw [i64s_length], h1, h2, hb, fun i hi => ?_⟩
 rw [hc i (by rw [i64s_length]; exact hi)]; simp [i64s]
theorem Is.shape {w : World} {v : Value} {l : List Int} (h : Is w v l) : ∃ a c, v = .slice a l.length c ∧ l.length ≤ c ∧ c ≤ maxLen := by
 obtain ⟨a, cap, rfl, h1, h2, _⟩ := h
 rw [i64s_length] at h1
 exact ⟨a, cap, by rw [i64s_length], h1, h2⟩
/-- Where a slice of numbers lies. -/
theorem Is.at {w : World} {a : Option Addr} {c n : Nat} {l : List Int} (h : Is w (.slice a n c) l) {q : Nat} (hq : q < l.length) : ∃ b off, a = some ⟨b, off, none⟩ ∧ b < w.heap.size ∧ n = l.length ∧ n ≤ c ∧ c ≤ maxLen ∧ ∀ i (hi : i < l.length), w.cell? ⟨b, off + i, none⟩ = some (.int .i64 l[i]) := by
 obtain ⟨b, off, cap, hv, h1, h2, hb, hc⟩ := h.parts (by intro e; rw [e] at hq; simp at hq)
 simp only [Value.slice.injEq] at hv
 obtain ⟨rfl, rfl, rfl⟩ := hv
 exact ⟨b, off, rfl, hb, rfl, h1, h2, hc⟩

/-- Has, of whatever list. -/
theorem refHas_none (a : Option Addr) (cap : Nat) (n : Int) (w : World) :
  Calls Tryz.prog 18 #[.slice a 0 cap, .int .i64 n] w fun e w' => e = .returned (.bool false) ∧ w' = w := by
 go_enter Tryz.func18, Tryz.ntmps18
 go_wp2
 refine wp_loop_rounds 1 ?_; rw [rounds_succ]
 go_wp2
 go_ret
 exact ⟨rfl, rfl⟩
set_option maxHeartbeats 1000000 in
theorem refHas_some {b off cap : Nat} {l : List Int} {n : Int} {w : World} (hl : l.length ≤ maxLen) (hc : ∀ i (hi : i < l.length), w.cell? ⟨b, off + i, none⟩ = some (.int .i64 l[i])) :
  Calls Tryz.prog 18 #[.slice (some ⟨b, off, none⟩) l.length cap, .int .i64 n] w fun e w' => e = .returned (.bool (l.contains n)) ∧ w' = w := by
 unfold maxLen at hl
 have HC : Hid (∀ i (hi : i < l.length), w.cell? ⟨b, off + i, none⟩ = some (.int .i64 l[i])) := hc
 clear hc
 go_enter Tryz.func18, Tryz.ntmps18
 go_wp2_with fail
 go_loopw [5] (fun z wr => ∃ q : Nat, q ≤ l.length ∧ z = .int .i64 q ∧ wr = w ∧ Hid ((l.take q).contains n = false)) (fun z _ => l.length - (intOf z).toNat)
 case atStart => exact ⟨0, Nat.zero_le _, rfl, rfl, by show _ = _; simp⟩
 case round =>
  obtain ⟨q, hq, rfl, rfl, HA⟩ := hrel
  by_cases hql : q < l.length
  ·have cq := HC.out q hql
   have HY : Hid (l[q] ≠ n → (l.take (q + 1)).contains n = false) := fun h => has_step hql HA.out h
   have HN : Hid (l[q] = n → l.contains n = true) := fun h => has_yes hql h
   generalize l[q] = y at *
   by_cases hyn : y = n
   ·have HR := HN.out hyn
    have hb : (y == n) = true := by simpa using hyn
    have HRh : Hid (l.contains n = true) := HR
    clear HY HN HR hyn
    go_wp2_with fail
    go_ret
    exact ⟨ret_bool HRh.out.symm, rfl⟩
   ·have hb : (y == n) = false := by simpa using hyn
    have HY2 : Hid ((l.take (q + 1)).contains n = false) := HY.out hyn
    clear HY HN hyn
    go_wp2_with fail
    go_roundw
    case rel => exact ⟨q + 1, by omega, by go_num, by simp, HY2.out⟩
    case measure => simp [intOf]; omega
  ·have HD : Hid (l.contains n = false) := has_done hql HA.out
   go_wp2_with fail
   go_ret
   exact ⟨ret_bool HD.out.symm, rfl⟩
theorem refHas_any {v : Value} {l : List Int} {w : World} (h : Is w v l) (n : Int) :
  Calls Tryz.prog 18 #[v, .int .i64 n] w fun e w' => e = .returned (.bool (l.contains n)) ∧ w' = w := by
 by_cases hne : l = []
 ·subst hne
  obtain ⟨a, c, rfl, _, _⟩ := h.shape
  exact refHas_none a c n w
 ·obtain ⟨b, off, cap, rfl, h1, h2, hb, hc⟩ := h.parts hne
  exact refHas_some (by omega) hc

/-- slices.Index, slices.Contains. -/
theorem index11_none (a : Option Addr) (cap : Nat) (n : Int) (w : World) :
  Calls Tryz.prog 69 #[.slice a 0 cap, .int .i64 n] w fun e w' => e = .returned (.int .i64 (-1)) ∧ w' = w := by
 go_enter Tryz.func69, Tryz.ntmps69
 go_wp2
 refine wp_loop_rounds 1 ?_; rw [rounds_succ]
 go_wp2
 go_ret
 exact ⟨rfl, rfl⟩
set_option maxHeartbeats 1000000 in
theorem index11_some {b off cap : Nat} {l : List Int} {n : Int} {w : World} (hl : l.length ≤ maxLen) (hc : ∀ i (hi : i < l.length), w.cell? ⟨b, off + i, none⟩ = some (.int .i64 l[i])) :
  Calls Tryz.prog 69 #[.slice (some ⟨b, off, none⟩) l.length cap, .int .i64 n] w fun e w' => (∃ k : Int, e = .returned (.int .i64 k) ∧ decide (0 ≤ k) = l.contains n) ∧ w' = w := by
 unfold maxLen at hl
 have HC : Hid (∀ i (hi : i < l.length), w.cell? ⟨b, off + i, none⟩ = some (.int .i64 l[i])) := hc
 clear hc
 go_enter Tryz.func69, Tryz.ntmps69
 go_wp2_with fail
 go_loopw [5, 8] (fun _ z wr => ∃ q : Nat, q ≤ l.length ∧ z = .int .i64 q ∧ wr = w ∧ Hid ((l.take q).contains n = false)) (fun _ z _ => l.length - (intOf z).toNat)
 case atStart => exact ⟨0, Nat.zero_le _, rfl, rfl, by show _ = _; simp⟩
 case round =>
  obtain ⟨q, hq, rfl, rfl, HA⟩ := hrel
  by_cases hql : q < l.length
  ·have cq := HC.out q hql
   have HY : Hid (l[q] ≠ n → (l.take (q + 1)).contains n = false) := fun h => has_step hql HA.out h
   have HN : Hid (l[q] = n → l.contains n = true) := fun h => has_yes hql h
   generalize l[q] = y at *
   by_cases hyn : y = n
   ·have hb : (n == y) = true := by simpa using hyn.symm
    have HRh : Hid (l.contains n = true) := HN.out hyn
    clear HY HN hyn
    go_wp2_with fail
    go_ret
    exact ⟨⟨_, rfl, by rw [HRh.out]; simp⟩, rfl⟩
   ·have hb : (n == y) = false := by simpa using fun h => hyn (Eq.symm h)
    have HY2 : Hid ((l.take (q + 1)).contains n = false) := HY.out hyn
    clear HY HN hyn
    go_wp2_with fail
    go_roundw
    case rel => exact ⟨q + 1, by omega, by go_num, by simp, HY2.out⟩
    case measure => simp [intOf]; omega
  ·have HD : Hid (l.contains n = false) := has_done hql HA.out
   go_wp2_with fail
   go_ret
   exact ⟨⟨_, rfl, by rw [HD.out]; rfl⟩, rfl⟩
theorem contains11_any {v : Value} {l : List Int} {w : World} (h : Is w v l) (n : Int) :
  Calls Tryz.prog 33 #[v, .int .i64 n] w fun e w' => e = .returned (.bool (l.contains n)) ∧ w' = w := by
 have HI : Hid (Calls Tryz.prog 69 #[v, .int .i64 n] w fun e w' => (∃ k : Int, e = .returned (.int .i64 k) ∧ decide (0 ≤ k) = l.contains n) ∧ w' = w) := by
  by_cases hne : l = []
  ·subst hne
   obtain ⟨a, c, rfl, _, _⟩ := h.shape
   refine (index11_none a c n w).mono ?_
   rintro e w' ⟨rfl, rfl⟩
   exact ⟨⟨_, rfl, rfl⟩, rfl⟩
  ·obtain ⟨b, off, cap, rfl, h1, h2, hb, hc⟩ := h.parts hne
   exact index11_some (by omega) hc
 clear h
 generalize l.contains n = r at *
 go_enter Tryz.func33, Tryz.ntmps33
 go_wp2_with fail
 refine Calls.mono HI.out ?_
 rintro e wz ⟨⟨k, rfl, hk⟩, hz⟩
 subst wz
 have HK : Hid (decide (0 ≤ k) = r) := hk
 clear hk
 go_wp2
 go_ret
 exact ⟨ret_bool HK.out, rfl⟩
end Go.Proofs.YthpmpdpfnlecmaaGreat

namespace Go.Proofs.YthpmpdpfnlecmaaGreat
set_option linter.unusedVariables false
set_option linter.unusedSimpArgs false
open Go.RowKit
/-- All blocks of that element type stand. -/
def KeepT (t : TypeId) (w w' : World) : Prop := ∀ g C, At w g C t → At w' g C t
theorem KeepT.refl (t : TypeId) (w : World) : KeepT t w w := fun _ _ h => h
theorem KeepT.trans {t : TypeId} {a b c : World} (h : KeepT t a b) (k : KeepT t b c) : KeepT t a c := fun g C ha => k g C (h g C ha)
theorem KeepT.below {t : TypeId} {w w' : World} (h : Below w.heap.size w w') : KeepT t w w' := fun _ _ ha => ha.later h
theorem At.type_eq {w : World} {g : Nat} {C D : Array Value} {s t : TypeId} (h : At w g C s) (k : At w g D t) : s = t := by
 unfold At at h k
 rw [h] at k
 simp only [Option.some.injEq, Obj.cells.injEq] at k
 exact k.2.1
theorem KeepT.set {t s : TypeId} {w : World} {g o : Nat} {C : Array Value} (hA : At w g C s) (hne : s ≠ t) (u : Value) : KeepT t w (w.setCell ⟨g, o, none⟩ u) := fun g' C' h => by
 by_cases e : g' = g
 ·subst e; exact absurd (hA.type_eq h) hne
 ·exact h.other e u
theorem KeepT.grown {α : Type} {E : Enc α} {t s : TypeId} {w w' : World} {base : Nat} {v : Value} {l : List α} (ho : OwnE E w base s v l) (hne : t ≠ s) (hg : w.grownBy w' v.ownBlock) : KeepT t w w' := fun g C h => h.grownE ho hne hg
theorem OwnE.keep {α : Type} {E : Enc α} {t : TypeId} {w w' : World} {base : Nat} {v : Value} {l : List α} (h : OwnE E w base t v l) (hk : KeepT t w w') : OwnE E w' base t v l := by
 obtain ⟨h1, h2⟩ := h
 refine ⟨h1, ?_⟩
 rcases h2 with h2 | ⟨g, cap, cur, rfl, hg, hh, r⟩
 ·exact Or.inl h2
 ·exact Or.inr ⟨g, cap, cur, rfl, hg, hk g cur hh, r⟩
/-- What grows out of nothing leaves all that there was. -/
theorem grown_none {w w' : World} {n c : Nat} (hg : w.grownBy w' (Value.slice none n c).ownBlock) : Below w.heap.size w w' :=
 ⟨hg.os, hg.tape, hg.output, hg.size, fun k hk => hg.block k hk (fun e => by simp [Value.ownBlock] at e)⟩
end Go.Proofs.YthpmpdpfnlecmaaGreat

namespace Go.Proofs.YthpmpdpfnlecmaaGreat
set_option linter.unusedVariables false
set_option linter.unusedSimpArgs false
open Go.RowKit Go.Maps
attribute [local go_sem ↓] Go.wp_at_zero Go.wp_at_succ
/-- The set of the numbers of a list. -/
def metD (L : List Int) : DataW Unit := setOf (.agg []) (L.map (Lit.int .i64))
theorem any_int11 (x : Int) : ∀ l : List Int, l.any ((fun y : Lit => y.sameKey (.int .i64 x)) ∘ Lit.int .i64) = l.contains x
 | [] => rfl
 | a :: r => by
  rw [List.any_cons, List.contains_cons, any_int11 x r]
  congr 1
  show decide (IntKind.i64 = IntKind.i64 ∧ a = x) = (x == a)
  by_cases e : a = x
  ·subst e
   simp
  ·have e' : ¬ x = a := fun h => e h.symm
   simp [e, e']
theorem has_met (L : List Int) (x : Int) : Maps.has (metD L) (.int .i64 x) = L.contains x := by
 unfold metD
 rw [has_setOf _ _ _ (fun y hy => by obtain ⟨_, _, rfl⟩ := List.mem_map.1 hy; trivial), List.any_map]
 exact any_int11 x _
theorem met_put (L : List Int) (x : Int) : metD (L ++ [x]) = (metD L).put (.int .i64 x) (.agg []) := by
 unfold metD
 rw [List.map_append, List.map_singleton, setOf_snoc]
theorem law11 : Keyed Tryz.prog 3 := int_keyed Tryz.underlying3
theorem zero11 (w : World) : (zeroValue 83).run Tryz.prog w = .ok (.agg #[]) w := by kernel_rfl
/-- A number that an int can be. -/
def Wf (t : Int) : Prop := (Lit.int .i64 t).wf = true
theorem key11 {t : Int} (h : Wf t) : keyOf Tryz.prog 3 (.int .i64 t) = some (.int .i64 t) := keyOf_int_mk Tryz.underlying3 h

/-- What goOn keeps: the image's box, the list's, the map's, the map. -/
structure Met (win w : World) (gb lb mb mm : Nat) (g : Img) (lv : Value) (L : List Int) : Prop where
 im : Im win g
 bel : Below win.heap.size win w
 box : At w gb (imC g) 26
 l : At w lb #[lv] 31
 m : At w mb #[.map (some mm)] 82
 own : OwnI w win.heap.size lv L
 map : w.ownsMap Tryz.prog 3 (unitElem (H := Unit)) mm L.length (metD L)
 lo : win.heap.size ≤ gb ∧ win.heap.size ≤ lb ∧ win.heap.size ≤ mb ∧ win.heap.size ≤ mm
theorem Met.gbox {win w : World} {gb lb mb mm : Nat} {g : Img} {lv : Value} {L : List Int} (h : Met win w gb lb mb mm g lv L) : GB w gb g := ⟨h.box, h.im.later h.bel⟩
theorem ownsMap_later {w w' : World} {mm n : Nat} {D : DataW Unit} (h : w.ownsMap Tryz.prog 3 (unitElem (H := Unit)) mm n D) (hb : Below w.heap.size w w') : w'.ownsMap Tryz.prog 3 (unitElem (H := Unit)) mm n D := by
 have hlt := h.lt
 obtain ⟨es, clock, hh, r⟩ := h
 exact ⟨es, clock, (hb.block mm hlt).trans hh, r⟩
theorem ownsMap_ne {w : World} {mm n g : Nat} {D : DataW Unit} {C : Array Value} {t : TypeId} (h : w.ownsMap Tryz.prog 3 (unitElem (H := Unit)) mm n D) (hA : At w g C t) : g ≠ mm := by
 obtain ⟨es, clock, hh, r⟩ := h
 rintro rfl
 unfold At at hA
 rw [hh] at hA
 cases hA
theorem Met.later {win w w' : World} {gb lb mb mm : Nat} {g : Img} {lv : Value} {L : List Int} (h : Met win w gb lb mb mm g lv L) (hb : Below w.heap.size w w') : Met win w' gb lb mb mm g lv L :=
 ⟨h.im, bstep h.bel hb, h.box.later hb, h.l.later hb, h.m.later hb, h.own.later hb, ownsMap_later h.map hb, h.lo⟩
theorem Met.lv_ne {win w : World} {gb lb mb mm : Nat} {g : Img} {lv : Value} {L : List Int} (h : Met win w gb lb mb mm g lv L) : lv.ownBlock ≠ some gb ∧ lv.ownBlock ≠ some lb ∧ lv.ownBlock ≠ some mb ∧ lv.ownBlock ≠ some mm := by
 refine ⟨h.own.ne h.box (by decide), h.own.ne h.l (by decide), h.own.ne h.m (by decide), fun e => ?_⟩
 obtain ⟨C, hC⟩ := h.own.typed mm e
 exact ownsMap_ne h.map hC rfl
/-- Apart from what goOn writes. -/
def Sep (w : World) (tv : Value) (mm lb : Nat) (lv : Value) : Prop := ∀ k, tv.ownBlock = some k → k < w.heap.size ∧ k ≠ mm ∧ k ≠ lb ∧ lv.ownBlock ≠ some k
theorem Is.keep {w w' : World} {v : Value} {l : List Int} (h : Is w v l) (hs : w.heap.size ≤ w'.heap.size) (hk : ∀ k, v.ownBlock = some k → w'.heap[k]? = w.heap[k]?) : Is w' v l := Sl.of_block h hs fun k hv _ => hk k hv

/-- One more is met. -/
theorem Met.add {win w w2 w3 w4 w5 : World} {gb lb mb mm : Nat} {g : Img} {lv lv' tv : Value} {L ts : List Int} {t : Int} {o : Obj} (h : Met win w gb lb mb mm g lv L) (hi : Is w tv ts) (hs : Sep w tv mm lb lv)
  (hg2 : w.grownBy w2 (some mm)) (hm2 : w2.ownsMap Tryz.prog 3 (unitElem (H := Unit)) mm (L.length + 1) ((metD L).put (.int .i64 t) (.agg []))) (h3 : w3 = w2.alloc o)
  (ho4 : OwnI w4 win.heap.size lv' (L ++ [t])) (hg4 : w3.grownBy w4 lv.ownBlock) (hp : lv'.ownBlock = lv.ownBlock ∨ lv'.ownBlock = some w3.heap.size) (h5 : w5 = w4.setCell ⟨lb, 0, none⟩ lv') :
  Met win w5 gb lb mb mm g lv' (L ++ [t]) ∧ Is w5 tv ts ∧ Sep w5 tv mm lb lv' := by
 obtain ⟨n1, n2, n3, n4⟩ := h.lv_ne
 have m1 := ownsMap_ne h.map h.box
 have m2 := ownsMap_ne h.map h.l
 have m3 := ownsMap_ne h.map h.m
 have g1 : gb ≠ lb := fun e => by have := h.box; rw [e] at this; exact absurd (At.type_eq this h.l) (by decide)
 have g3 : mb ≠ lb := fun e => by have := h.m; rw [e] at this; exact absurd (At.type_eq this h.l) (by decide)
 have s2 := hg2.size
 have s3 : w3.heap.size = w2.heap.size + 1 := by rw [h3]; simp
 have s4 := hg4.size
 have s5 : w5.heap.size = w4.heap.size := by rw [h5]; simp
 have e5 : ∀ k, k ≠ lb → w5.heap[k]? = w4.heap[k]? := fun k hk => by rw [h5]; exact RowKit.Below.heap_setCell _ _ _ _ hk
 have e3 : ∀ k, k < w2.heap.size → w3.heap[k]? = w2.heap[k]? := fun k hk => by rw [h3]; exact heap_alloc_old w2 _ hk
 have ekeep : ∀ k, k < w.heap.size → k ≠ mm → lv.ownBlock ≠ some k → w4.heap[k]? = w.heap[k]? := fun k h1 h2 h4 => by
  rw [hg4.block k (by omega) (fun e => h4 e.symm), e3 k (by omega), hg2.block k h1 (fun e => h2 (by simpa using e))]
 have hl4 : At w4 lb #[lv] 31 := by
  have := h.l
  unfold At at this ⊢
  rw [ekeep lb h.l.lt m2 n2]; exact this
 have hown5 : lv'.ownBlock ≠ some lb := ho4.ne hl4 (by decide)
 refine ⟨⟨h.im, ⟨?_, ?_, ?_, ?_, fun k hk => ?_⟩, ?_, ?_, ?_, ?_, ?_, h.lo⟩, hi.keep (by omega) (fun k hk => ?_), fun k hk => ?_⟩
 ·rw [h5]; show w4.os = _; rw [hg4.os, h3]; show w2.os = _; rw [hg2.os]; exact h.bel.os
 ·rw [h5]; show w4.tape = _; rw [hg4.tape, h3]; show w2.tape = _; rw [hg2.tape]; exact h.bel.tape
 ·rw [h5]; show w4.output = _; rw [hg4.output, h3]; show w2.output = _; rw [hg2.output]; exact h.bel.output
 ·have := h.bel.size; omega
 ·have := h.bel.size
  have hlo := h.lo
  rw [e5 k (by omega), ekeep k (by omega) (by omega) (fun e => by have := (h.own.block k e).1; omega)]
  exact h.bel.block k hk
 ·have := h.box
  unfold At at this ⊢
  rw [e5 gb g1, ekeep gb h.box.lt m1 n1]; exact this
 ·rw [h5]; exact hl4.set 0 lv'
 ·have := h.m
  unfold At at this ⊢
  rw [e5 mb g3, ekeep mb h.m.lt m3 n3]; exact this
 ·refine ho4.of_block fun k hk _ => e5 k (fun e => ?_)
  rw [e] at hk; exact hown5 hk
 ·rw [met_put, List.length_append]
  obtain ⟨es, clock, hh, r⟩ := hm2
  have hlt := h.map.lt
  refine ⟨es, clock, ?_, r⟩
  rw [e5 mm (fun e => m2 e.symm), hg4.block mm (by omega) (fun e => n4 e.symm), e3 mm (by omega)]
  exact hh
 ·obtain ⟨k1, k2, k3, k4⟩ := hs k hk
  rw [e5 k k3, ekeep k k1 k2 k4]
 ·obtain ⟨k1, k2, k3, k4⟩ := hs k hk
  refine ⟨by omega, k2, k3, ?_⟩
  rcases hp with hp | hp
  ·rw [hp]; exact k4
  ·rw [hp]; intro e; simp at e; omega
theorem Sep.later {w w' : World} {tv lv : Value} {mm lb : Nat} (h : Sep w tv mm lb lv) (hb : Below w.heap.size w w') : Sep w' tv mm lb lv := fun k hk => by
 obtain ⟨h1, h2, h3, h4⟩ := h k hk
 have := hb.size
 exact ⟨by omega, h2, h3, h4⟩

/-- 'append(v, x)' of one number, and where it lies. -/
theorem wpList_append_int_at {ops : Array Oper} {Q : Exit → Act → World → Prop} {a : Act} {w : World} {rest : List Oper} {o : Oper} (hw : Region.wanted o (yielded ops a.tmps) = true) (s x : Operand)
  (ho : o.op = .call { callee := .builtin .append, args := #[s, x], argTypes := #[31, 31] }) (base : Nat)
  {v y : Value} {l : List Int} {n : Int} (hs : a.eval s = v) (hx : a.eval x = y) (hv : OwnI w base v l) (hy : Src Tryz.prog 1 31 y 1 [.int .i64 n] w) (hl : l.length ≤ 100000) (hbase : base ≤ w.heap.size)
  (h : ∀ v' w', OwnI w' base v' (l ++ [n]) → w.grownBy w' v.ownBlock → (v'.ownBlock = v.ownBlock ∨ v'.ownBlock = some w.heap.size) → wpList Tryz.prog ops Q rest (a.put o.dst v') w') : wpList Tryz.prog ops Q (o :: rest) a w := by
 refine wpList_append_at hw s x 31 31 ho base 3 (.int .i64 0) 8 Tryz.underlying31 Tryz.infoInt7 rfl hs hx hv hy (by rw [i64s_length]; unfold maxLen; omega) (by rw [i64s_length]; omega) hbase (fun v' w' ho hg hp _ => h v' w' ?_ hg hp)
 unfold OwnI
 rw [i64s_append]
 exact ho
theorem come_none (a : Option Addr) (cap : Nat) (b1 b2 b3 : Value) (w : World) :
  Calls Tryz.prog 70 #[.slice a 0 cap, b1, b2, b3] w fun e w' => e = .returned (.tuple #[]) ∧ w' = w := by
 go_enter Tryz.func70, Tryz.ntmps70
 go_wp2
 refine wp_loop_rounds 1 ?_; rw [rounds_succ]
 go_wp2
 go_end0
 exact ⟨rfl, rfl⟩

theorem OwnI.shp {w : World} {base : Nat} {v : Value} {l : List Int} (h : OwnI w base v l) : ∃ a n c, v = .slice a n c := by
 obtain ⟨a, c, e, _⟩ := h.is
 exact ⟨a, _, c, e⟩
theorem Met.mid {win w w2 : World} {gb lb mb mm : Nat} {g : Img} {lv : Value} {L : List Int} (h : Met win w gb lb mb mm g lv L) (hg : w.grownBy w2 (some mm)) : At w2 lb #[lv] 31 ∧ OwnI w2 win.heap.size lv L ∧ win.heap.size ≤ w2.heap.size := by
 obtain ⟨n1, n2, n3, n4⟩ := h.lv_ne
 refine ⟨?_, h.own.of_block fun k hk hlt => hg.block k hlt (fun e => n4 (by rw [hk, e])), Nat.le_trans h.bel.size hg.size⟩
 have := h.l
 unfold At at this ⊢
 rw [hg.block lb h.l.lt (fun e => ownsMap_ne h.map h.l (by simpa using e))]; exact this

set_option maxHeartbeats 4000000 in
set_option maxRecDepth 100000 in
theorem come_some {win w : World} {gb lb mb mm : Nat} {g : Img} {lv : Value} {L ts : List Int} {b off cap : Nat} (hM : Met win w gb lb mb mm g lv L) (hL : Nd g.ts.length 0 L) (hn : g.ts.length ≤ 1000)
  (hI : Is w (.slice (some ⟨b, off, none⟩) ts.length cap) ts) (hS : Sep w (.slice (some ⟨b, off, none⟩) ts.length cap) mm lb lv) (hW : ∀ t ∈ ts, Wf t) :
  Calls Tryz.prog 70 #[.slice (some ⟨b, off, none⟩) ts.length cap, .pointer (some ⟨mb, 0, none⟩), .pointer (some ⟨gb, 0, none⟩), .pointer (some ⟨lb, 0, none⟩)] w fun e w' =>
   e = .returned (.tuple #[]) ∧ ∃ lv', Met win w' gb lb mb mm g lv' (comeL g.ts.length L ts) := by
 have htl := hI.len
 rw [i64s_length] at htl
 unfold maxLen at htl
 have HM : Hid (Met win w gb lb mb mm g lv L) := hM
 have HI : Hid (Is w (.slice (some ⟨b, off, none⟩) ts.length cap) ts) := hI
 have HS : Hid (Sep w (.slice (some ⟨b, off, none⟩) ts.length cap) mm lb lv) := hS
 have HL : Hid (Nd g.ts.length 0 L) := hL
 have HW : Hid (∀ t ∈ ts, Wf t) := hW
 obtain ⟨n, hnn⟩ : ∃ n, n = g.ts.length := ⟨_, rfl⟩
 have HN : Hid (n = g.ts.length) := hnn
 clear hM hI hS hL hW hnn
 go_enter Tryz.func70, Tryz.ntmps70
 go_wp2_with fail
 go_loopw [6, 7, 8, 11] (fun _ _ _ z wr => ∃ q : Nat, q ≤ ts.length ∧ z = .int .i64 q ∧ ∃ lv', Hid (Met win wr gb lb mb mm g lv' (comeL g.ts.length L (ts.take q)) ∧ Is wr (.slice (some ⟨b, off, none⟩) ts.length cap) ts ∧ Sep wr (.slice (some ⟨b, off, none⟩) ts.length cap) mm lb lv')) (fun _ _ _ z _ => ts.length - (intOf z).toNat)
 case atStart => exact ⟨0, Nat.zero_le _, rfl, lv, HM.out, HI.out, HS.out⟩
 case round =>
  obtain ⟨q, hq, rfl, lv', HR⟩ := hrel
  by_cases hql : q < ts.length
  ·obtain ⟨L', hL'⟩ : ∃ X, X = comeL g.ts.length L (ts.take q) := ⟨_, rfl⟩
   rw [← hL'] at HR
   have HST : Hid (comeL g.ts.length L (ts.take (q + 1)) = stepC g.ts.length L' ts[q]) := by show _ = _; rw [hL']; exact comeL_take hql
   have HLl : Hid (L'.length ≤ 1000) := by
    show _ ≤ _
    have := (HL.out.come (ts := ts.take q)).len
    rw [← hL'] at this; omega
   have HWt : Hid (Wf ts[q]) := HW.out _ (List.getElem_mem hql)
   clear hL'
   obtain ⟨b', off', hbo, hb, _, h6, h7, hc⟩ := HR.out.2.1.at hql
   cases hbo
   have cq := hc q hql
   generalize ts[q] = t at *
   unfold maxLen at h7
   have hM := HR.out.1
   have cm := hM.m.cell0
   have hmap := hM.map
   have hkey := key11 HWt.out
   obtain ⟨wA, hwA⟩ : ∃ W, W = wr.alloc (.cells #[] 83) := ⟨_, rfl⟩
   have HWA : Hid (wA = _) := hwA
   have hbA : Below wr.heap.size wr wA := by rw [hwA]; exact made_below _ _ _
   have hMA := hM.later hbA
   have HRA : Hid (Met win wA gb lb mb mm g lv' L' ∧ Is wA (.slice (some ⟨b, off, none⟩) ts.length cap) ts ∧ Sep wA (.slice (some ⟨b, off, none⟩) ts.length cap) mm lb lv') := ⟨hMA, Sl.later HR.out.2.1 hbA, HR.out.2.2.later hbA⟩
   clear hc hM hwA hbA
   cases hhc : L'.contains t with
   | true =>
    have hhas : Maps.has (metD L') (.int .i64 t) = true := by rw [has_met]; exact hhc
    have HS2 : Hid (comeL g.ts.length L (ts.take (q + 1)) = L') := by show _ = _; rw [HST.out, stepC_old hhc]
    clear hhc hMA
    go_wp2_with (first | (at_lookup; go_must (refine wpList_lookup_own_unit _ rfl _ _ 82 rfl 3 83 law11 Tryz.underlying82 (zero11 _) mm _ _ rfl hmap _ _ rfl hkey ?_)) | (rw [← HWA.out]))
    go_roundw
    case rel => exact ⟨q + 1, by omega, by go_num, lv', by rw [HS2.out]; exact HRA.out⟩
    case measure => simp [intOf]; omega
   | false =>
    have hhas : Maps.has (metD L') (.int .i64 t) = false := by rw [has_met]; exact hhc
    obtain ⟨cg0, cg1, cg2, cg3⟩ := hMA.gbox.cells
    have HTh : Hid (Calls Tryz.prog 40 #[.agg (imC g), .int .i64 t] wA fun e w' => e = .returned (.bool (numB t g.ts.length)) ∧ Below wA.heap.size wA w') := isThere_any t hMA.gbox.im
    have HHc : Hid (L'.contains t = false) := hhc
    unfold imC at HTh
    clear hhc hMA
    go_wp2_with (first | (at_lookup; go_must (refine wpList_lookup_own_unit _ rfl _ _ 82 rfl 3 83 law11 Tryz.underlying82 (zero11 _) mm _ _ rfl hmap _ _ rfl hkey ?_)) | (rw [← HWA.out]))
    refine Calls.mono HTh.out ?_
    rintro e w1 ⟨rfl, hb1⟩
    have HR1 : Hid (Met win w1 gb lb mb mm g lv' L' ∧ Is w1 (.slice (some ⟨b, off, none⟩) ts.length cap) ts ∧ Sep w1 (.slice (some ⟨b, off, none⟩) ts.length cap) mm lb lv') := ⟨HRA.out.1.later hb1, Sl.later HRA.out.2.1 hb1, HRA.out.2.2.later hb1⟩
    clear hb1 cg0 cg1 cg2 cg3 HTh cm hmap cq HR
    cases hnb : numB t g.ts.length with
    | false =>
     have HS2 : Hid (comeL g.ts.length L (ts.take (q + 1)) = L') := by show _ = _; rw [HST.out, stepC_out hnb]
     clear hnb
     go_wp2_with fail
     go_roundw
     case rel => exact ⟨q + 1, by omega, by go_num, lv', by rw [HS2.out]; exact HR1.out⟩
     case measure => simp [intOf]; omega
    | true =>
     have HS2 : Hid (comeL g.ts.length L (ts.take (q + 1)) = L' ++ [t]) := by show _ = _; rw [HST.out, stepC_new hnb HHc.out]
     have hM1 := HR1.out.1
     have hmap1 := hM1.map
     have cm1 := hM1.m.cell0
     have HMid : Hid (∀ w2, w1.grownBy w2 (some mm) → At w2 lb #[lv'] 31 ∧ OwnI w2 win.heap.size lv' L' ∧ win.heap.size ≤ w2.heap.size) := fun w2 hg => hM1.mid hg
     clear hnb hM1
     go_wp2_with (first
      | (at_mapUpdate; go_must (refine wpList_mapUpdate_own _ rfl _ _ _ 82 rfl 3 83 law11 Tryz.underlying82 (unitElem (H := Unit)) mm _ _ rfl hmap1 (by have := HLl.out; unfold maxLen; omega) _ _ _ rfl rfl hkey (.agg []) [] unitElem_mk ?_; intro w2 hown2 hgrow2; have hmid2 := HMid.out w2 hgrow2; have cl2 := hmid2.1.cell0))
      | (at_builtin; go_must (refine wpList_append_int_at (v := lv') rfl (.tmp 31) (.tmp 33) rfl win.heap.size rfl rfl (hmid2.2.1.later (made_below _ _ _)) (one_int w2 t _ rfl) (by have := HLl.out; omega) (Nat.le_trans hmid2.2.2 (made_below _ _ _).size) ?_; intro v5 w5 ho5 hg5 hp5; obtain ⟨la5, ln5, lc5, hv5⟩ := ho5.shp; subst hv5; have hl5 := (hmid2.1.later (made_below _ _ _)).grownI (hmid2.2.1.later (made_below _ _ _)) (by decide) hg5; have cl5 := hl5.cell0; have ml5 := hl5.melt 0)))
     have hadd := Met.add (o := Obj.cells #[.int .i64 t] 3) HR1.out.1 HR1.out.2.1 HR1.out.2.2 hgrow2 hown2 rfl ho5 hg5 hp5 rfl
     have HAd : Hid _ := hadd
     clear hadd hmid2 cl2 hl5 cl5 ml5 hgrow2 hown2 ho5 hg5 hp5
     go_roundw
     case rel => exact ⟨q + 1, by omega, by go_num, _, by rw [HS2.out]; exact HAd.out⟩
     case measure => simp [intOf]; omega
  ·have HD : Hid (Met win wr gb lb mb mm g lv' (comeL g.ts.length L ts)) := by
    have := HR.out.1
    rwa [comeL_done hql] at this
   go_wp2_with fail
   go_end0
   exact ⟨rfl, lv', HD.out⟩

theorem come_any {win w : World} {gb lb mb mm : Nat} {g : Img} {lv tv : Value} {L ts : List Int} (hM : Met win w gb lb mb mm g lv L) (hL : Nd g.ts.length 0 L) (hn : g.ts.length ≤ 1000)
  (hI : Is w tv ts) (hS : ts ≠ [] → Sep w tv mm lb lv) (hW : ∀ t ∈ ts, Wf t) :
  Calls Tryz.prog 70 #[tv, .pointer (some ⟨mb, 0, none⟩), .pointer (some ⟨gb, 0, none⟩), .pointer (some ⟨lb, 0, none⟩)] w fun e w' =>
   e = .returned (.tuple #[]) ∧ ∃ lv', Met win w' gb lb mb mm g lv' (comeL g.ts.length L ts) := by
 by_cases hne : ts = []
 ·subst hne
  obtain ⟨a, c, rfl, _, _⟩ := hI.shape
  refine (come_none a c _ _ _ w).mono ?_
  rintro e w' ⟨rfl, rfl⟩
  exact ⟨rfl, lv, hM⟩
 ·obtain ⟨b, off, cap, rfl, h1, h2, hb, hc⟩ := hI.parts hne
  exact come_some hM hL hn hI (hS hne) hW
end Go.Proofs.YthpmpdpfnlecmaaGreat
