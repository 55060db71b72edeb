/- Texts joined: Cls9, OpenE9, Fine. -/
import Derived.Test.YtclmafoelibihaaGreatRows
import Derived.Test.YtclmafoelibihaaGreatJ04
import Derived.Test.YtclmafoelibihaaGreatJ05
import Derived.Test.YtclmafoelibihaaGreatJ01
import Derived.Deep.RegionHeld3
import Derived.Deep.DrawnRows
import Derived.Laws.EntriesVeiled
import Derived.Deep.QuietTactic
import Derived.BigQuiet
/- Clauses, spans, links and regions in memory; the small functions of layer 9. -/
namespace Go.Proofs.YtclmafoelibihaaGreat
set_option linter.unusedVariables false
set_option linter.unusedSimpArgs false
open Go.RowKit
attribute [local go_sem ↓] Go.wp_at_zero Go.wp_at_succ

/-- The cells of a clause, a span, a link, a region. -/
def clC (c : Cl) : List Value := [.int .i64 c.k, .int .i64 c.tf, .int .i64 c.tt, .int .i64 c.hf, .int .i64 c.ht, .int .i64 c.fi, .int .i64 c.t0, .int .i64 c.t1, .int .i64 c.t2, .bool c.t3]
def clE9 : Enc Cl := ⟨clC, 10, by decide, fun _ => rfl, fun x u hu => by
  simp only [clC, List.mem_cons, List.not_mem_nil, or_false] at hu
  rcases hu with rfl | rfl | rfl | rfl | rfl | rfl | rfl | rfl | rfl | rfl <;> rfl⟩
def spC (s : Sp) : List Value := [.int .i64 s.1, .int .i64 s.2]
def spE : Enc Sp := ⟨spC, 2, by decide, fun _ => rfl, fun x u hu => by
  simp only [spC, List.mem_cons, List.not_mem_nil, or_false] at hu
  rcases hu with rfl | rfl <;> rfl⟩

/-- A clause, a span as values. -/
def clV (c : Cl) : Value := .agg #[.int .i64 c.k, .int .i64 c.tf, .int .i64 c.tt, .int .i64 c.hf, .int .i64 c.ht, .int .i64 c.fi, .int .i64 c.t0, .int .i64 c.t1, .int .i64 c.t2, .bool c.t3]
def spV9 (s : Sp) : Value := .agg #[.int .i64 s.1, .int .i64 s.2]

/-- Ten cells at a place hold this clause; two this span. -/
def Ten (w : World) (b o : Nat) (c : Cl) : Prop := w.cell? ⟨b, o, none⟩ = some (.int .i64 c.k) ∧ w.cell? ⟨b, o + 1, none⟩ = some (.int .i64 c.tf) ∧ w.cell? ⟨b, o + 2, none⟩ = some (.int .i64 c.tt) ∧ w.cell? ⟨b, o + 3, none⟩ = some (.int .i64 c.hf) ∧
  w.cell? ⟨b, o + 4, none⟩ = some (.int .i64 c.ht) ∧ w.cell? ⟨b, o + 5, none⟩ = some (.int .i64 c.fi) ∧ w.cell? ⟨b, o + 6, none⟩ = some (.int .i64 c.t0) ∧ w.cell? ⟨b, o + 7, none⟩ = some (.int .i64 c.t1) ∧ w.cell? ⟨b, o + 8, none⟩ = some (.int .i64 c.t2) ∧ w.cell? ⟨b, o + 9, none⟩ = some (.bool c.t3)
def Two9 (w : World) (b o : Nat) (s : Sp) : Prop := w.cell? ⟨b, o, none⟩ = some (.int .i64 s.1) ∧ w.cell? ⟨b, o + 1, none⟩ = some (.int .i64 s.2)
theorem El.ten {w : World} {b o : Nat} {c : Cl} (h : El clE9 w b o c) : Ten w b o c :=
  ⟨h 0 _ rfl, h 1 _ rfl, h 2 _ rfl, h 3 _ rfl, h 4 _ rfl, h 5 _ rfl, h 6 _ rfl, h 7 _ rfl, h 8 _ rfl, h 9 _ rfl⟩
theorem El.two {w : World} {b o : Nat} {s : Sp} (h : El spE w b o s) : Two9 w b o s := ⟨h 0 _ rfl, h 1 _ rfl⟩

theorem triedBy_any (c : Cl) (w : World) :
    Calls Tryz.prog 178 #[clV c] w fun e w' => e = .returned (spV9 (triS c)) ∧ Below w.heap.size w w' := by
  unfold clV
  have hb0 : Hid (Below w.heap.size w (w.alloc (.cells (clC c).toArray 133))) := (Below.refl _ _).alloc (Nat.le_refl _) _
  go_enter Tryz.func178, Tryz.ntmps178
  go_wp2
  exact bodyPost_ret (v := spV9 (triS c)) (by simp [results, Tryz.results178, go_sem, spV9, triS]) rfl ⟨rfl, hb0.out.alloc (by simp) _⟩
theorem handledBy_any (c : Cl) (w : World) :
    Calls Tryz.prog 179 #[clV c] w fun e w' => e = .returned (spV9 (hanS c)) ∧ Below w.heap.size w w' := by
  unfold clV
  have hb0 : Hid (Below w.heap.size w (w.alloc (.cells (clC c).toArray 133))) := (Below.refl _ _).alloc (Nat.le_refl _) _
  go_enter Tryz.func179, Tryz.ntmps179
  go_wp2
  exact bodyPost_ret (v := spV9 (hanS c)) (by simp [results, Tryz.results179, go_sem, spV9, hanS]) rfl ⟨rfl, hb0.out.alloc (by simp) _⟩
theorem filterOf_any (c : Cl) (w : World) :
    Calls Tryz.prog 180 #[clV c] w fun e w' => e = .returned (spV9 (filS c)) ∧ Below w.heap.size w w' := by
  unfold clV
  have hb0 : Hid (Below w.heap.size w (w.alloc (.cells (clC c).toArray 133))) := (Below.refl _ _).alloc (Nat.le_refl _) _
  go_enter Tryz.func180, Tryz.ntmps180
  go_wp2
  exact bodyPost_ret (v := spV9 (filS c)) (by simp [results, Tryz.results180, go_sem, spV9, filS]) rfl ⟨rfl, hb0.out.alloc (by simp) _⟩
theorem isPartOf_any (s o : Sp) (w : World) :
    Calls Tryz.prog 186 #[spV9 s, spV9 o] w fun e w' => e = .returned (.bool (partB s o)) ∧ Below w.heap.size w w' := by
  have hb0 : Hid (Below w.heap.size w ((w.alloc (.cells (spC s).toArray 171)).alloc (.cells (spC o).toArray 171))) := ((Below.refl _ _).alloc (Nat.le_refl _) _).alloc (by simp) _
  unfold spV9
  go_enter Tryz.func186, Tryz.ntmps186
  go_wp2
  all_goals go_ret
  all_goals refine ⟨ret_bool ?_, hb0.out⟩
  all_goals (simp_all [partB] <;> omega)
theorem shares9_any (s o : Sp) (w : World) :
    Calls Tryz.prog 187 #[spV9 s, spV9 o] w fun e w' => e = .returned (.bool (shrB s o)) ∧ Below w.heap.size w w' := by
  have hb0 : Hid (Below w.heap.size w ((w.alloc (.cells (spC s).toArray 171)).alloc (.cells (spC o).toArray 171))) := ((Below.refl _ _).alloc (Nat.le_refl _) _).alloc (by simp) _
  unfold spV9
  go_enter Tryz.func187, Tryz.ntmps187
  go_wp2
  all_goals go_ret
  all_goals refine ⟨ret_bool ?_, hb0.out⟩
  all_goals (rw [Bool.eq_iff_iff, shr_iff]; simp only [decide_eq_true_eq]; (repeat' split) <;> omega)

theorem bstep {w w1 w2 : World} (h : Below w.heap.size w w1) (h2 : Below w1.heap.size w1 w2) : Below w.heap.size w w2 := h.trans (h2.mono h.size)
theorem bdrew (w : World) : Below w.heap.size w w.drew := Below.drewN (Below.refl w.heap.size w) 1
theorem bbox {w w1 : World} (h : Below w.heap.size w w1) (o : Obj) : Below w.heap.size w (w1.alloc o) := h.alloc h.size o

theorem Tryz.infoSpan : (Tryz.prog.info? 171).map (fun i => (i.zero, i.size, i.bytes)) = some (some (.agg #[.int .i64 0, .int .i64 0]), 2, 16) := by kernel_rfl

/-- A clause in a block of its own. -/
theorem At.ten {w : World} {g : Nat} {c : Cl} (h : At w g (clC c).toArray 133) : Ten w g 0 c :=
  ⟨h.cell 0, h.cell 1, h.cell 2, h.cell 3, h.cell 4, h.cell 5, h.cell 6, h.cell 7, h.cell 8, h.cell 9⟩

set_option maxHeartbeats 1000000 in
theorem spansOf_any (c : Cl) (w : World) :
    Calls Tryz.prog 159 #[clV c] w fun e w' => ∃ v, e = .returned v ∧ OwnE spE w' w.heap.size 171 v (spansL c) ∧ Below w.heap.size w w' := by
  obtain ⟨w0, hw0⟩ : ∃ W, W = w.alloc (.cells #[.int .i64 c.k, .int .i64 c.tf, .int .i64 c.tt, .int .i64 c.hf, .int .i64 c.ht, .int .i64 c.fi, .int .i64 c.t0, .int .i64 c.t1, .int .i64 c.t2, .bool c.t3] 133) := ⟨_, rfl⟩
  have HW0 : Hid (w0 = _) := hw0
  have HB0 : Hid (Below w.heap.size w w0) := by rw [hw0]; exact (Below.refl _ _).alloc (Nat.le_refl _) _
  have hA : At w0 w.heap.size (clC c).toArray 133 := by rw [hw0]; exact At.made w (clC c).toArray _
  have HK : Hid (∀ w', Below w0.heap.size w0 w' → Ten w' w.heap.size 0 c) := fun w' hb => (hA.later hb).ten
  have HA : Hid (At w0 w.heap.size (clC c).toArray 133) := hA
  have HV : Hid (∀ w', Below w.heap.size w w' → OwnE spE (w'.alloc (.cells #[.int .i64 c.tf, .int .i64 c.tt, .int .i64 c.hf, .int .i64 c.ht] 171)) w.heap.size 171 (.slice (some ⟨w'.heap.size, 0, none⟩) 2 2) [triS c, hanS c]) := fun w' hb => OwnE.lit spE w' w.heap.size 171 [triS c, hanS c] _ 2 hb.size rfl rfl (by simp [maxLen])
  have HT : Hid _ := hA.ten
  clear hA hw0
  unfold clV
  go_enter Tryz.func159, Tryz.ntmps159
  go_wp2_with fail
  rw [← HW0.out]
  obtain ⟨c0, c1, c2, c3, c4, c5, c6, c7, c8, c9⟩ := HT.out
  have HTR : Hid (∀ W, Calls Tryz.prog 178 #[.agg #[.int .i64 c.k, .int .i64 c.tf, .int .i64 c.tt, .int .i64 c.hf, .int .i64 c.ht, .int .i64 c.fi, .int .i64 c.t0, .int .i64 c.t1, .int .i64 c.t2, .bool c.t3]] W fun e w' => e = .returned (.agg #[.int .i64 c.tf, .int .i64 c.tt]) ∧ Below W.heap.size W w') := fun W => triedBy_any c W
  have HHA : Hid (∀ W, Calls Tryz.prog 179 #[.agg #[.int .i64 c.k, .int .i64 c.tf, .int .i64 c.tt, .int .i64 c.hf, .int .i64 c.ht, .int .i64 c.fi, .int .i64 c.t0, .int .i64 c.t1, .int .i64 c.t2, .bool c.t3]] W fun e w' => e = .returned (.agg #[.int .i64 c.hf, .int .i64 c.ht]) ∧ Below W.heap.size W w') := fun W => handledBy_any c W
  have HFI : Hid (∀ W, Calls Tryz.prog 180 #[.agg #[.int .i64 c.k, .int .i64 c.tf, .int .i64 c.tt, .int .i64 c.hf, .int .i64 c.ht, .int .i64 c.fi, .int .i64 c.t0, .int .i64 c.t1, .int .i64 c.t2, .bool c.t3]] W fun e w' => e = .returned (.agg #[.int .i64 c.fi, .int .i64 c.hf]) ∧ Below W.heap.size W w') := fun W => filterOf_any c W
  go_region_held3 (fun w' => w'.cell? ⟨w.heap.size, 0, none⟩ = some (.int .i64 c.k) ∧ w'.cell? ⟨w.heap.size, 1, none⟩ = some (.int .i64 c.tf) ∧ w'.cell? ⟨w.heap.size, 2, none⟩ = some (.int .i64 c.tt) ∧ w'.cell? ⟨w.heap.size, 3, none⟩ = some (.int .i64 c.hf) ∧ w'.cell? ⟨w.heap.size, 4, none⟩ = some (.int .i64 c.ht) ∧ w'.cell? ⟨w.heap.size, 5, none⟩ = some (.int .i64 c.fi) ∧ w'.cell? ⟨w.heap.size, 6, none⟩ = some (.int .i64 c.t0) ∧ w'.cell? ⟨w.heap.size, 7, none⟩ = some (.int .i64 c.t1) ∧ w'.cell? ⟨w.heap.size, 8, none⟩ = some (.int .i64 c.t2) ∧ w'.cell? ⟨w.heap.size, 9, none⟩ = some (.bool c.t3))
    (first | (exact HK.out _ (bdrew _)) | (exact HK.out _ (bstep (bdrew _) hb1)) | (exact HK.out _ (bstep (bstep (bdrew _) hb1) hb2)) | (exact HK.out _ (bbox (bstep (bstep (bdrew _) hb1) hb2) _)))
    (first | (go_at_call 178; refine (HTR.out _).mono ?_; rintro e w1 ⟨rfl, hb1⟩) | (go_at_call 179; refine (HHA.out _).mono ?_; rintro e w2 ⟨rfl, hb2⟩))
  rename_i hheld
  clear hheld
  have hb2' := bstep (bstep (bdrew _) hb1) hb2
  obtain ⟨w3, hw3⟩ : ∃ W, W = w2.alloc (.cells #[.int .i64 c.tf, .int .i64 c.tt, .int .i64 c.hf, .int .i64 c.ht] 171) := ⟨_, rfl⟩
  have HW3 : Hid (w3 = _) := hw3
  have hb3 : Below w0.heap.size w0 w3 := by rw [hw3]; exact bbox hb2' _
  have HO3 : Hid (OwnE spE w3 w.heap.size 171 (.slice (some ⟨w2.heap.size, 0, none⟩) 2 2) [triS c, hanS c]) := by
    rw [hw3]; exact HV.out w2 (bstep HB0.out hb2')
  have HB3 : Hid (Below w.heap.size w w3) := bstep HB0.out hb3
  replace HT : Hid _ := HK.out w3 hb3
  have HK3 : Hid (∀ w', Below w3.heap.size w3 w' → Ten w' w.heap.size 0 c) := fun w' hb => HK.out w' (bstep hb3 hb)
  clear hw3 hb1 hb2 hb2' hb3 c0 c1 c2 c3 c4 c5 c6 c7 c8 c9
  obtain ⟨c0, c1, c2, c3, c4, c5, c6, c7, c8, c9⟩ := HT.out
  rw [← HW3.out]
  by_cases hk : c.k = 2
  · have HS : Hid (spansL c = [triS c, hanS c] ++ [filS c]) := by show _ = _; unfold spansL; rw [if_pos hk]; rfl
    have hk' : (c.k == 2) = true := by rw [hk]; rfl
    have HV4 : Hid (∀ w' : World, Es spE (w'.alloc (.cells #[.int .i64 c.fi, .int .i64 c.hf] 171)) (.slice (some ⟨w'.heap.size, 0, none⟩) 1 1) [filS c]) := fun w' => (OwnE.lit spE w' w'.heap.size 171 [filS c] _ 1 (Nat.le_refl _) rfl rfl (by simp [maxLen])).es
    clear hk
    go_wp2_with fail
    refine (HFI.out _).mono ?_
    rintro e w4 ⟨rfl, hb4⟩
    have HB4 : Hid (Below w3.heap.size w3 w4) := hb4
    have HO4 : Hid (OwnE spE (w4.alloc (.cells #[.int .i64 c.fi, .int .i64 c.hf] 171)) w.heap.size 171 (.slice (some ⟨w2.heap.size, 0, none⟩) 2 2) [triS c, hanS c]) := HO3.out.later (bbox hb4 _)
    have HSZ : Hid (w.heap.size ≤ (w4.alloc (.cells #[.int .i64 c.fi, .int .i64 c.hf] 171)).heap.size) := (bbox (bstep HB3.out hb4) _).size
    clear hb4 c0 c1 c2 c3 c4 c5 c6 c7 c8 c9
    go_wp2_with (at_builtin; go_must (refine wpList_append_es spE rfl (.tmp 12) (.tmp 15) 154 rfl w.heap.size 171 _ 16 Tryz.underlying154 Tryz.infoSpan rfl rfl rfl HO4.out (HV4.out w4) (by simp [maxLen]) (by simp) HSZ.out ?_; intro v5 w5 ho5 hg5))
    go_ret
    refine ⟨v5, rfl, by rw [HS.out]; exact ho5, ?_⟩
    exact (bbox (bstep HB3.out HB4.out) _).trans (grown_belowE HO4.out hg5 (Nat.le_refl _) HSZ.out)
  · have HS : Hid (spansL c = [triS c, hanS c]) := by show _ = _; unfold spansL; rw [if_neg hk]
    have hk' : (c.k == 2) = false := by rw [beq_eq_false_iff_ne]; exact hk
    clear hk
    go_wp2_with fail
    go_ret
    exact ⟨_, rfl, by rw [HS.out]; exact HO3.out, HB3.out⟩

end Go.Proofs.YtclmafoelibihaaGreat

/- Clauses that came in; slices of elements that came in. -/
namespace Go.Proofs.YtclmafoelibihaaGreat
set_option linter.unusedVariables false
set_option linter.unusedSimpArgs false
open Go.ChangeShapes Go.WideShapes Go.ChangeAt Go.RowKit

/-- A slice of elements that came in, if each one's cells can be told. -/
theorem openEs1 {α : Type} (E : Enc α) (dft : α) {P : Program} {H : Type} {enc : TypeId × Value → H} {W : World} {v : Value} {n : Nat} {y : DataW H × List MemPlace} (ts t : TypeId) (ht : P.underlying ts = some (.slice t)) (hcells : P.cellsOf t = E.size)
    (hel : ∀ (cs : List Value) (n : Nat) (y : DataW H × List MemPlace), cs.length = E.size → DataW.trod enc P W 0 (fun _ => true) true n t cs = some y → ∃ x, cs = E.cells x)
    (h : DataW.trod enc P W 0 (fun _ => true) true n ts [v] = some y) : ∃ l, Es E W v l := by
  haveI : Inhabited α := ⟨dft⟩
  rcases Go.Deep.open_slice ht h with ⟨hcs, _⟩ | ⟨a, len, cap, m, k, D, Pl, hcs, _, hl, hm, hmm, _, hx⟩
  · simp at hcs
    subst hcs
    exact ⟨[], Es.nil E W⟩
  · simp at hcs
    subst hcs
    simp only [if_true] at hmm
    rw [hcells] at hx
    obtain ⟨f, hf⟩ := Go.Deep.choose_lt (n := len) (p := fun i (x : α) => ∀ j u, (E.cells x)[j]? = some u → W.cell? (a.add (i * E.size + j)) = some u) fun i hi => by
      obtain ⟨cs', h1, h2⟩ := hx i (by omega)
      obtain ⟨_, hlen, h3⟩ := World.cells?_some h1
      obtain ⟨x, hxc⟩ := hel _ _ _ (by simpa using hlen) h2
      refine ⟨x, fun j u hj => ?_⟩
      have hjl : j < E.size := by rw [← E.len x]; exact (List.getElem?_eq_some_iff.1 hj).1
      have g := h3 j hjl
      rw [Go.Deep.add_add a (i * E.size) j] at g
      rw [g]
      have hx2 : cs'[j]? = some u := by
        have := congrArg (fun t => t[j]?) hxc
        rw [hj] at this
        simpa using this
      exact hx2
    refine ⟨(List.range len).map f, some a, cap, by simp, by simpa using hl, hm, fun hne => ?_⟩
    have hpos : 0 < len := by
      rcases Nat.eq_zero_or_pos len with h | h
      · subst h; simp at hne
      · exact h
    obtain ⟨u0, hu0⟩ : ∃ u, (E.cells (f 0))[0]? = some u := by
      have := E.pos
      rw [← E.len (f 0)] at this
      exact ⟨_, List.getElem?_eq_getElem this⟩
    have h0 := hf 0 hpos 0 u0 hu0
    obtain ⟨b, off, spot⟩ := a
    have hspot : spot = none := by simpa [Addr.add] using World.cell?_spot h0
    subst hspot
    have hplain : ∀ i, (⟨b, off, none⟩ : Addr).add i = ⟨b, off + i, none⟩ := fun i => by unfold Addr.add; split <;> simp_all
    have hb : b < W.heap.size := by have := World.block_lt_of_cell? W _ h0; simpa [Addr.add] using this
    have hes : Es E W (.slice (some ⟨b, off, none⟩) ((List.range len).map f).length cap) ((List.range len).map f) := by
      refine Es.of_parts (by simpa using hl) hm hb fun i hi j u hj => ?_
      simp only [List.length_map, List.length_range] at hi
      simp only [List.getElem_map, List.getElem_range] at hj
      have := hf i hi j u hj
      rw [hplain, ← Nat.add_assoc] at this
      exact this
    obtain ⟨_, _, he, _, _, h3⟩ := hes
    simp only [Value.slice.injEq] at he
    obtain ⟨rfl, _, _⟩ := he
    exact h3 hne

theorem list10 {α : Type} {cs : List α} (h : cs.length = 10) : ∃ c0 c1 c2 c3 c4 c5 c6 c7 c8 c9, cs = [c0, c1, c2, c3, c4, c5, c6, c7, c8, c9] := by
  match cs, h with
  | [c0, c1, c2, c3, c4, c5, c6, c7, c8, c9], _ => exact ⟨c0, c1, c2, c3, c4, c5, c6, c7, c8, c9, rfl⟩
theorem list7 {α : Type} {cs : List α} (h : cs.length = 7) : ∃ c0 c1 c2 c3 c4 c5 c6, cs = [c0, c1, c2, c3, c4, c5, c6] := by
  match cs, h with
  | [c0, c1, c2, c3, c4, c5, c6], _ => exact ⟨c0, c1, c2, c3, c4, c5, c6, rfl⟩
theorem Tryz.cellsClause : Tryz.prog.cellsOf 133 = 10 := by kernel_rfl

/-- The cells of a clause. -/
theorem clauseCells {H : Type} {enc : TypeId × Value → H} {W : World} (cs : List Value) (n : Nat) (y : DataW H × List MemPlace) (hl : cs.length = 10)
    (h : DataW.trod enc Tryz.prog W 0 (fun _ => true) true n 133 cs = some y) : ∃ x : Cl, cs = clC x := by
  obtain ⟨c0, c1, c2, c3, c4, c5, c6, c7, c8, c9, rfl⟩ := list10 hl
  obtain ⟨xs, m, _, _, _, hlen, hf⟩ := DataW.trod_struct Tryz.underlying133 h
  obtain ⟨y0, y1, y2, y3, y4, y5, y6, rfl⟩ := list7 (show xs.length = 7 from hlen)
  have h0 : DataW.trod enc Tryz.prog W 0 (fun _ => true) true m 3 [c0] = some y0 := by
    have := hf 0 _ rfl
    simpa [Tryz.cellsInt] using this
  have h1 : DataW.trod enc Tryz.prog W 0 (fun _ => true) true m 3 [c1] = some y1 := by
    have := hf 1 _ rfl
    simpa [Tryz.cellsInt] using this
  have h2 : DataW.trod enc Tryz.prog W 0 (fun _ => true) true m 3 [c2] = some y2 := by
    have := hf 2 _ rfl
    simpa [Tryz.cellsInt] using this
  have h3 : DataW.trod enc Tryz.prog W 0 (fun _ => true) true m 3 [c3] = some y3 := by
    have := hf 3 _ rfl
    simpa [Tryz.cellsInt] using this
  have h4 : DataW.trod enc Tryz.prog W 0 (fun _ => true) true m 3 [c4] = some y4 := by
    have := hf 4 _ rfl
    simpa [Tryz.cellsInt] using this
  have h5 : DataW.trod enc Tryz.prog W 0 (fun _ => true) true m 3 [c5] = some y5 := by
    have := hf 5 _ rfl
    simpa [Tryz.cellsInt] using this
  have h6 : DataW.trod enc Tryz.prog W 0 (fun _ => true) true m 44 [c6, c7, c8, c9] = some y6 := by
    have := hf 6 _ rfl
    simpa [Tryz.cellsInt, Tryz.cellsTy] using this
  obtain ⟨x0, e0, _, _⟩ := DataW.trod_int Tryz.underlying3 h0
  obtain ⟨x1, e1, _, _⟩ := DataW.trod_int Tryz.underlying3 h1
  obtain ⟨x2, e2, _, _⟩ := DataW.trod_int Tryz.underlying3 h2
  obtain ⟨x3, e3, _, _⟩ := DataW.trod_int Tryz.underlying3 h3
  obtain ⟨x4, e4, _, _⟩ := DataW.trod_int Tryz.underlying3 h4
  obtain ⟨x5, e5, _, _⟩ := DataW.trod_int Tryz.underlying3 h5
  obtain ⟨t, e6⟩ := tyCells h6
  simp only [List.cons.injEq, and_true] at e0 e1 e2 e3 e4 e5 e6
  obtain ⟨rfl, rfl, rfl, rfl⟩ := e6
  subst e0 e1 e2 e3 e4 e5
  exact ⟨⟨x0, x1, x2, x3, x4, x5, t.1, t.2.1, t.2.2.1, t.2.2.2⟩, rfl⟩

set_option maxRecDepth 100000 in
theorem open_Sapi_Clause {H : Type} {enc : TypeId × Value → H} {W : World} {base : Nat} {v : Value} {d : DataW H} {p : List MemPlace}
    (hv : Value.okWide Tryz.prog W .any base 46 v) (h : DataW.Trod enc Tryz.prog W 0 (fun _ => true) true 46 v d p) : ∃ l, Es clE9 W v l := by
  obtain ⟨a, len, cap, rfl⟩ := okWide_slice Tryz.underlying46 hv
  obtain ⟨fuel, hf⟩ := h
  exact openEs1 clE9 ⟨1, 0, 2, 2, 4, -1, 0, 0, 0, false⟩ 46 133 Tryz.underlying46 Tryz.cellsClause clauseCells (by simpa [Value.cells] using hf)

end Go.Proofs.YtclmafoelibihaaGreat

/- Fine of the pool, and of the references: a name has 1 to 24 bytes from 33 to 126. -/
namespace Go.Proofs.YtclmafoelibihaaGreat
set_option linter.unusedVariables false
set_option linter.unusedSimpArgs false
open Go.RowKit

def okB (b : UInt8) : Bool := decide (33 ≤ b.toNat) && decide (b.toNat ≤ 126)
def fineB (l : List UInt8) : Bool := decide (1 ≤ l.length) && decide (l.length ≤ 24) && l.all okB

theorem toList_len (s : ByteArray) : s.data.toList.length = s.size := Array.length_toList
theorem fine_no {s : ByteArray} (h : s.size < 1 ∨ 24 < s.size) : fineB s.data.toList = false := by
  unfold fineB; rw [toList_len]
  rcases h with h | h
  · have : decide (1 ≤ s.size) = false := decide_eq_false (by omega)
    rw [this]; rfl
  · have : decide (s.size ≤ 24) = false := decide_eq_false (by omega)
    rw [this]; simp

theorem fine_short (s : ByteArray) (w : World) (h : s.size < 1) :
    Calls Tryz.prog 81 #[.string s] w fun e w' => e = .returned (.bool (fineB s.data.toList)) ∧ w' = w := by
  have hf : Hid (fineB s.data.toList = false) := fine_no (.inl h)
  go_enter Tryz.func81, Tryz.ntmps81
  go_wp2
  go_ret
  exact ⟨ret_bool hf.out.symm, rfl⟩

theorem fine_long (s : ByteArray) (w : World) (h : 24 < s.size) :
    Calls Tryz.prog 81 #[.string s] w fun e w' => e = .returned (.bool (fineB s.data.toList)) ∧ w' = w := by
  have hf : Hid (fineB s.data.toList = false) := fine_no (.inr h)
  go_enter Tryz.func81, Tryz.ntmps81
  go_wp2
  go_ret
  exact ⟨ret_bool hf.out.symm, rfl⟩

theorem str_get (s : ByteArray) (k : Nat) (h : k < s.size) : s.data.toList[k]'(by rw [toList_len]; exact h) = s[k] := by simp; rfl
theorem take_str_succ (s : ByteArray) (k : Nat) (h : k < s.size) : s.data.toList.take (k + 1) = s.data.toList.take k ++ [s[k]] := by
  rw [List.take_succ_eq_append_getElem (by rw [toList_len]; exact h), str_get s k h]
theorem ok_yes {s : ByteArray} {k : Nat} (h : k < s.size) (ht : (s.data.toList.take k).all okB = true) (a : 33 ≤ s[k].toNat) (b : s[k].toNat ≤ 126) : (s.data.toList.take (k + 1)).all okB = true := by
  rw [take_str_succ s k h, List.all_append, ht]; simp [okB, a, b]
theorem ok_no {s : ByteArray} {k : Nat} (h : k < s.size) (a : ¬ (33 ≤ s[k].toNat ∧ s[k].toNat ≤ 126)) : fineB s.data.toList = false := by
  have : s.data.toList.all okB = false := by
    rw [List.all_eq_false]
    refine ⟨s[k], ?_, ?_⟩
    · rw [← str_get s k h]; exact List.getElem_mem _
    · simp only [okB, Bool.and_eq_true, decide_eq_true_eq]; exact a
  unfold fineB; rw [this, Bool.and_false]
theorem ok_all {s : ByteArray} (ht : (s.data.toList.take s.size).all okB = true) : s.data.toList.all okB = true := by
  rwa [List.take_of_length_le (by rw [toList_len]; exact Nat.le_refl _)] at ht

theorem fine_in (s : ByteArray) (w : World) (h1 : 1 ≤ s.size) (h2 : s.size ≤ 24) :
    Calls Tryz.prog 81 #[.string s] w fun e w' => e = .returned (.bool (fineB s.data.toList)) ∧ w' = w := by
  go_enter Tryz.func81, Tryz.ntmps81
  go_wp2
  go_loopw [14] (fun i wr => ∃ k : Nat, k ≤ s.size ∧ i = .int .i64 k ∧ wr = w ∧ (s.data.toList.take k).all okB = true) (fun i _ => s.size - (intOf i).toNat)
  case atStart => exact ⟨0, Nat.zero_le _, rfl, rfl, by simp⟩
  case round =>
    obtain ⟨k, hk, rfl, rfl, ht⟩ := hrel
    have HT : Hid ((s.data.toList.take k).all okB = true) := ht
    clear ht
    by_cases hlt : k < s.size
    · by_cases hb : 33 ≤ s[k].toNat ∧ s[k].toNat ≤ 126
      · obtain ⟨b1, b2⟩ := hb
        go_wp2
        go_roundw
        case rel => exact ⟨k + 1, by omega, by go_num, by simp, ok_yes hlt HT.out b1 b2⟩
        case measure => simp [intOf]; omega
      · have HF : Hid (fineB s.data.toList = false) := ok_no hlt hb
        by_cases c1 : s[k].toNat < 33
        · clear hb
          go_wp2
          go_ret
          exact ⟨ret_bool HF.out.symm, rfl⟩
        · have c2 : 126 < s[k].toNat := by omega
          clear hb
          go_wp2
          go_ret
          exact ⟨ret_bool HF.out.symm, rfl⟩
    · have e : k = s.size := by omega
      subst e
      have HF : Hid (fineB s.data.toList = true) := by
        show _ = _
        unfold fineB; rw [toList_len, ok_all HT.out]; simp; omega
      go_wp2
      go_ret
      exact ⟨ret_bool HF.out.symm, rfl⟩

/-- Fine of the pool, of any text. -/
theorem fine_any (s : ByteArray) (w : World) :
    Calls Tryz.prog 81 #[.string s] w fun e w' => e = .returned (.bool (fineB s.data.toList)) ∧ w' = w := by
  by_cases h1 : s.size < 1
  · exact fine_short s w h1
  · by_cases h2 : 24 < s.size
    · exact fine_long s w h2
    · exact fine_in s w (by omega) (by omega)

/-- Fine of the references, of any text. -/
theorem refFine_any (s : ByteArray) (hs : s.size ≤ maxLen) (w : World) :
    Calls Tryz.prog 58 #[.string s] w fun e w' => e = .returned (.bool (fineB s.data.toList)) ∧ w' = w := by
  unfold maxLen at hs
  go_enter Tryz.func58, Tryz.ntmps58
  go_wp2
  go_loopw [3] (fun i wr => ∃ k : Nat, k ≤ s.size ∧ i = .int .i64 k ∧ wr = w ∧ (s.data.toList.take k).all okB = true) (fun i _ => s.size - (intOf i).toNat)
  case atStart => exact ⟨0, Nat.zero_le _, rfl, rfl, by simp⟩
  case round =>
    obtain ⟨k, hk, rfl, rfl, ht⟩ := hrel
    have HT : Hid ((s.data.toList.take k).all okB = true) := ht
    clear ht
    by_cases hlt : k < s.size
    · by_cases hb : 33 ≤ s[k].toNat ∧ s[k].toNat ≤ 126
      · obtain ⟨b1, b2⟩ := hb
        go_wp2
        go_roundw
        case rel => exact ⟨k + 1, by omega, by go_num, by simp, ok_yes hlt HT.out b1 b2⟩
        case measure => simp [intOf]; omega
      · have HF : Hid (fineB s.data.toList = false) := ok_no hlt hb
        by_cases c1 : s[k].toNat < 33
        · clear hb
          go_wp2
          go_ret
          exact ⟨ret_bool HF.out.symm, rfl⟩
        · have c2 : 126 < s[k].toNat := by omega
          clear hb
          go_wp2
          go_ret
          exact ⟨ret_bool HF.out.symm, rfl⟩
    · have e : k = s.size := by omega
      subst e
      by_cases c1 : 0 < s.size
      · by_cases c2 : s.size ≤ 24
        · have HF : Hid (fineB s.data.toList = true) := by
            show _ = _
            unfold fineB; rw [toList_len, ok_all HT.out]; simp; omega
          go_wp2
          go_ret
          exact ⟨ret_bool (by rw [HF.out]; simp; omega), rfl⟩
        · have HF : Hid (fineB s.data.toList = false) := fine_no (.inr (by omega))
          go_wp2
          go_ret
          exact ⟨ret_bool (by rw [HF.out]; simp; omega), rfl⟩
      · have HF : Hid (fineB s.data.toList = false) := fine_no (.inl (by omega))
        go_wp2
        go_ret
        exact ⟨ret_bool HF.out.symm, rfl⟩

end Go.Proofs.YtclmafoelibihaaGreat
