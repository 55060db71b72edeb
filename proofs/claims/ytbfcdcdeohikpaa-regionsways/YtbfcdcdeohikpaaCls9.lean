
/- Clauses, spans, links and regions in memory; the small functions of layer 9. -/
import Derived.Test.YtbfcdcdeohikpaaRows
import Derived.Test.YtbfcdcdeohikpaaElems
import Derived.Test.YtbfcdcdeohikpaaRegSpec
import Derived.Test.YtbfcdcdeohikpaaLeaf
import Derived.Deep.RegionHeld3
import Derived.Deep.DrawnRows
import Derived.Laws.EntriesVeiled
namespace Go.Proofs.Ytbfcdcdeohikpaa
set_option linter.unusedVariables false
set_option linter.unusedSimpArgs false
open Go.RowKit
attribute [local go_sem ↓] Go.wp_at_zero Go.wp_at_succ

/-- The cells of a clause, a span, a link, a region. -/
def clC (c : Cl) : List Value := [.int .i64 c.k, .int .i64 c.tf, .int .i64 c.tt, .int .i64 c.hf, .int .i64 c.ht, .int .i64 c.fi, .int .i64 c.t0, .int .i64 c.t1, .int .i64 c.t2, .bool c.t3]
def clE9 : Enc Cl := ⟨clC, 10, by decide, fun _ => rfl, fun x u hu => by
  simp only [clC, List.mem_cons, List.not_mem_nil, or_false] at hu
  rcases hu with rfl | rfl | rfl | rfl | rfl | rfl | rfl | rfl | rfl | rfl <;> rfl⟩
def spC (s : Sp) : List Value := [.int .i64 s.1, .int .i64 s.2]
def spE : Enc Sp := ⟨spC, 2, by decide, fun _ => rfl, fun x u hu => by
  simp only [spC, List.mem_cons, List.not_mem_nil, or_false] at hu
  rcases hu with rfl | rfl <;> rfl⟩

/-- A clause, a span as values. -/
def clV (c : Cl) : Value := .agg #[.int .i64 c.k, .int .i64 c.tf, .int .i64 c.tt, .int .i64 c.hf, .int .i64 c.ht, .int .i64 c.fi, .int .i64 c.t0, .int .i64 c.t1, .int .i64 c.t2, .bool c.t3]
def spV9 (s : Sp) : Value := .agg #[.int .i64 s.1, .int .i64 s.2]

/-- Ten cells at a place hold this clause; two this span. -/
def Ten (w : World) (b o : Nat) (c : Cl) : Prop := w.cell? ⟨b, o, none⟩ = some (.int .i64 c.k) ∧ w.cell? ⟨b, o + 1, none⟩ = some (.int .i64 c.tf) ∧ w.cell? ⟨b, o + 2, none⟩ = some (.int .i64 c.tt) ∧ w.cell? ⟨b, o + 3, none⟩ = some (.int .i64 c.hf) ∧
  w.cell? ⟨b, o + 4, none⟩ = some (.int .i64 c.ht) ∧ w.cell? ⟨b, o + 5, none⟩ = some (.int .i64 c.fi) ∧ w.cell? ⟨b, o + 6, none⟩ = some (.int .i64 c.t0) ∧ w.cell? ⟨b, o + 7, none⟩ = some (.int .i64 c.t1) ∧ w.cell? ⟨b, o + 8, none⟩ = some (.int .i64 c.t2) ∧ w.cell? ⟨b, o + 9, none⟩ = some (.bool c.t3)
def Two9 (w : World) (b o : Nat) (s : Sp) : Prop := w.cell? ⟨b, o, none⟩ = some (.int .i64 s.1) ∧ w.cell? ⟨b, o + 1, none⟩ = some (.int .i64 s.2)
theorem El.ten {w : World} {b o : Nat} {c : Cl} (h : El clE9 w b o c) : Ten w b o c :=
  ⟨h 0 _ rfl, h 1 _ rfl, h 2 _ rfl, h 3 _ rfl, h 4 _ rfl, h 5 _ rfl, h 6 _ rfl, h 7 _ rfl, h 8 _ rfl, h 9 _ rfl⟩
theorem El.two {w : World} {b o : Nat} {s : Sp} (h : El spE w b o s) : Two9 w b o s := ⟨h 0 _ rfl, h 1 _ rfl⟩

theorem triedBy_any (c : Cl) (w : World) :
    Calls Try.prog 45 #[clV c] w fun e w' => e = .returned (spV9 (triS c)) ∧ Below w.heap.size w w' := by
  unfold clV
  have hb0 : Hid (Below w.heap.size w (w.alloc (.cells (clC c).toArray 44))) := (Below.refl _ _).alloc (Nat.le_refl _) _
  go_enter Try.func45, Try.ntmps45
  go_wp2
  exact bodyPost_ret (v := spV9 (triS c)) (by simp [results, Try.results45, go_sem, spV9, triS]) rfl ⟨rfl, hb0.out.alloc (by simp) _⟩
theorem handledBy_any (c : Cl) (w : World) :
    Calls Try.prog 53 #[clV c] w fun e w' => e = .returned (spV9 (hanS c)) ∧ Below w.heap.size w w' := by
  unfold clV
  have hb0 : Hid (Below w.heap.size w (w.alloc (.cells (clC c).toArray 44))) := (Below.refl _ _).alloc (Nat.le_refl _) _
  go_enter Try.func53, Try.ntmps53
  go_wp2
  exact bodyPost_ret (v := spV9 (hanS c)) (by simp [results, Try.results53, go_sem, spV9, hanS]) rfl ⟨rfl, hb0.out.alloc (by simp) _⟩
theorem filterOf_any (c : Cl) (w : World) :
    Calls Try.prog 54 #[clV c] w fun e w' => e = .returned (spV9 (filS c)) ∧ Below w.heap.size w w' := by
  unfold clV
  have hb0 : Hid (Below w.heap.size w (w.alloc (.cells (clC c).toArray 44))) := (Below.refl _ _).alloc (Nat.le_refl _) _
  go_enter Try.func54, Try.ntmps54
  go_wp2
  exact bodyPost_ret (v := spV9 (filS c)) (by simp [results, Try.results54, go_sem, spV9, filS]) rfl ⟨rfl, hb0.out.alloc (by simp) _⟩
theorem has_any (s : Sp) (n : Int) (w : World) :
    Calls Try.prog 46 #[spV9 s, .int .i64 n] w fun e w' => e = .returned (.bool (hasB s n)) ∧ Below w.heap.size w w' := by
  have hb0 : Hid (Below w.heap.size w (w.alloc (.cells (spC s).toArray 63))) := (Below.refl _ _).alloc (Nat.le_refl _) _
  unfold spV9
  go_enter Try.func46, Try.ntmps46
  go_wp2
  all_goals go_ret
  all_goals refine ⟨ret_bool ?_, hb0.out⟩
  all_goals (simp_all [hasB] <;> omega)
theorem isPartOf_any (s o : Sp) (w : World) :
    Calls Try.prog 60 #[spV9 s, spV9 o] w fun e w' => e = .returned (.bool (partB s o)) ∧ Below w.heap.size w w' := by
  have hb0 : Hid (Below w.heap.size w ((w.alloc (.cells (spC s).toArray 63)).alloc (.cells (spC o).toArray 63))) := ((Below.refl _ _).alloc (Nat.le_refl _) _).alloc (by simp) _
  unfold spV9
  go_enter Try.func60, Try.ntmps60
  go_wp2
  all_goals go_ret
  all_goals refine ⟨ret_bool ?_, hb0.out⟩
  all_goals (simp_all [partB] <;> omega)
theorem shares9_any (s o : Sp) (w : World) :
    Calls Try.prog 61 #[spV9 s, spV9 o] w fun e w' => e = .returned (.bool (shrB s o)) ∧ Below w.heap.size w w' := by
  have hb0 : Hid (Below w.heap.size w ((w.alloc (.cells (spC s).toArray 63)).alloc (.cells (spC o).toArray 63))) := ((Below.refl _ _).alloc (Nat.le_refl _) _).alloc (by simp) _
  unfold spV9
  go_enter Try.func61, Try.ntmps61
  go_wp2
  all_goals go_ret
  all_goals refine ⟨ret_bool ?_, hb0.out⟩
  all_goals (rw [Bool.eq_iff_iff, shr_iff]; simp only [decide_eq_true_eq]; (repeat' split) <;> omega)

theorem bstep {w w1 w2 : World} (h : Below w.heap.size w w1) (h2 : Below w1.heap.size w1 w2) : Below w.heap.size w w2 := h.trans (h2.mono h.size)
theorem bdrew (w : World) : Below w.heap.size w w.drew := Below.drewN (Below.refl w.heap.size w) 1
theorem bbox {w w1 : World} (h : Below w.heap.size w w1) (o : Obj) : Below w.heap.size w (w1.alloc o) := h.alloc h.size o

theorem Try.infoSpan : (Try.prog.info? 63).map (fun i => (i.zero, i.size, i.bytes)) = some (some (.agg #[.int .i64 0, .int .i64 0]), 2, 16) := by kernel_rfl

/-- A clause in a block of its own. -/
theorem At.ten {w : World} {g : Nat} {c : Cl} (h : At w g (clC c).toArray 44) : Ten w g 0 c :=
  ⟨h.cell 0, h.cell 1, h.cell 2, h.cell 3, h.cell 4, h.cell 5, h.cell 6, h.cell 7, h.cell 8, h.cell 9⟩

set_option maxHeartbeats 1000000 in
theorem spansOf_any (c : Cl) (w : World) :
    Calls Try.prog 27 #[clV c] w fun e w' => ∃ v, e = .returned v ∧ OwnE spE w' w.heap.size 63 v (spansL c) ∧ Below w.heap.size w w' := by
  obtain ⟨w0, hw0⟩ : ∃ W, W = w.alloc (.cells #[.int .i64 c.k, .int .i64 c.tf, .int .i64 c.tt, .int .i64 c.hf, .int .i64 c.ht, .int .i64 c.fi, .int .i64 c.t0, .int .i64 c.t1, .int .i64 c.t2, .bool c.t3] 44) := ⟨_, rfl⟩
  have HW0 : Hid (w0 = _) := hw0
  have HB0 : Hid (Below w.heap.size w w0) := by rw [hw0]; exact (Below.refl _ _).alloc (Nat.le_refl _) _
  have hA : At w0 w.heap.size (clC c).toArray 44 := by rw [hw0]; exact At.made w (clC c).toArray _
  have HK : Hid (∀ w', Below w0.heap.size w0 w' → Ten w' w.heap.size 0 c) := fun w' hb => (hA.later hb).ten
  have HA : Hid (At w0 w.heap.size (clC c).toArray 44) := hA
  have HV : Hid (∀ w', Below w.heap.size w w' → OwnE spE (w'.alloc (.cells #[.int .i64 c.tf, .int .i64 c.tt, .int .i64 c.hf, .int .i64 c.ht] 63)) w.heap.size 63 (.slice (some ⟨w'.heap.size, 0, none⟩) 2 2) [triS c, hanS c]) := fun w' hb => OwnE.lit spE w' w.heap.size 63 [triS c, hanS c] _ 2 hb.size rfl rfl (by simp [maxLen])
  have HT : Hid _ := hA.ten
  clear hA hw0
  unfold clV
  go_enter Try.func27, Try.ntmps27
  go_wp2_with fail
  rw [← HW0.out]
  obtain ⟨c0, c1, c2, c3, c4, c5, c6, c7, c8, c9⟩ := HT.out
  have HTR : Hid (∀ W, Calls Try.prog 45 #[.agg #[.int .i64 c.k, .int .i64 c.tf, .int .i64 c.tt, .int .i64 c.hf, .int .i64 c.ht, .int .i64 c.fi, .int .i64 c.t0, .int .i64 c.t1, .int .i64 c.t2, .bool c.t3]] W fun e w' => e = .returned (.agg #[.int .i64 c.tf, .int .i64 c.tt]) ∧ Below W.heap.size W w') := fun W => triedBy_any c W
  have HHA : Hid (∀ W, Calls Try.prog 53 #[.agg #[.int .i64 c.k, .int .i64 c.tf, .int .i64 c.tt, .int .i64 c.hf, .int .i64 c.ht, .int .i64 c.fi, .int .i64 c.t0, .int .i64 c.t1, .int .i64 c.t2, .bool c.t3]] W fun e w' => e = .returned (.agg #[.int .i64 c.hf, .int .i64 c.ht]) ∧ Below W.heap.size W w') := fun W => handledBy_any c W
  have HFI : Hid (∀ W, Calls Try.prog 54 #[.agg #[.int .i64 c.k, .int .i64 c.tf, .int .i64 c.tt, .int .i64 c.hf, .int .i64 c.ht, .int .i64 c.fi, .int .i64 c.t0, .int .i64 c.t1, .int .i64 c.t2, .bool c.t3]] W fun e w' => e = .returned (.agg #[.int .i64 c.fi, .int .i64 c.hf]) ∧ Below W.heap.size W w') := fun W => filterOf_any c W
  go_region_held3 (fun w' => w'.cell? ⟨w.heap.size, 0, none⟩ = some (.int .i64 c.k) ∧ w'.cell? ⟨w.heap.size, 1, none⟩ = some (.int .i64 c.tf) ∧ w'.cell? ⟨w.heap.size, 2, none⟩ = some (.int .i64 c.tt) ∧ w'.cell? ⟨w.heap.size, 3, none⟩ = some (.int .i64 c.hf) ∧ w'.cell? ⟨w.heap.size, 4, none⟩ = some (.int .i64 c.ht) ∧ w'.cell? ⟨w.heap.size, 5, none⟩ = some (.int .i64 c.fi) ∧ w'.cell? ⟨w.heap.size, 6, none⟩ = some (.int .i64 c.t0) ∧ w'.cell? ⟨w.heap.size, 7, none⟩ = some (.int .i64 c.t1) ∧ w'.cell? ⟨w.heap.size, 8, none⟩ = some (.int .i64 c.t2) ∧ w'.cell? ⟨w.heap.size, 9, none⟩ = some (.bool c.t3))
    (first | (exact HK.out _ (bdrew _)) | (exact HK.out _ (bstep (bdrew _) hb1)) | (exact HK.out _ (bstep (bstep (bdrew _) hb1) hb2)) | (exact HK.out _ (bbox (bstep (bstep (bdrew _) hb1) hb2) _)))
    (first | (go_at_call 45; refine (HTR.out _).mono ?_; rintro e w1 ⟨rfl, hb1⟩) | (go_at_call 53; refine (HHA.out _).mono ?_; rintro e w2 ⟨rfl, hb2⟩))
  rename_i hheld
  clear hheld
  have hb2' := bstep (bstep (bdrew _) hb1) hb2
  obtain ⟨w3, hw3⟩ : ∃ W, W = w2.alloc (.cells #[.int .i64 c.tf, .int .i64 c.tt, .int .i64 c.hf, .int .i64 c.ht] 63) := ⟨_, rfl⟩
  have HW3 : Hid (w3 = _) := hw3
  have hb3 : Below w0.heap.size w0 w3 := by rw [hw3]; exact bbox hb2' _
  have HO3 : Hid (OwnE spE w3 w.heap.size 63 (.slice (some ⟨w2.heap.size, 0, none⟩) 2 2) [triS c, hanS c]) := by
    rw [hw3]; exact HV.out w2 (bstep HB0.out hb2')
  have HB3 : Hid (Below w.heap.size w w3) := bstep HB0.out hb3
  replace HT : Hid _ := HK.out w3 hb3
  have HK3 : Hid (∀ w', Below w3.heap.size w3 w' → Ten w' w.heap.size 0 c) := fun w' hb => HK.out w' (bstep hb3 hb)
  clear hw3 hb1 hb2 hb2' hb3 c0 c1 c2 c3 c4 c5 c6 c7 c8 c9
  obtain ⟨c0, c1, c2, c3, c4, c5, c6, c7, c8, c9⟩ := HT.out
  rw [← HW3.out]
  by_cases hk : c.k = 2
  · have HS : Hid (spansL c = [triS c, hanS c] ++ [filS c]) := by show _ = _; unfold spansL; rw [if_pos hk]; rfl
    have hk' : (c.k == 2) = true := by rw [hk]; rfl
    have HV4 : Hid (∀ w' : World, Es spE (w'.alloc (.cells #[.int .i64 c.fi, .int .i64 c.hf] 63)) (.slice (some ⟨w'.heap.size, 0, none⟩) 1 1) [filS c]) := fun w' => (OwnE.lit spE w' w'.heap.size 63 [filS c] _ 1 (Nat.le_refl _) rfl rfl (by simp [maxLen])).es
    clear hk
    go_wp2_with fail
    refine (HFI.out _).mono ?_
    rintro e w4 ⟨rfl, hb4⟩
    have HB4 : Hid (Below w3.heap.size w3 w4) := hb4
    have HO4 : Hid (OwnE spE (w4.alloc (.cells #[.int .i64 c.fi, .int .i64 c.hf] 63)) w.heap.size 63 (.slice (some ⟨w2.heap.size, 0, none⟩) 2 2) [triS c, hanS c]) := HO3.out.later (bbox hb4 _)
    have HSZ : Hid (w.heap.size ≤ (w4.alloc (.cells #[.int .i64 c.fi, .int .i64 c.hf] 63)).heap.size) := (bbox (bstep HB3.out hb4) _).size
    clear hb4 c0 c1 c2 c3 c4 c5 c6 c7 c8 c9
    go_wp2_with (at_builtin; go_must (refine wpList_append_es spE rfl (.tmp 12) (.tmp 15) 50 rfl w.heap.size 63 _ 16 Try.underlying50 Try.infoSpan rfl rfl rfl HO4.out (HV4.out w4) (by simp [maxLen]) (by simp) HSZ.out ?_; intro v5 w5 ho5 hg5))
    go_ret
    refine ⟨v5, rfl, by rw [HS.out]; exact ho5, ?_⟩
    exact (bbox (bstep HB3.out HB4.out) _).trans (grown_belowE HO4.out hg5 (Nat.le_refl _) HSZ.out)
  · have HS : Hid (spansL c = [triS c, hanS c]) := by show _ = _; unfold spansL; rw [if_neg hk]
    have hk' : (c.k == 2) = false := by rw [beq_eq_false_iff_ne]; exact hk
    clear hk
    go_wp2_with fail
    go_ret
    exact ⟨_, rfl, by rw [HS.out]; exact HO3.out, HB3.out⟩

end Go.Proofs.Ytbfcdcdeohikpaa
