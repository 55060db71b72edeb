/- Texts joined: Fits9, Check9. -/
import Derived.Test.YthpmpdpfnlecmaaGreatK11
namespace Go.Proofs.YthpmpdpfnlecmaaGreat
set_option linter.unusedVariables false
set_option linter.unusedSimpArgs false
open Go.RowKit
attribute [local go_sem ↓] Go.wp_at_zero Go.wp_at_succ
theorem Tryz.sizeSpan : (Tryz.prog.info? 202).map (·.size) = some 2 := by kernel_rfl
theorem range_any9 {f : Nat → Bool} {q : Nat} : (List.range (q + 1)).any f = ((List.range q).any f || f q) := by rw [List.range_succ, List.any_append]; simp

theorem overlaps_none (a : Option Addr) (cap : Nat) (w : World) :
  Calls Tryz.prog 232 #[.slice a 0 cap] w fun e w' => e = .returned (.bool false) ∧ w' = w := by
 go_enter Tryz.func232, Tryz.ntmps232
 go_wp2
 refine wp_loop_rounds 1 ?_; rw [rounds_succ]
 go_wp2
 go_ret
 exact ⟨rfl, rfl⟩

set_option maxHeartbeats 1000000 in
theorem overlaps_some {b off cap : Nat} {l : List Sp} {w : World} (hE : Es spE w (.slice (some ⟨b, off, none⟩) l.length cap) l) (hb : b < w.heap.size) (hc : ∀ i (hi : i < l.length), El spE w b (off + i * 2) l[i]) (hl : l.length ≤ maxLen) (hcap : l.length ≤ cap) (hm : cap ≤ maxLen) :
  Calls Tryz.prog 232 #[.slice (some ⟨b, off, none⟩) l.length cap] w fun e w' => e = .returned (.bool (ovlB l)) ∧ Below w.heap.size w w' := by
 unfold maxLen at hl hm
 have HC : Hid (∀ i (hi : i < l.length), El spE w b (off + i * 2) l[i]) := hc
 have HE : Hid (Es spE w (.slice (some ⟨b, off, none⟩) l.length cap) l) := hE
 clear hc hE
 go_enter Tryz.func232, Tryz.ntmps232
 go_wp2_with fail
 go_loopw [7] (fun z wr => ∃ q : Nat, q ≤ l.length ∧ z = .int .i64 q ∧ Below w.heap.size w wr ∧ (List.range q).any (ovlAt l) = false) (fun z _ => l.length - (intOf z).toNat)
 case atStart => exact ⟨0, Nat.zero_le _, rfl, Below.refl _ _, by simp⟩
 case round =>
  obtain ⟨q, hq, rfl, hB, hany⟩ := hrel
  have HAn : Hid ((List.range q).any (ovlAt l) = false) := hany
  have HBL : Hid (Below w.heap.size w wr) := hB
  clear hany
  by_cases hql : q < l.length
  ·obtain ⟨c0, c1⟩ := ((HC.out q hql).below hB hb).two
   have HOv : Hid (ovlAt l q = (l.take q).any (shrB l[q])) := by show _ = _; unfold ovlAt; rw [List.getD_eq_getElem?_getD, List.getElem?_eq_getElem hql]; rfl
   obtain ⟨hsl, hEs⟩ := slice_toE (P := Tryz.prog) (HE.out.later hB) q (by omega) 187 202 Tryz.underlying187 Tryz.sizeSpan
   have HEs : Hid (Es spE wr (.slice (some ⟨b, off, none⟩) q cap) (l.take q)) := hEs
   generalize l[q] = x at *
   obtain ⟨w0, hw0⟩ : ∃ W, W = wr.alloc (.cells #[.int .i64 x.1, .int .i64 x.2] 202) := ⟨_, rfl⟩
   have HW0 : Hid (w0 = _) := hw0
   have hb0 : Below wr.heap.size wr w0 := by rw [hw0]; exact made_below _ _ _
   have HB0 : Hid (Below wr.heap.size wr w0) := hb0
   have hA : At w0 wr.heap.size #[.int .i64 x.1, .int .i64 x.2] 202 := by rw [hw0]; exact At.made wr _ _
   have HK : Hid (∀ w', Below w0.heap.size w0 w' → w'.cell? ⟨wr.heap.size, 0, none⟩ = some (.int .i64 x.1) ∧ w'.cell? ⟨wr.heap.size, 1, none⟩ = some (.int .i64 x.2)) := fun w' h => (hA.later h).box2
   obtain ⟨d0, d1⟩ := hA.box2
   have HCo : Hid (∀ W, Below w0.heap.size w0 W → Calls Tryz.prog 249 #[.slice (some ⟨b, off, none⟩) q cap, .func (.func 254) #[.agg #[.int .i64 x.1, .int .i64 x.2]] #[]] W fun e w' => e = .returned (.bool ((l.take q).any (shrB x))) ∧ Below W.heap.size W w') := fun W hW => containsS_any ((HEs.out.later hb0).later hW) (tells_shares x W _)
   clear hB hw0 hb0 hA hEs
   go_wp2_with (rw [← HW0.out])
   go_region_held3 (fun w' => w'.cell? ⟨wr.heap.size, 0, none⟩ = some (.int .i64 x.1) ∧ w'.cell? ⟨wr.heap.size, 1, none⟩ = some (.int .i64 x.2))
    (first | (exact HK.out _ (bdrew _)) | (exact HK.out _ (bstep (bdrew _) hb1)))
    (first | (go_at_call 249; refine (HCo.out _ (bdrew _)).mono ?_; rintro e w1 ⟨rfl, hb1⟩))
   rename_i hheld
   clear hheld
   have hB1 : Below w.heap.size w w1 := bstep (bstep HBL.out HB0.out) (bstep (bdrew _) hb1)
   clear hb1 d0 d1
   cases hy : (l.take q).any (shrB x) with
   | false =>
    have H1 : Hid ((List.range (q + 1)).any (ovlAt l) = false) := by show _ = _; rw [range_any9, HAn.out, HOv.out, hy]; rfl
    go_wp2_with fail
    go_roundw
    case rel => exact ⟨q + 1, by omega, by go_num, hB1, H1.out⟩
    case measure => simp [intOf]; omega
   | true =>
    have H1 : Hid (ovlB l = true) := by
     show _ = _
     exact List.any_eq_true.2 ⟨q, List.mem_range.2 hql, by rw [HOv.out, hy]⟩
    go_wp2_with fail
    go_ret
    exact ⟨ret_bool H1.out.symm, hB1⟩
  ·have HF' : Hid (ovlB l = false) := by
    show _ = _
    have := HAn.out
    rwa [show q = l.length by omega] at this
   go_wp2
   go_ret
   exact ⟨ret_bool HF'.out.symm, HBL.out⟩

theorem overlaps_any {v : Value} {l : List Sp} {w : World} (h : Es spE w v l) :
  Calls Tryz.prog 232 #[v] w fun e w' => e = .returned (.bool (ovlB l)) ∧ Below w.heap.size w w' := by
 by_cases hne : l = []
 ·subst hne
  obtain ⟨a, c, rfl, _, _⟩ := h.shape
  refine (overlaps_none a c w).mono ?_
  rintro e w' ⟨rfl, rfl⟩
  exact ⟨rfl, Below.refl _ _⟩
 ·have hl := h.len
  obtain ⟨b, off, cap, rfl, h1, h2, hb, hc⟩ := h.parts hne
  exact overlaps_some h hb hc hl h1 h2

/-- Two spans compared. -/
theorem eq_sp (W : World) (a b : Sp) : (binOp .eql 202 (.agg #[.int .i64 a.1, .int .i64 a.2]) (.agg #[.int .i64 b.1, .int .i64 b.2])).run Tryz.prog W = .ok (.bool (decide (a = b))) W := by
 obtain ⟨a1, a2⟩ := a
 obtain ⟨b1, b2⟩ := b
 have : decide ((a1, a2) = (b1, b2)) = (a1 == b1 && a2 == b2) := by rw [Bool.eq_iff_iff]; simp
 rw [this]
 simp [go_sem]
 cases h1 : (a1 == b1) <;> cases h2 : (a2 == b2) <;> simp_all [go_sem]
theorem ne_sp (W : World) (a b : Sp) : (binOp .neq 202 (.agg #[.int .i64 a.1, .int .i64 a.2]) (.agg #[.int .i64 b.1, .int .i64 b.2])).run Tryz.prog W = .ok (.bool (!decide (a = b))) W := by
 obtain ⟨a1, a2⟩ := a
 obtain ⟨b1, b2⟩ := b
 have : decide ((a1, a2) = (b1, b2)) = (a1 == b1 && a2 == b2) := by rw [Bool.eq_iff_iff]; simp
 rw [this]
 simp [go_sem]
 cases h1 : (a1 == b1) <;> cases h2 : (a2 == b2) <;> simp_all [go_sem]

set_option maxHeartbeats 1000000 in
theorem fits11_any {x o : Sp} {g : Nat} {w : World} (hg : At w g #[.int .i64 o.1, .int .i64 o.2] 202) :
  Calls Tryz.prog 252 #[spV9 x, .pointer (some ⟨g, 0, none⟩)] w fun e w' => e = .returned (.bool (partB x o && !decide (x = o))) ∧ Below w.heap.size w w' := by
 obtain ⟨w0, hw0⟩ : ∃ W, W = w.alloc (.cells #[.int .i64 x.1, .int .i64 x.2] 202) := ⟨_, rfl⟩
 have HW0 : Hid (w0 = _) := hw0
 have hb0 : Below w.heap.size w w0 := by rw [hw0]; exact made_below _ _ _
 have HB0 : Hid (Below w.heap.size w w0) := hb0
 have hA : At w0 w.heap.size #[.int .i64 x.1, .int .i64 x.2] 202 := by rw [hw0]; exact At.made w _ _
 have HK : Hid (∀ w', Below w0.heap.size w0 w' → (w'.cell? ⟨w.heap.size, 0, none⟩ = some (.int .i64 x.1) ∧ w'.cell? ⟨w.heap.size, 1, none⟩ = some (.int .i64 x.2)) ∧ (w'.cell? ⟨g, 0, none⟩ = some (.int .i64 o.1) ∧ w'.cell? ⟨g, 1, none⟩ = some (.int .i64 o.2))) := fun w' h => ⟨(hA.later h).box2, ((hg.later hb0).later h).box2⟩
 obtain ⟨⟨c0, c1⟩, c2, c3⟩ := HK.out w0 (Below.refl _ _)
 have hne := fun W => ne_sp W x o
 have HPa : Hid (∀ W, Calls Tryz.prog 253 #[.agg #[.int .i64 x.1, .int .i64 x.2], .agg #[.int .i64 o.1, .int .i64 o.2]] W fun e w' => e = .returned (.bool (partB x o)) ∧ Below W.heap.size W w') := fun W => isPartOf_any x o W
 clear hg hw0 hb0 hA
 unfold spV9
 go_enter Tryz.func252, Tryz.ntmps252
 go_wp2_with (first | (rw [← HW0.out]) | fail)
 refine (HPa.out _).mono ?_
 rintro e w1 ⟨rfl, hb1⟩
 obtain ⟨⟨e0, e1⟩, e2, e3⟩ := HK.out w1 hb1
 have HB1 : Hid (Below w.heap.size w w1) := bstep HB0.out hb1
 clear hb1 c0 c1 c2 c3
 cases hp : partB x o with
 | false =>
  go_wp2
  go_ret
  exact ⟨ret_bool (by rw [hp]; rfl), HB1.out⟩
 | true =>
  go_wp2
  go_ret
  exact ⟨ret_bool (by rw [hp]; rfl), HB1.out⟩

set_option maxHeartbeats 1000000 in
theorem fits1_any {o : Sp} {g : Nat} {va : Value} {la : List Sp} {w : World} (hg : w.cell? ⟨g, 0, none⟩ = some va) (hlt : g < w.heap.size) (ha : Es spE w va la) :
  Calls Tryz.prog 250 #[spV9 o, .pointer (some ⟨g, 0, none⟩)] w fun e w' => e = .returned (.bool (inB9 la o)) ∧ Below w.heap.size w w' := by
 obtain ⟨w0, hw0⟩ : ∃ W, W = w.alloc (.cells #[.int .i64 o.1, .int .i64 o.2] 202) := ⟨_, rfl⟩
 have HW0 : Hid (w0 = _) := hw0
 have hb0 : Below w.heap.size w w0 := by rw [hw0]; exact made_below _ _ _
 have HB0 : Hid (Below w.heap.size w w0) := hb0
 have hA : At w0 w.heap.size #[.int .i64 o.1, .int .i64 o.2] 202 := by rw [hw0]; exact At.made w _ _
 have hg0 : w0.cell? ⟨g, 0, none⟩ = some va := by rw [← hg]; exact hb0.cell (p := ⟨g, 0, none⟩) hlt
 have HAl : Hid (Calls Tryz.prog 251 #[va, .func (.func 252) #[] #[.pointer (some ⟨w.heap.size, 0, none⟩)]] w0 fun e w' => e = .returned (.bool (inB9 la o)) ∧ Below w0.heap.size w0 w') := by
  refine allS_any (p := fun s => partB s o && !decide (s = o)) (ha.later hb0) ⟨run_enter9 Tryz.func252 (by kernel_rfl) rfl, fun W hW x hx => ?_⟩
  simpa using fits11_any (x := x) (hA.later hW)
 obtain ⟨aa, ca, hva, _, _⟩ := ha.shape
 clear ha hg hw0 hb0 hA
 subst hva
 unfold spV9
 go_enter Tryz.func250, Tryz.ntmps250
 go_wp2_with (rw [← HW0.out])
 refine Calls.mono HAl.out ?_
 rintro e w1 ⟨rfl, hb1⟩
 have HB1 : Hid (Below w.heap.size w w1) := bstep HB0.out hb1
 clear hb1
 go_wp2
 go_ret
 exact ⟨rfl, HB1.out⟩

set_option maxHeartbeats 2000000 in
theorem fits9_any {va vb : Value} {la lb : List Sp} {w : World} (ha : Es spE w va la) (hb : Es spE w vb lb) (na : la ≠ []) (nb : lb ≠ []) :
  Calls Tryz.prog 230 #[va, vb] w fun e w' => e = .returned (.bool (fitB9 la lb)) ∧ Below w.heap.size w w' := by
 have hla := ha.len
 have hlb := hb.len
 unfold maxLen at hla hlb
 have pa : 0 < la.length := List.length_pos_iff.2 na
 have pb : 0 < lb.length := List.length_pos_iff.2 nb
 obtain ⟨ba, oa, ca, rfl, ha1, ha2, hba, hca⟩ := ha.parts na
 obtain ⟨bb, ob, cb, rfl, hb1, hb2, hbb, hcb⟩ := hb.parts nb
 unfold maxLen at ha2 hb2
 obtain ⟨w0, hw0⟩ : ∃ W, W = w.alloc (.cells #[.slice (some ⟨ba, oa, none⟩) la.length ca] 187) := ⟨_, rfl⟩
 have HW0 : Hid (w0 = _) := hw0
 have hb0 : Below w.heap.size w w0 := by rw [hw0]; exact made_below _ _ _
 have HB0 : Hid (Below w.heap.size w w0) := hb0
 have hA : At w0 w.heap.size #[.slice (some ⟨ba, oa, none⟩) la.length ca] 187 := by rw [hw0]; exact At.made w _ _
 have HEa : Hid (Es spE w0 (.slice (some ⟨ba, oa, none⟩) la.length ca) la) := ha.later hb0
 have HEb : Hid (Es spE w0 (.slice (some ⟨bb, ob, none⟩) lb.length cb) lb) := hb.later hb0
 have HAt : Hid (At w0 w.heap.size #[.slice (some ⟨ba, oa, none⟩) la.length ca] 187) := hA
 have HM : Hid (Calls Tryz.prog 248 #[.slice (some ⟨ba, oa, none⟩) la.length ca, .slice (some ⟨bb, ob, none⟩) lb.length cb] w0 fun e w' => e = .returned (.bool (meetB la lb)) ∧ Below w0.heap.size w0 w') := meet_any HEa.out HEb.out
 have HFa : Hid (la.headD (0, 0) = la[0]) := by cases la with | nil => exact absurd rfl na | cons x r => rfl
 have HFb : Hid (lb.headD (0, 0) = lb[0]) := by cases lb with | nil => exact absurd rfl nb | cons x r => rfl
 have HTa : Hid (la.drop 1 = la.tail) := by cases la <;> rfl
 have HTb : Hid (lb.drop 1 = lb.tail) := by cases lb <;> rfl
 have HCa : Hid (∀ w', Below w0.heap.size w0 w' → Two9 w' ba oa la[0]) := fun w' h => by
  have := ((hca 0 pa).below (bstep hb0 h) hba).two
  simpa using this
 have HCb : Hid (∀ w', Below w0.heap.size w0 w' → Two9 w' bb ob lb[0]) := fun w' h => by
  have := ((hcb 0 pb).below (bstep hb0 h) hbb).two
  simpa using this
 have k0 := hA.cell0
 clear ha hb hca hcb hw0 hb0 hA hba hbb
 go_enter Tryz.func230, Tryz.ntmps230
 go_wp2_with (rw [← HW0.out])
 refine Calls.mono HM.out ?_
 rintro e w1 ⟨rfl, hb1'⟩
 have HB1 : Hid (Below w0.heap.size w0 w1) := hb1'
 have k1 : w1.cell? ⟨w.heap.size, 0, none⟩ = some (.slice (some ⟨ba, oa, none⟩) la.length ca) := (HAt.out.later hb1').cell0
 clear hb1' k0 HM
 cases hm : meetB la lb with
 | false =>
  go_wp2_with fail
  go_ret
  exact ⟨ret_bool (by unfold fitB9; rw [if_neg (by rw [hm]; decide)]), bstep HB0.out HB1.out⟩
 | true =>
  have HR : Hid (fitB9 la lb = if la[0] = lb[0] then !meetB la.tail lb.tail else lb.any (inB9 la)) := by show _ = _; unfold fitB9; rw [if_pos hm, HFa.out, HFb.out]
  obtain ⟨c0, c1⟩ := HCa.out w1 HB1.out
  obtain ⟨d0, d1⟩ := HCb.out w1 HB1.out
  have heq0 := fun W => eq_sp W la[0] lb[0]
  generalize la[0] = x at *
  generalize lb[0] = y at *
  by_cases hxy : x = y
  ·have heq : ∀ W : World, (binOp .eql 202 (.agg #[.int .i64 x.1, .int .i64 x.2]) (.agg #[.int .i64 y.1, .int .i64 y.2])).run Tryz.prog W = .ok (.bool true) W := fun W => by rw [heq0, decide_eq_true hxy]
   have HR2 : Hid (fitB9 la lb = !meetB la.tail lb.tail) := by show _ = _; rw [HR.out, if_pos hxy]
   obtain ⟨a', ca', hsa, hEa, _, _⟩ := slice_fromE (P := Tryz.prog) HEa.out 1 (by omega) 187 202 Tryz.underlying187 Tryz.sizeSpan
   obtain ⟨b', cb', hsb, hEb, _, _⟩ := slice_fromE (P := Tryz.prog) HEb.out 1 (by omega) 187 202 Tryz.underlying187 Tryz.sizeSpan
   replace hsa : ∀ (W : World) (k : IntKind), (Instr.slice 187 (.slice (some ⟨ba, oa, none⟩) la.length ca) (some (.int k 1)) none none).run Tryz.prog W = .ok (.slice a' (la.length - 1) ca') W := hsa
   replace hsb : ∀ (W : World) (k : IntKind), (Instr.slice 187 (.slice (some ⟨bb, ob, none⟩) lb.length cb) (some (.int k 1)) none none).run Tryz.prog W = .ok (.slice b' (lb.length - 1) cb') W := hsb
   have HMt : Hid (∀ W, Below w0.heap.size w0 W → Calls Tryz.prog 248 #[.slice a' (la.length - 1) ca', .slice b' (lb.length - 1) cb'] W fun e w' => e = .returned (.bool (meetB la.tail lb.tail)) ∧ Below W.heap.size W w') := fun W hW => by
    rw [← HTa.out, ← HTb.out]
    exact meet_any (hEa.later hW) (hEb.later hW)
   have HKk : Hid (∀ W, Below w0.heap.size w0 W → W.cell? ⟨w.heap.size, 0, none⟩ = some (.slice (some ⟨ba, oa, none⟩) la.length ca)) := fun W hW => (HAt.out.later hW).cell0
   clear heq0 hxy hEa hEb
   go_wp2_with fail
   go_quiet (fail)
   go_wp2_with fail
   clear heq c0 c1 d0 d1 k1
   have hBq : Below w0.heap.size w0 (w1.drewN nq) := bstep HB1.out (Below.drewN (Below.refl _ _) _)
   generalize w1.drewN nq = wq at *
   have HBq : Hid (Below w0.heap.size w0 wq) := hBq
   have kq := HKk.out wq hBq
   clear hBq
   go_region_held3 (fun w' => w'.cell? ⟨w.heap.size, 0, none⟩ = some (.slice (some ⟨ba, oa, none⟩) la.length ca))
    (first | (exact HKk.out _ (bstep HBq.out (bdrew _))) | (exact HKk.out _ (bstep HBq.out (bstep (bdrew _) hb2))))
    (first | (go_at_call 248; refine (HMt.out _ (bstep HBq.out (bdrew _))).mono ?_; rintro e w2 ⟨rfl, hb2⟩))
   rename_i hheld
   clear hheld
   have HB2 : Hid (Below w.heap.size w w2) := bstep (bstep HB0.out HBq.out) (bstep (bdrew _) hb2)
   clear hb2
   go_wp2_with fail
   go_ret
   exact ⟨ret_bool HR2.out.symm, HB2.out⟩
  ·have heq : ∀ W : World, (binOp .eql 202 (.agg #[.int .i64 x.1, .int .i64 x.2]) (.agg #[.int .i64 y.1, .int .i64 y.2])).run Tryz.prog W = .ok (.bool false) W := fun W => by rw [heq0, decide_eq_false hxy]
   have HR2 : Hid (fitB9 la lb = lb.any (inB9 la)) := by show _ = _; rw [HR.out, if_neg hxy]
   have HCo : Hid (∀ W, Below w0.heap.size w0 W → Calls Tryz.prog 249 #[.slice (some ⟨bb, ob, none⟩) lb.length cb, .func (.func 250) #[] #[.pointer (some ⟨w.heap.size, 0, none⟩)]] W fun e w' => e = .returned (.bool (lb.any (inB9 la))) ∧ Below W.heap.size W w') := fun W hW => by
    refine containsS_any (HEb.out.later hW) ⟨run_enter9 Tryz.func250 (by kernel_rfl) rfl, fun W2 hW2 z hz => ?_⟩
    have hA1 := HAt.out.later (bstep hW hW2)
    have := fits1_any (o := z) (w := W2) hA1.cell0 hA1.lt (HEa.out.later (bstep hW hW2))
    simpa using this
   clear heq0 hxy
   go_wp2_with fail
   go_quiet (fail)
   go_wp2_with fail
   have HBq : Hid (Below w0.heap.size w0 (w1.drewN nq)) := bstep HB1.out (Below.drewN (Below.refl _ _) _)
   refine (HCo.out _ HBq.out).mono ?_
   rintro e w2 ⟨rfl, hb2⟩
   have HB2 : Hid (Below w.heap.size w w2) := bstep (bstep HB0.out HBq.out) hb2
   clear hb2
   go_wp2_with fail
   go_ret
   exact ⟨ret_bool HR2.out.symm, HB2.out⟩
theorem spans_ne (c : Cl) : spansL c ≠ [] := by unfold spansL; split <;> simp

set_option maxHeartbeats 2000000 in
theorem check1_any {c : Cl} {g : Nat} {vl : Value} {ll : List Sp} {w : World} (hg : w.cell? ⟨g, 0, none⟩ = some vl) (hlt : g < w.heap.size) (hl : Es spE w vl ll) (nl : ll ≠ []) :
  Calls Tryz.prog 229 #[clV c, .pointer (some ⟨g, 0, none⟩)] w fun e w' => e = .returned (.bool (!fitB9 (spansL c) ll)) ∧ Below w.heap.size w w' := by
 obtain ⟨w0, hw0⟩ : ∃ W, W = w.alloc (.cells #[.int .i64 c.k, .int .i64 c.tf, .int .i64 c.tt, .int .i64 c.hf, .int .i64 c.ht, .int .i64 c.fi, .int .i64 c.t0, .int .i64 c.t1, .int .i64 c.t2, .bool c.t3] 101) := ⟨_, rfl⟩
 have HW0 : Hid (w0 = _) := hw0
 have hb0 : Below w.heap.size w w0 := by rw [hw0]; exact made_below _ _ _
 have HB0 : Hid (Below w.heap.size w w0) := hb0
 have hA : At w0 w.heap.size (clC c).toArray 101 := by rw [hw0]; exact At.made w (clC c).toArray _
 obtain ⟨al, cl, hvl, _, _⟩ := hl.shape
 subst hvl
 have HK : Hid (∀ w', Below w0.heap.size w0 w' → w'.cell? ⟨g, 0, none⟩ = some (.slice al ll.length cl) ∧ Ten w' w.heap.size 0 c) := fun w' h => ⟨by rw [← hg]; exact (bstep hb0 h).cell (p := ⟨g, 0, none⟩) hlt, (hA.later h).ten⟩
 have HSp : Hid (∀ W, Calls Tryz.prog 228 #[.agg #[.int .i64 c.k, .int .i64 c.tf, .int .i64 c.tt, .int .i64 c.hf, .int .i64 c.ht, .int .i64 c.fi, .int .i64 c.t0, .int .i64 c.t1, .int .i64 c.t2, .bool c.t3]] W fun e w' => ∃ v, e = .returned v ∧ OwnE spE w' W.heap.size 202 v (spansL c) ∧ Below W.heap.size W w') := fun W => spansOf_any c W
 have HFi : Hid (∀ W v, Below w0.heap.size w0 W → Es spE W v (spansL c) → Calls Tryz.prog 230 #[v, .slice al ll.length cl] W fun e w' => e = .returned (.bool (fitB9 (spansL c) ll)) ∧ Below W.heap.size W w') := fun W v hW hv => fits9_any hv ((hl.later hb0).later hW) (spans_ne c) nl
 obtain ⟨kg, c0, c1, c2, c3, c4, c5, c6, c7, c8, c9⟩ := HK.out w0 (Below.refl _ _)
 clear hg hl hw0 hb0 hA
 unfold clV
 go_enter Tryz.func229, Tryz.ntmps229
 go_wp2_with (rw [← HW0.out])
 go_region_held3 (fun w' => w'.cell? ⟨g, 0, none⟩ = some (.slice al ll.length cl) ∧ w'.cell? ⟨w.heap.size, 0, none⟩ = some (.int .i64 c.k) ∧ w'.cell? ⟨w.heap.size, 1, none⟩ = some (.int .i64 c.tf) ∧ w'.cell? ⟨w.heap.size, 2, none⟩ = some (.int .i64 c.tt) ∧ w'.cell? ⟨w.heap.size, 3, none⟩ = some (.int .i64 c.hf) ∧ w'.cell? ⟨w.heap.size, 4, none⟩ = some (.int .i64 c.ht) ∧ w'.cell? ⟨w.heap.size, 5, none⟩ = some (.int .i64 c.fi) ∧ w'.cell? ⟨w.heap.size, 6, none⟩ = some (.int .i64 c.t0) ∧ w'.cell? ⟨w.heap.size, 7, none⟩ = some (.int .i64 c.t1) ∧ w'.cell? ⟨w.heap.size, 8, none⟩ = some (.int .i64 c.t2) ∧ w'.cell? ⟨w.heap.size, 9, none⟩ = some (.bool c.t3))
  (first | (exact HK.out _ (bdrew _)) | (exact HK.out _ (bstep (bdrew _) hb1)) | (exact HK.out _ (bstep (bstep (bdrew _) hb1) hb2)))
  (first | (go_at_call 228; refine (HSp.out _).mono ?_; rintro e w1 ⟨v1, rfl, ho1, hb1⟩) | (go_at_call 230; refine (HFi.out _ _ (bstep (bdrew _) hb1) ho1.es).mono ?_; rintro e w2 ⟨rfl, hb2⟩))
 rename_i hheld
 clear hheld
 have HB2 : Hid (Below w.heap.size w w2) := bstep (bstep HB0.out (bstep (bdrew _) hb1)) hb2
 clear hb1 hb2 ho1 c0 c1 c2 c3 c4 c5 c6 c7 c8 c9 kg
 go_wp2_with fail
 go_ret
 exact ⟨rfl, HB2.out⟩

set_option maxHeartbeats 4000000 in
theorem isInRange_any (n : Int) (c : Cl) (w : World) :
  Calls Tryz.prog 231 #[.int .i64 n, clV c] w fun e w' => e = .returned (.bool (rngB n c)) ∧ Below w.heap.size w w' := by
 obtain ⟨w0, hw0⟩ : ∃ W, W = (w.alloc (.cells #[.int .i64 c.k, .int .i64 c.tf, .int .i64 c.tt, .int .i64 c.hf, .int .i64 c.ht, .int .i64 c.fi, .int .i64 c.t0, .int .i64 c.t1, .int .i64 c.t2, .bool c.t3] 101)).alloc (.cells #[.int .i64 0, .int .i64 n] 202) := ⟨_, rfl⟩
 have HW0 : Hid (w0 = _) := hw0
 have hb0 : Below w.heap.size w w0 := by rw [hw0]; exact bbox (made_below _ _ _) _
 have HB0 : Hid (Below w.heap.size w w0) := hb0
 have hA : At w0 w.heap.size (clC c).toArray 101 := by rw [hw0]; exact (At.made w (clC c).toArray _).next _
 have hS : At w0 (w.heap.size + 1) #[.int .i64 0, .int .i64 n] 202 := by
  rw [hw0]
  have := At.made (w.alloc (.cells #[.int .i64 c.k, .int .i64 c.tf, .int .i64 c.tt, .int .i64 c.hf, .int .i64 c.ht, .int .i64 c.fi, .int .i64 c.t0, .int .i64 c.t1, .int .i64 c.t2, .bool c.t3] 101)) #[.int .i64 0, .int .i64 n] 202
  simpa using this
 have HK : Hid (∀ w', Below w0.heap.size w0 w' → (w'.cell? ⟨w.heap.size + 1, 0, none⟩ = some (.int .i64 0) ∧ w'.cell? ⟨w.heap.size + 1, 1, none⟩ = some (.int .i64 n)) ∧ Ten w' w.heap.size 0 c) := fun w' h => ⟨(hS.later h).box2, (hA.later h).ten⟩
 have HTR : Hid (∀ W, Calls Tryz.prog 245 #[.agg #[.int .i64 c.k, .int .i64 c.tf, .int .i64 c.tt, .int .i64 c.hf, .int .i64 c.ht, .int .i64 c.fi, .int .i64 c.t0, .int .i64 c.t1, .int .i64 c.t2, .bool c.t3]] W fun e w' => e = .returned (.agg #[.int .i64 c.tf, .int .i64 c.tt]) ∧ Below W.heap.size W w') := fun W => triedBy_any c W
 have HHA : Hid (∀ W, Calls Tryz.prog 246 #[.agg #[.int .i64 c.k, .int .i64 c.tf, .int .i64 c.tt, .int .i64 c.hf, .int .i64 c.ht, .int .i64 c.fi, .int .i64 c.t0, .int .i64 c.t1, .int .i64 c.t2, .bool c.t3]] W fun e w' => e = .returned (.agg #[.int .i64 c.hf, .int .i64 c.ht]) ∧ Below W.heap.size W w') := fun W => handledBy_any c W
 have HFI : Hid (∀ W, Calls Tryz.prog 247 #[.agg #[.int .i64 c.k, .int .i64 c.tf, .int .i64 c.tt, .int .i64 c.hf, .int .i64 c.ht, .int .i64 c.fi, .int .i64 c.t0, .int .i64 c.t1, .int .i64 c.t2, .bool c.t3]] W fun e w' => e = .returned (.agg #[.int .i64 c.fi, .int .i64 c.hf]) ∧ Below W.heap.size W w') := fun W => filterOf_any c W
 have HP1 : Hid (∀ W, Calls Tryz.prog 253 #[.agg #[.int .i64 c.tf, .int .i64 c.tt], .agg #[.int .i64 0, .int .i64 n]] W fun e w' => e = .returned (.bool (partB (triS c) (0, n))) ∧ Below W.heap.size W w') := fun W => isPartOf_any (triS c) (0, n) W
 have HP2 : Hid (∀ W, Calls Tryz.prog 253 #[.agg #[.int .i64 c.hf, .int .i64 c.ht], .agg #[.int .i64 0, .int .i64 n]] W fun e w' => e = .returned (.bool (partB (hanS c) (0, n))) ∧ Below W.heap.size W w') := fun W => isPartOf_any (hanS c) (0, n) W
 have HP3 : Hid (∀ W, Calls Tryz.prog 253 #[.agg #[.int .i64 c.fi, .int .i64 c.hf], .agg #[.int .i64 0, .int .i64 n]] W fun e w' => e = .returned (.bool (partB (filS c) (0, n))) ∧ Below W.heap.size W w') := fun W => isPartOf_any (filS c) (0, n) W
 have HR : Hid (rngB n c = (decide (1 ≤ c.k) && decide (c.k ≤ 4) && partB (triS c) (0, n) && partB (hanS c) (0, n) && (if c.k = 2 then partB (filS c) (0, n) else decide (c.fi = -1)))) := rfl
 obtain ⟨⟨s0, s1⟩, c0, c1, c2, c3, c4, c5, c6, c7, c8, c9⟩ := HK.out w0 (Below.refl _ _)
 clear hw0 hb0 hA hS
 unfold clV
 go_enter Tryz.func231, Tryz.ntmps231
 go_wp2_with (rw [← HW0.out])
 by_cases h1 : c.k < 1
 ·have HR2 : Hid (rngB n c = false) := by show _ = _; rw [HR.out, decide_eq_false (by omega)]; rfl
  go_quiet (fail)
  go_wp2_with fail
  go_ret
  exact ⟨ret_bool HR2.out.symm, bstep HB0.out (Below.drewN (Below.refl _ _) _)⟩
 ·by_cases h4 : 4 < c.k
  ·have HR2 : Hid (rngB n c = false) := by show _ = _; rw [HR.out, decide_eq_true (by omega : 1 ≤ c.k), decide_eq_false (by omega : ¬ c.k ≤ 4)]; rfl
   go_quiet (fail)
   go_wp2_with fail
   go_ret
   exact ⟨ret_bool HR2.out.symm, bstep HB0.out (Below.drewN (Below.refl _ _) _)⟩
  ·cases hp1 : partB (triS c) (0, n) with
   | false =>
    have HR2 : Hid (rngB n c = false) := by show _ = _; rw [HR.out, hp1]; simp
    rw [hp1] at HP1
    go_region_with (first
     | (go_at_call 245; refine (HTR.out _).mono ?_; rintro e w1 ⟨rfl, hb1⟩; obtain ⟨⟨s0', s1'⟩, c0', c1', c2', c3', c4', c5', c6', c7', c8', c9'⟩ := HK.out w1 (bstep (bdrew _) hb1))
     | (go_at_call 253; refine (HP1.out _).mono ?_; rintro e w2 ⟨rfl, hb2⟩))
    all_goals
     have HB2 : Hid (Below w.heap.size w w2) := bstep HB0.out (bstep (bstep (bdrew _) hb1) hb2)
     clear hb1 hb2
     go_wp2_with fail
     go_ret
     exact ⟨ret_bool HR2.out.symm, HB2.out⟩
   | true =>
    rw [hp1] at HP1
    go_region_held3 (fun w' => (w'.cell? ⟨w.heap.size + 1, 0, none⟩ = some (.int .i64 0) ∧ w'.cell? ⟨w.heap.size + 1, 1, none⟩ = some (.int .i64 n)) ∧ w'.cell? ⟨w.heap.size, 0, none⟩ = some (.int .i64 c.k) ∧ w'.cell? ⟨w.heap.size, 1, none⟩ = some (.int .i64 c.tf) ∧ w'.cell? ⟨w.heap.size, 2, none⟩ = some (.int .i64 c.tt) ∧ w'.cell? ⟨w.heap.size, 3, none⟩ = some (.int .i64 c.hf) ∧ w'.cell? ⟨w.heap.size, 4, none⟩ = some (.int .i64 c.ht) ∧ w'.cell? ⟨w.heap.size, 5, none⟩ = some (.int .i64 c.fi) ∧ w'.cell? ⟨w.heap.size, 6, none⟩ = some (.int .i64 c.t0) ∧ w'.cell? ⟨w.heap.size, 7, none⟩ = some (.int .i64 c.t1) ∧ w'.cell? ⟨w.heap.size, 8, none⟩ = some (.int .i64 c.t2) ∧ w'.cell? ⟨w.heap.size, 9, none⟩ = some (.bool c.t3))
     (first | (exact HK.out _ (bdrew _)) | (exact HK.out _ (bstep (bdrew _) hb1)) | (exact HK.out _ (bstep (bstep (bdrew _) hb1) hb2)) | (exact HK.out _ (bstep (bstep (bstep (bdrew _) hb1) hb2) hb3)) | (exact HK.out _ (bstep (bstep (bstep (bstep (bdrew _) hb1) hb2) hb3) hb4)))
     (first
      | (go_at_call 245; refine (HTR.out _).mono ?_; rintro e w1 ⟨rfl, hb1⟩)
      | (go_at_call 246; refine (HHA.out _).mono ?_; rintro e w3 ⟨rfl, hb3⟩)
      | (go_at_call_of 253 (Value.agg #[Value.int IntKind.i64 c.tf, Value.int IntKind.i64 c.tt]); refine (HP1.out _).mono ?_; rintro e w2 ⟨rfl, hb2⟩)
      | (go_at_call 253; refine (HP2.out _).mono ?_; rintro e w4 ⟨rfl, hb4⟩))
    rename_i hheld
    clear hheld
    have HB4 : Hid (Below w0.heap.size w0 w4) := bstep (bstep (bstep (bstep (bdrew _) hb1) hb2) hb3) hb4
    have HK4 : Hid (∀ w', Below w4.heap.size w4 w' → (w'.cell? ⟨w.heap.size + 1, 0, none⟩ = some (.int .i64 0) ∧ w'.cell? ⟨w.heap.size + 1, 1, none⟩ = some (.int .i64 n)) ∧ Ten w' w.heap.size 0 c) := fun w' h => HK.out w' (bstep HB4.out h)
    clear hb1 hb2 hb3 hb4 s0 s1 c0 c1 c2 c3 c4 c5 c6 c7 c8 c9
    obtain ⟨⟨s0, s1⟩, c0, c1, c2, c3, c4, c5, c6, c7, c8, c9⟩ := HK.out w4 HB4.out
    cases hp2 : partB (hanS c) (0, n) with
    | false =>
     have HR2 : Hid (rngB n c = false) := by show _ = _; rw [HR.out, hp2]; simp
     go_wp2_with fail
     go_ret
     exact ⟨ret_bool HR2.out.symm, bstep HB0.out HB4.out⟩
    | true =>
     by_cases hk : c.k = 2
     ·have hk' : (c.k == 2) = true := by rw [hk]; rfl
      have HR2 : Hid (rngB n c = partB (filS c) (0, n)) := by show _ = _; rw [HR.out, hp1, hp2, decide_eq_true (by omega : 1 ≤ c.k), decide_eq_true (by omega : c.k ≤ 4), if_pos hk]; simp
      clear hk
      go_wp2_with fail
      go_region_held3 (fun w' => (w'.cell? ⟨w.heap.size + 1, 0, none⟩ = some (.int .i64 0) ∧ w'.cell? ⟨w.heap.size + 1, 1, none⟩ = some (.int .i64 n)) ∧ w'.cell? ⟨w.heap.size, 0, none⟩ = some (.int .i64 c.k) ∧ w'.cell? ⟨w.heap.size, 1, none⟩ = some (.int .i64 c.tf) ∧ w'.cell? ⟨w.heap.size, 2, none⟩ = some (.int .i64 c.tt) ∧ w'.cell? ⟨w.heap.size, 3, none⟩ = some (.int .i64 c.hf) ∧ w'.cell? ⟨w.heap.size, 4, none⟩ = some (.int .i64 c.ht) ∧ w'.cell? ⟨w.heap.size, 5, none⟩ = some (.int .i64 c.fi) ∧ w'.cell? ⟨w.heap.size, 6, none⟩ = some (.int .i64 c.t0) ∧ w'.cell? ⟨w.heap.size, 7, none⟩ = some (.int .i64 c.t1) ∧ w'.cell? ⟨w.heap.size, 8, none⟩ = some (.int .i64 c.t2) ∧ w'.cell? ⟨w.heap.size, 9, none⟩ = some (.bool c.t3))
       (first | (exact HK4.out _ (bdrew _)) | (exact HK4.out _ (bstep (bdrew _) hb5)) | (exact HK4.out _ (bstep (bstep (bdrew _) hb5) hb6)))
       (first
        | (go_at_call 247; refine (HFI.out _).mono ?_; rintro e w5 ⟨rfl, hb5⟩)
        | (go_at_call 253; refine (HP3.out _).mono ?_; rintro e w6 ⟨rfl, hb6⟩))
      rename_i hheld
      clear hheld
      have HB6 : Hid (Below w.heap.size w w6) := bstep (bstep HB0.out HB4.out) (bstep (bstep (bdrew _) hb5) hb6)
      clear hb5 hb6
      go_wp2_with fail
      go_ret
      exact ⟨ret_bool HR2.out.symm, HB6.out⟩
     ·have hk' : (c.k == 2) = false := by rw [beq_eq_false_iff_ne]; exact hk
      have HR2 : Hid (rngB n c = decide (c.fi = -1)) := by show _ = _; rw [HR.out, hp1, hp2, decide_eq_true (by omega : 1 ≤ c.k), decide_eq_true (by omega : c.k ≤ 4), if_neg hk]; simp
      clear hk
      go_wp2_with fail
      go_ret
      refine ⟨ret_bool ?_, bstep HB0.out HB4.out⟩
      rw [HR2.out, Bool.eq_iff_iff]; simp
end Go.Proofs.YthpmpdpfnlecmaaGreat
