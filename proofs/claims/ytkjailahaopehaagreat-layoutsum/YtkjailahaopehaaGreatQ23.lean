/- Texts joined: LayObj, TakeH. -/
import Derived.Test.YtkjailahaopehaaGreatQ22
import Derived.Test.YtkjailahaopehaaGreatQ14
import Derived.Deep.RegionHeld3
import Derived.Test.YtkjailahaopehaaGreatQ01
namespace Go.Proofs.YtkjailahaopehaaGreat
set_option linter.unusedVariables false
set_option linter.unusedSimpArgs false
open Go.RowKit
attribute [local go_sem ↓] Go.wp_at_zero Go.wp_at_succ
/-- Of an image whose types are well, and whose fields' types are used well. -/
structure WU (g : Img) : Prop where
 wel : welB g = true
 used : AllU g
theorem WU.im {g : Img} (h : WU g) : imB g = true := (Wel.of h.wel).im

set_option maxHeartbeats 8000000 in
set_option maxRecDepth 20000 in
theorem objectOf_any {g : Img} {t : Int} {w : World} (hg : Im w g) (U : WU g) (hwf : Wf t) :
  Calls Tryz.prog 44 #[imA4 g, .int .i64 t] w fun e w' => ∃ v, e = .returned v ∧ ∃ l, OwnE tyE w' w.heap.size 37 v l ∧ Cut l (objL g t) ∧ l.length ≤ 10000000 ∧ Below w.heap.size w w' := by
 obtain ⟨w0, HW0, HB0, HG, HC, HI, c0, c1, c2, c3⟩ := img_head hg
 have hln := im_len U.im
 have HUp : Hid (Calls Tryz.prog 60 #[imA4 g, .int .i64 t] w0 fun e w' => ∃ v, e = .returned v ∧ OwnI w' w0.heap.size v (upL g t) ∧ Below w0.heap.size w0 w') := up_any (HI.out w0 (Below.refl _ _)) U.im hwf
 have HUN : Hid (Nd g.ts.length 0 (upL g t)) := upL_nd g t
 have HHe : Hid (∀ W u, Below w0.heap.size w0 W → numB u g.ts.length = true → Calls Tryz.prog 58 #[imA4 g, .int .i64 u] W fun e w' => ∃ v, e = .returned v ∧ OwnE tyE w' W.heap.size 37 v (hldL g u) ∧ Below W.heap.size W w') := fun W u hW hu => heldBy_any (HI.out W hW) U.im hu
 have HCe : Hid (∀ W y, Below w0.heap.size w0 W → usdB g y = true → Calls Tryz.prog 41 #[imA4 g, .agg #[.int .i64 y.1, .int .i64 y.2.1, .int .i64 y.2.2.1, .bool y.2.2.2]] W fun e w' => ∃ v, e = .returned v ∧ ∃ l, OwnE tyE w' W.heap.size 37 v l ∧ Cut l (celL g y) ∧ l.length ≤ 2000 ∧ Below W.heap.size W w') := fun W y hW hy => cells12_any U.used U.wel (HI.out W hW) hy
 have HUs : Hid (∀ u, ∀ y ∈ hldL g u, usdB g y = true) := fun u y hy => U.used.hld hy
 have HLe : Hid (∀ u, (hldL g u).length ≤ g.fs.length) := hld_len g
 obtain ⟨up, hup⟩ : ∃ X, X = upL g t := ⟨_, rfl⟩
 have HOb : Hid (objL g t = up.reverse.flatMap (ownC g)) := by show _ = _; rw [hup]; rfl
 rw [← hup] at HUp HUN
 unfold imA4 at HUp HHe HCe ⊢
 clear hg U hwf hup
 go_enter Tryz.func44, Tryz.ntmps44
 go_wp2_with (rw [← HW0.out])
 refine Calls.mono HUp.out ?_
 rintro e w1 ⟨uv, rfl, hu, hb1⟩
 have HU : Hid (OwnI w1 w0.heap.size uv up) := hu
 have HB1 : Hid (Below w0.heap.size w0 w1) := hb1
 obtain ⟨ua, uc, huv, _, huc⟩ := (show Is w1 uv up from hu.is).shape
 subst huv
 have hupl := HUN.out.len
 unfold maxLen at huc
 clear hu hb1 c0 c1 c2 c3 HUp
 go_wp2_with fail
 go_loopw [5, 7, 9, 15] (fun lv _ _ z wr => ∃ (q : Nat) (l : List Ty), q ≤ up.length ∧ z = .int .i64 q ∧ Hid (OwnE tyE wr w1.heap.size 37 lv l) ∧ Hid (Cut l ((up.reverse.take q).flatMap (ownC g))) ∧ l.length ≤ q * 200000 ∧ Hid (Below w1.heap.size w1 wr)) (fun _ _ _ z _ => up.length - (intOf z).toNat)
 case atStart => exact ⟨0, [], Nat.zero_le _, rfl, OwnE.nil _ _ _ _, Or.inl rfl, by simp, Below.refl _ _⟩
 case round =>
  obtain ⟨q, l, hq, rfl, HO, HCu, hll, HB⟩ := hrel
  by_cases hql : q < up.length
  ·obtain ⟨m, hm⟩ : ∃ m : Nat, m + 1 = up.length := ⟨up.length - 1, by omega⟩
   obtain ⟨p, hp⟩ : ∃ p : Nat, p + q = m := ⟨m - q, by omega⟩
   have hpl : p < up.length := by omega
   have hpi : (p : Int) < (up.length : Int) := by omega
   have hqi : (q : Int) < (up.length : Int) := by omega
   have hw1 : IntKind.i64.wrap ((up.length : Int) - 1) = (m : Int) := by rw [show (up.length : Int) - 1 = (m : Int) by omega]; simp [IntKind.wrap, IntKind.bits, IntKind.signed]; omega
   have hw2 : IntKind.i64.wrap ((m : Int) - (q : Int)) = (p : Int) := by rw [show (m : Int) - (q : Int) = (p : Int) by omega]; simp [IntKind.wrap, IntKind.bits, IntKind.signed]; omega
   obtain ⟨ub, uoff, hua, hub, _, _, _, hcu⟩ := (show Is wr (.slice ua up.length uc) up from Sl.later HU.out.is HB.out).at hpl
   subst hua
   have hcp := hcu p hpl
   obtain ⟨u, huu⟩ : ∃ u, u = up[p] := ⟨_, rfl⟩
   have hun : numB u g.ts.length = true := by rw [huu]; exact HUN.out.1 _ (List.getElem_mem hpl)
   have HT : Hid ((up.reverse.take (q + 1)).flatMap (ownC g) = (up.reverse.take q).flatMap (ownC g) ++ ownC g u) := by
    show _ = _
    rw [fm_take (by simpa using hql), huu]
    congr 2
    rw [List.getElem_reverse]
    congr 1
    omega
   rw [← huu] at hcp
   have hB01 : Below w0.heap.size w0 wr := bstep HB1.out HB.out
   have HK : Hid (∀ W, Below wr.heap.size wr W → Im4 W w.heap.size g ∧ W.cell? ⟨ub, uoff + p, none⟩ = some (.int .i64 u)) := fun W hW => ⟨HC.out W (bstep hB01 hW), by rw [← hcp]; exact hW.cell (p := ⟨ub, uoff + p, none⟩) hub⟩
   have HHq : Hid (∀ W, Below wr.heap.size wr W → Calls Tryz.prog 58 #[.agg #[.slice g.ta g.ts.length g.tc, .slice g.fa g.fs.length g.fc, .slice g.ma g.ms.length g.mc, .int .i64 g.en], .int .i64 u] W fun e w' => ∃ v, e = .returned v ∧ OwnE tyE w' W.heap.size 37 v (hldL g u) ∧ Below W.heap.size W w') := fun W hW => HHe.out W u (bstep hB01 hW) hun
   have hF64 := HLe.out u
   have HUsu : Hid (∀ y ∈ hldL g u, usdB g y = true) := HUs.out u
   have HOC : Hid (ownC g u = (hldL g u).flatMap (celL g)) := rfl
   obtain ⟨⟨c0, c1, c2, c3⟩, cu⟩ := HK.out wr (Below.refl _ _)
   clear hcu hcp huu hB01 hun
   generalize ownC g u = OC at *
   generalize hldL g u = F at *
   unfold Im4 at HK
   go_wp2_with fail
   go_region_held3 (fun W : World => (W.cell? ⟨w.heap.size, 0, none⟩ = some (.slice g.ta g.ts.length g.tc) ∧ W.cell? ⟨w.heap.size, 1, none⟩ = some (.slice g.fa g.fs.length g.fc) ∧ W.cell? ⟨w.heap.size, 2, none⟩ = some (.slice g.ma g.ms.length g.mc) ∧ W.cell? ⟨w.heap.size, 3, none⟩ = some (.int .i64 g.en)) ∧ W.cell? ⟨ub, uoff + p, none⟩ = some (.int .i64 u))
    (first | (exact HK.out _ hBc) | (exact HK.out _ (bdrew _)))
    ((go_at_call 58; refine (HHq.out _ (bdrew _)).mono ?_; rintro e w2 ⟨hv, rfl, hv2, hb2⟩; obtain ⟨ha, hc2, hvv, _, hhc⟩ := hv2.shape; subst hvv; have hBc : Below wr.heap.size wr w2 := bstep (bdrew _) hb2))
   rename_i hheld
   clear hheld
   have HB2 : Hid (Below w1.heap.size w1 w2) := bstep HB.out hBc
   have HF2 : Hid (Es tyE w2 (.slice ha F.length hc2) F ∧ Apw w2 u5 (.slice ha F.length hc2)) := ⟨hv2.es, Apw.of HO.out hv2 (Nat.le_refl _)⟩
   have HO2 : Hid (OwnE tyE w2 w1.heap.size 37 u5 l) := HO.out.later hBc
   unfold maxLen at hhc
   clear hv2 hb2 hBc c0 c1 c2 c3 cu HK HHq
   go_wp2_with fail
   go_loopw [5, 9, 29] (fun lv _ z wx => ∃ (k : Nat) (l2 : List Ty), k ≤ F.length ∧ z = .int .i64 k ∧ Hid (OwnE tyE wx w1.heap.size 37 lv l2) ∧ Hid (Cut l2 ((up.reverse.take q).flatMap (ownC g) ++ (F.take k).flatMap (celL g))) ∧ l2.length ≤ q * 200000 + k * 2000 ∧ Hid (Below w1.heap.size w1 wx) ∧ Hid (Es tyE wx (.slice ha F.length hc2) F ∧ Apw wx lv (.slice ha F.length hc2))) (fun _ _ z _ => F.length - (intOf z).toNat)
   case atStart => exact ⟨0, l, Nat.zero_le _, rfl, HO2.out, by show Cut _ _; rw [List.take_zero, List.flatMap_nil, List.append_nil]; exact HCu.out, Nat.le_trans hll (Nat.le_add_right _ _), HB2.out, HF2.out⟩
   case round =>
    clear HO2
    obtain ⟨k, l2, hk, rfl, HO2, HCu2, hl2, HBx, HFx⟩ := hrel
    obtain ⟨oa, oc, hov, hoq, hoc⟩ := HO2.out.shape
    subst hov
    unfold maxLen at hoc
    by_cases hkl : k < F.length
    ·have hki : (k : Int) < (F.length : Int) := by omega
     have HT2 : Hid ((F.take (k + 1)).flatMap (celL g) = (F.take k).flatMap (celL g) ++ celL g F[k]) := fm_take hkl
     obtain ⟨lb, loff, lcap, hla, _, _, hlb, hc⟩ := HFx.out.1.parts (by intro e; rw [e] at hkl; simp at hkl)
     simp only [Value.slice.injEq] at hla
     obtain ⟨hla, -, hlc2⟩ := hla
     subst hla hlc2
     obtain ⟨k0, k1, k2, k3⟩ := (show El tyE wr lb (loff + k * 4) F[k] from hc k hkl).cells_Y
     have hus := HUsu.out _ (List.getElem_mem hkl)
     have hB0r : Below w0.heap.size w0 wr := bstep HB1.out HBx.out
     have HRq : Hid (∀ W, Below w0.heap.size w0 W → Calls Tryz.prog 41 #[.agg #[.slice g.ta g.ts.length g.tc, .slice g.fa g.fs.length g.fc, .slice g.ma g.ms.length g.mc, .int .i64 g.en], .agg #[.int .i64 F[k].1, .int .i64 F[k].2.1, .int .i64 F[k].2.2.1, .bool F[k].2.2.2]] W fun e w' => ∃ v, e = .returned v ∧ ∃ l, OwnE tyE w' W.heap.size 37 v l ∧ Cut l (celL g F[k]) ∧ l.length ≤ 2000 ∧ Below W.heap.size W w') := fun W hW => HCe.out W F[k] hW hus
     clear hc hus
     generalize F[k] = x at *
     obtain ⟨wA, hwA⟩ : ∃ W, W = wr.alloc (.cells #[.int .i64 x.1, .int .i64 x.2.1, .int .i64 x.2.2.1, .bool x.2.2.2] 37) := ⟨_, rfl⟩
     have HWA : Hid (wA = _) := hwA
     have hbA : Below wr.heap.size wr wA := by rw [hwA]; exact made_below _ _ _
     have hAA : At wA wr.heap.size #[.int .i64 x.1, .int .i64 x.2.1, .int .i64 x.2.2.1, .bool x.2.2.2] 37 := by rw [hwA]; exact At.made _ _ _
     have HBA : Hid (Below w1.heap.size w1 wA) := bstep HBx.out hbA
     have HFA : Hid (Es tyE wA (.slice (some ⟨lb, loff, none⟩) F.length hc2) F ∧ Apw wA (.slice oa l2.length oc) (.slice (some ⟨lb, loff, none⟩) F.length hc2)) := ⟨HFx.out.1.later hbA, HFx.out.2.later hbA⟩
     have HOA : Hid (OwnE tyE wA w1.heap.size 37 (.slice oa l2.length oc) l2) := HO2.out.later hbA
     have HBA0 : Hid (Below w0.heap.size w0 wA) := bstep hB0r hbA
     obtain ⟨c0, c1, c2, c3⟩ := HC.out wA HBA0.out
     have a0 := hAA.cell 0
     have a1 := hAA.cell 1
     have a2 := hAA.cell 2
     have a3 := hAA.cell 3
     simp at a0 a1 a2 a3
     clear hwA hbA hAA HO2 hB0r
     go_wp2_with (rw [← HWA.out])
     refine Calls.mono (HRq.out wA HBA0.out) ?_
     rintro e w3 ⟨yv, rfl, n, hy, hcm, hml, hb3⟩
     have HY : Hid (Es tyE w3 yv n) := hy.es
     have HCm : Hid (Cut n (celL g x)) := hcm
     have HO3 : Hid (OwnE tyE w3 w1.heap.size 37 (.slice oa l2.length oc) l2) := HOA.out.later hb3
     have HB3 : Hid (Below w1.heap.size w1 w3) := bstep HBA.out hb3
     have HF3 : Hid (Es tyE w3 (.slice (some ⟨lb, loff, none⟩) F.length hc2) F ∧ Apw w3 (.slice oa l2.length oc) (.slice (some ⟨lb, loff, none⟩) F.length hc2)) := ⟨HFA.out.1.later hb3, HFA.out.2.later hb3⟩
     clear hy hcm hb3 c0 c1 c2 c3 a0 a1 a2 a3 k0 k1 k2 k3 HOA HWA HRq
     go_wp2_with (at_builtin; go_must (refine wpList_append_ea tyE rfl (.tmp 33) (.tmp 36) 39 rfl w1.heap.size 37 _ 32 Tryz.underlying39 Tryz.info12Y rfl rfl rfl HO3.out HY.out (by unfold maxLen; omega) (by omega) HB3.out.size ?_; intro v5 w5 ho5 hg5 hp5; have hB5 := HB3.out.trans (grown_belowE HO3.out hg5 (Nat.le_refl _) HB3.out.size); have hF5 := Apw.grow HF3.out.2 HF3.out.1 hg5 hp5))
     go_roundw
     case rel => exact ⟨k + 1, l2 ++ n, by omega, by go_num, ho5, by show Cut _ _; rw [HT2.out, ← List.append_assoc]; exact HCu2.out.app HCm.out, by rw [List.length_append]; omega, hB5, hF5⟩
     case measure => simp [intOf]; omega
    ·have hki : ¬ (k : Int) < (F.length : Int) := by omega
     have HE2 : Hid (Cut l2 ((up.reverse.take (q + 1)).flatMap (ownC g))) := by
      have := HCu2.out
      rw [List.take_of_length_le (l := F) (by omega), ← HOC.out, ← HT.out] at this
      exact this
     go_wp2_with fail
     go_roundw
     case rel => exact ⟨q + 1, l2, by omega, by go_num, HO2.out, HE2.out, by omega, HBx.out⟩
     case measure => simp [intOf]; omega
  ·have hqi : ¬ (q : Int) < (up.length : Int) := by omega
   have HE : Hid (Cut l (objL g t)) := by have := HCu.out; rw [List.take_of_length_le (by simp; omega), ← HOb.out] at this; exact this
   go_wp2_with fail
   go_ret
   exact ⟨_, rfl, l, HO.out.mono (Nat.le_trans HB0.out.size HB1.out.size), HE.out, by omega, bstep HB0.out (bstep HB1.out HB.out)⟩
end Go.Proofs.YtkjailahaopehaaGreat

namespace Go.Proofs.YtkjailahaopehaaGreat
set_option linter.unusedVariables false
set_option linter.unusedSimpArgs false
open Go.RowKit
theorem sA {α : Type} (l : List α) (i : Nat) (a : α) : l.toArray.setIfInBounds i a = (l.set i a).toArray := List.setIfInBounds_toArray l i a
theorem s0 {α : Type} (x a : α) (l : List α) : (x :: l).set 0 a = a :: l := List.set_cons_zero
theorem sS {α : Type} (x a : α) (l : List α) (n : Nat) : (x :: l).set (n + 1) a = x :: l.set n a := List.set_cons_succ
/-- The same, and what it leaves written out. -/
theorem tY {P : Program} {md : Region.Mode} {ops : Array Oper} {Q : Exit → Act → World → Prop} {S : World → Prop} {fuel : Nat} {listed : Array Bool} {a a' : Act} {w : World} (i : Nat) (oi : Oper) (v : Value)
  (hS : S w) (h : wpAnyH P md ops Q S fuel (listed.setIfInBounds i true) a' w) (ha : a.put oi.dst v = a' := by (simp only [Act.put, sA, s0, sS]; first | done | exact rfl)) (hi : ops[i]? = some oi := by rfl) (hs : Region.noSelect ops = true := by kernel_rfl) (hf : Region.free md ops listed i = true := by kernel_rfl)
  (hr : (Region.ready md ops listed).contains i = true := by kernel_rfl) (hQ : ∀ c a w, Q (.panic c) (a.put oi.dst v) w → Q (.panic c) a w := by exact fun _ _ _ h => h)
  (hy : YieldsIf P ops S oi v a := by exact Or.inl ⟨by rfl, by intro w' hSw; (try dsimp only at hSw); go_simp⟩) : wpAnyH P md ops Q S (fuel + 1) listed a w := by subst ha; exact wpAnyH_take hi hs hf hr hQ hy hS h
theorem tN {P : Program} {md : Region.Mode} {ops : Array Oper} {Q : Exit → Act → World → Prop} {S : World → Prop} {fuel : Nat} {listed : Array Bool} {a a' : Act} {w : World} (i : Nat) (oi : Oper)
  (hS : S w) (h : wpAnyH P md ops Q S fuel (listed.setIfInBounds i true) a' w) (ha : a.put oi.dst undef = a' := by (simp only [Act.put, sA, s0, sS]; first | done | exact rfl)) (hi : ops[i]? = some oi := by rfl) (hs : Region.noSelect ops = true := by kernel_rfl) (hf : Region.free md ops listed i = true := by kernel_rfl)
  (hr : (Region.ready md ops listed).contains i = true := by kernel_rfl) (hQ : ∀ c a w, Q (.panic c) (a.put oi.dst undef) w → Q (.panic c) a w := by exact fun _ _ _ h => h)
  (hy : YieldsIf P ops S oi undef a := by exact Or.inr ⟨by rfl, rfl⟩) : wpAnyH P md ops Q S (fuel + 1) listed a w := by subst ha; exact wpAnyH_take hi hs hf hr hQ hy hS h
end Go.Proofs.YtkjailahaopehaaGreat
