/- Texts joined: RefTell12. -/
import Derived.Test.YtkjailahaopehaaGreatQ41
import Derived.Test.YtkjailahaopehaaGreatQ15
import Derived.Test.YtkjailahaopehaaGreatQ14
namespace Go.Proofs.YtkjailahaopehaaGreat
set_option linter.unusedVariables false
set_option linter.unusedSimpArgs false
open Go.RowKit
attribute [local go_sem ↓] Go.wp_at_zero Go.wp_at_succ
set_option maxHeartbeats 8000000 in
set_option maxRecDepth 20000 in
theorem refStatics_any {g : Img} (F : Fin_ g) {n : Nat} {w : World} (hg : Im w g) (hn : n ≤ g.fs.length) : AnsT 28 #[imA4 g, .int .i64 (n : Int)] w (statL g n) := by
 obtain ⟨w0, HW0, HB0, HG, HC, HI, c0, c1, c2, c3⟩ := img_head hg
 have hfl := hg.fs.len
 unfold maxLen at hfl
 have HFs : Hid (∀ W, Below w0.heap.size w0 W → Es fdE W (.slice g.fa g.fs.length g.fc) g.fs) := fun W hW => (HI.out W hW).fs
 have HC4 : Hid (∀ W, Below w0.heap.size w0 W → Im4 W w.heap.size g) := HC.out
 have HCe : Hid (∀ W (i : Nat) (h : i < g.fs.length), Below w0.heap.size w0 W → AnsT 22 #[imA4 g, .agg #[.int .i64 g.fs[i].t.1, .int .i64 g.fs[i].t.2.1, .int .i64 g.fs[i].t.2.2.1, .bool g.fs[i].t.2.2.2]] W (celL g g.fs[i].t)) := fun W i h hW => refCells_any F (HI.out W hW) (F.used _ (List.getElem_mem h))
 have HSl : Hid (∀ q, (statL g q).length ≤ 8 * 64) := stat_len F
 unfold imA4 at HCe ⊢
 unfold Im4 at HC4
 generalize g.fa = fa at *
 clear hg HC HI F HG
 go_enter Tryz.func28, Tryz.ntmps28
 go_wp2_with (rw [← HW0.out])
 go_loopw [5, 6] (fun lv z wr => ∃ i : Nat, i ≤ n ∧ z = .int .i64 i ∧ Hid (OwnE tyE wr w0.heap.size 37 lv (statL g i)) ∧ Hid (Below w0.heap.size w0 wr)) (fun _ z _ => n - (intOf z).toNat)
 case atStart => exact ⟨0, Nat.zero_le _, rfl, OwnE.nil _ _ _ _, Below.refl _ _⟩
 case round =>
  obtain ⟨i, hi, rfl, HO, HB⟩ := hrel
  obtain ⟨oa, oc, hov, _, hoc⟩ := HO.out.shape
  subst hov
  unfold maxLen at hoc
  by_cases hin : i < n
  ·have hini : (i : Int) < (n : Int) := by omega
   have hil : i < g.fs.length := by omega
   have hii : (i : Int) < (g.fs.length : Int) := by omega
   obtain ⟨tb, off, hla, _, hel⟩ := (HFs.out w0 (Below.refl _ _)).elAll (by intro e; rw [e] at hil; simp at hil)
   subst hla
   have HEl : Hid (∀ W, Below w0.heap.size w0 W → El fdE W tb (off + i * 7) g.fs[i]) := fun W hW => hel W hW i hil
   have HT : Hid (statL g (i + 1) = statL g i ++ (if g.fs[i].st = true then celL g g.fs[i].t else [])) := stat_take hil
   have HL1 : (statL g i).length ≤ 8 * 64 := HSl.out i
   have HL2 := HSl.out (i + 1)
   rw [HT.out, List.length_append] at HL2
   have HCr : Hid (∀ W, Below w0.heap.size w0 W → AnsT 22 #[.agg #[.slice g.ta g.ts.length g.tc, .slice (some ⟨tb, off, none⟩) g.fs.length g.fc, .slice g.ma g.ms.length g.mc, .int .i64 g.en], .agg #[.int .i64 g.fs[i].t.1, .int .i64 g.fs[i].t.2.1, .int .i64 g.fs[i].t.2.2.1, .bool g.fs[i].t.2.2.2]] W (celL g g.fs[i].t)) := fun W hW => HCe.out W i hil hW
   clear hel
   generalize g.fs[i] = x at *
   have HK : Hid (∀ W, Below w0.heap.size w0 W → (W.cell? ⟨w.heap.size, 0, none⟩ = some (.slice g.ta g.ts.length g.tc) ∧ W.cell? ⟨w.heap.size, 1, none⟩ = some (.slice (some ⟨tb, off, none⟩) g.fs.length g.fc) ∧ W.cell? ⟨w.heap.size, 2, none⟩ = some (.slice g.ma g.ms.length g.mc) ∧ W.cell? ⟨w.heap.size, 3, none⟩ = some (.int .i64 g.en)) ∧ W.cell? ⟨tb, off + i * 7, none⟩ = some (.string x.nm) ∧ W.cell? ⟨tb, off + i * 7 + 1, none⟩ = some (.int .i64 x.ow) ∧ W.cell? ⟨tb, off + i * 7 + 2, none⟩ = some (.int .i64 x.t.1) ∧ W.cell? ⟨tb, off + i * 7 + 3, none⟩ = some (.int .i64 x.t.2.1) ∧ W.cell? ⟨tb, off + i * 7 + 4, none⟩ = some (.int .i64 x.t.2.2.1) ∧ W.cell? ⟨tb, off + i * 7 + 5, none⟩ = some (.bool x.t.2.2.2) ∧ W.cell? ⟨tb, off + i * 7 + 6, none⟩ = some (.bool x.st)) := fun W hW => ⟨HC4.out W hW, (HEl.out W hW).cells_F⟩
   obtain ⟨⟨c0, c1, c2, c3⟩, k0, k1, k2, k3, k4, k5, k6⟩ := HK.out wr HB.out
   cases hst : x.st with
   | false =>
    have HT2 : Hid (statL g (i + 1) = statL g i) := by show _ = _; rw [HT.out, hst]; simp
    rw [hst] at k6
    clear HT HL2 hst
    generalize statL g i = P at *
    go_wp2_with fail
    go_roundw
    case rel => exact ⟨i + 1, by omega, by go_num, by rw [HT2.out]; exact HO.out, HB.out⟩
    case measure => simp [intOf]; omega
   | true =>
    have HT2 : Hid (statL g (i + 1) = statL g i ++ celL g x.t) := by show _ = _; rw [HT.out, hst, if_pos rfl]
    rw [hst, if_pos rfl] at HL2
    rw [hst] at k6 HK
    clear HT hst
    generalize statL g i = P at *
    generalize celL g x.t = C at *
    go_wp2_with fail
    go_region_held3 (fun W : World => (W.cell? ⟨w.heap.size, 0, none⟩ = some (.slice g.ta g.ts.length g.tc) ∧ W.cell? ⟨w.heap.size, 1, none⟩ = some (.slice (some ⟨tb, off, none⟩) g.fs.length g.fc) ∧ W.cell? ⟨w.heap.size, 2, none⟩ = some (.slice g.ma g.ms.length g.mc) ∧ W.cell? ⟨w.heap.size, 3, none⟩ = some (.int .i64 g.en)) ∧ W.cell? ⟨tb, off + i * 7, none⟩ = some (.string x.nm) ∧ W.cell? ⟨tb, off + i * 7 + 1, none⟩ = some (.int .i64 x.ow) ∧ W.cell? ⟨tb, off + i * 7 + 2, none⟩ = some (.int .i64 x.t.1) ∧ W.cell? ⟨tb, off + i * 7 + 3, none⟩ = some (.int .i64 x.t.2.1) ∧ W.cell? ⟨tb, off + i * 7 + 4, none⟩ = some (.int .i64 x.t.2.2.1) ∧ W.cell? ⟨tb, off + i * 7 + 5, none⟩ = some (.bool x.t.2.2.2) ∧ W.cell? ⟨tb, off + i * 7 + 6, none⟩ = some (.bool true))
     (first | (exact HK.out _ hBd) | (exact HK.out _ (bstep HB.out hBc)) | (exact HK.out _ (bstep HB.out (bdrew _))))
     (first | (go_at_call 22; refine (HCr.out _ (bstep HB.out (bdrew _))).mono ?_; rintro e w3 ⟨yv, rfl, hy, hb3⟩; have hBc : Below wr.heap.size wr w3 := bstep (bdrew _) hb3) | (refine step_append_es tyE rfl (.tmp 18) (.tmp 26) 39 rfl w0.heap.size 37 _ 32 Tryz.underlying39 Tryz.info12Y rfl (by simp [Act.eval, Act.put]) (by simp [Act.eval, Act.put]) (HO.out.later hBc) hy.es (by unfold maxLen; omega) (by omega) (bstep HB.out hBc).size ?_; intro v5 w5 ho5 hg5; have hBd : Below w0.heap.size w0 w5 := (bstep HB.out hBc).trans (grown_belowE (HO.out.later hBc) hg5 (Nat.le_refl _) (bstep HB.out hBc).size)))
    rename_i hheld
    clear hheld
    clear hy hb3 hBc c0 c1 c2 c3 k0 k1 k2 k3 k4 k5 k6 HK HCr
    go_wp2_with fail
    go_roundw
    case rel => exact ⟨i + 1, by omega, by go_num, by rw [HT2.out]; exact ho5, hBd⟩
    case measure => simp [intOf]; omega
  ·have hini : ¬ (i : Int) < (n : Int) := by omega
   have hie : i = n := by omega
   have HO9 : Hid (OwnE tyE wr w0.heap.size 37 (.slice oa (statL g i).length oc) (statL g n)) := by have := HO.out; rw [hie] at this ⊢; exact this
   generalize (statL g i).length = m at *
   clear hie HO
   go_wp2_with fail
   go_ret
   exact ⟨_, rfl, HO9.out.mono HB0.out.size, bstep HB0.out HB.out⟩

set_option maxHeartbeats 16000000 in
set_option maxRecDepth 20000 in
theorem refObject_any {g : Img} (F : Fin_ g) {t : Int} {w : World} (hg : Im w g) : AnsT 27 #[imA4 g, .int .i64 t] w (objL g t) := by
 obtain ⟨w0, HW0, HB0, HG, HC, HI, c0, c1, c2, c3⟩ := img_head hg
 have hfl := hg.fs.len
 unfold maxLen at hfl
 have hln := im_len F.wu.im
 have HFs : Hid (∀ W, Below w0.heap.size w0 W → Es fdE W (.slice g.fa g.fs.length g.fc) g.fs) := fun W hW => (HI.out W hW).fs
 have HC4 : Hid (∀ W, Below w0.heap.size w0 W → Im4 W w.heap.size g) := HC.out
 have HUp : Hid (Calls Tryz.prog 30 #[imA4 g, .int .i64 t] w0 fun e w' => ∃ v, e = .returned v ∧ OwnI w' w0.heap.size v (upL g t) ∧ Below w0.heap.size w0 w') := refUp_any (HI.out w0 (Below.refl _ _)) F.wu.im
 have HUN : Hid (Nd g.ts.length 0 (upL g t)) := upL_nd g t
 have HCe : Hid (∀ W (i : Nat) (h : i < g.fs.length), Below w0.heap.size w0 W → AnsT 22 #[imA4 g, .agg #[.int .i64 g.fs[i].t.1, .int .i64 g.fs[i].t.2.1, .int .i64 g.fs[i].t.2.2.1, .bool g.fs[i].t.2.2.2]] W (celL g g.fs[i].t)) := fun W i h hW => refCells_any F (HI.out W hW) (F.used _ (List.getElem_mem h))
 have HOl : Hid (∀ u i, (ownP g u i).length ≤ 512) := fun u i => ownP_len F u i
 obtain ⟨up, hup⟩ : ∃ X, X = upL g t := ⟨_, rfl⟩
 have HOb : Hid (objL g t = up.reverse.flatMap (ownC g)) := by show _ = _; rw [hup]; rfl
 rw [← hup] at HUp HUN
 unfold imA4 at HCe HUp ⊢
 unfold Im4 at HC4
 generalize g.fa = fa at *
 clear hg HC HI F HG hup
 go_enter Tryz.func27, Tryz.ntmps27
 go_wp2_with (rw [← HW0.out])
 refine Calls.mono HUp.out ?_
 rintro e w1 ⟨uv, rfl, hu, hb1⟩
 have HU : Hid (OwnI w1 w0.heap.size uv up) := hu
 have HB1 : Hid (Below w0.heap.size w0 w1) := hb1
 obtain ⟨ua, uc, huv, _, huc⟩ := (show Is w1 uv up from hu.is).shape
 subst huv
 have hupl := HUN.out.len
 unfold maxLen at huc
 clear hu hb1 c0 c1 c2 c3 HUp
 have hw1 : IntKind.i64.wrap ((up.length : Int) - 1) = (up.length : Int) - 1 := by simp [IntKind.wrap, IntKind.bits, IntKind.signed]; omega
 go_wp2_with fail
 go_loopw [5, 7, 8] (fun lv z _ wr => ∃ (p : Nat) (zi : Int) (l : List Ty), p ≤ up.length ∧ z = .int .i64 zi ∧ zi = (p : Int) - 1 ∧ Hid (l = (up.reverse.take (up.length - p)).flatMap (ownC g)) ∧ Hid (OwnE tyE wr w1.heap.size 37 lv l) ∧ l.length ≤ (up.length - p) * 600 ∧ Hid (Below w1.heap.size w1 wr)) (fun _ z _ _ => (intOf z + 1).toNat)
 case atStart => exact ⟨up.length, (up.length : Int) - 1, [], Nat.le_refl _, by first | rfl | (rw [hw1]) | go_num, rfl, (show [] = _ by simp), OwnE.nil _ _ _ _, by simp, Below.refl _ _⟩
 case round =>
  obtain ⟨p, zi, l, hp, rfl, hzi, HL, HO, hll, HB⟩ := hrel
  obtain ⟨oa, oc, hov, _, hoc⟩ := HO.out.shape
  subst hov
  unfold maxLen at hoc
  cases p with
  | zero =>
   have hz : zi = -1 := by omega
   subst hz
   have HE : Hid (l = objL g t) := by show _ = _; rw [HL.out, HOb.out, List.take_of_length_le (by simp)]
   clear HL hzi hw1
   go_wp2_with fail
   go_ret
   exact ⟨_, rfl, by rw [← HE.out]; exact HO.out.mono (Nat.le_trans HB0.out.size HB1.out.size), bstep HB0.out (bstep HB1.out HB.out)⟩
  | succ m =>
   have hz : zi = (m : Int) := by omega
   subst hz
   have hm0 : (0 : Int) ≤ (m : Int) := by omega
   have hml : m < up.length := by omega
   have hmi : (m : Int) < (up.length : Int) := by omega
   obtain ⟨ub, uoff, hua, hub, _, _, _, hcu⟩ := (show Is wr (.slice ua up.length uc) up from Sl.later HU.out.is HB.out).at hml
   subst hua
   have hcm := hcu m hml
   obtain ⟨u, huu⟩ : ∃ u, u = up[m] := ⟨_, rfl⟩
   rw [← huu] at hcm
   have HT : Hid ((up.reverse.take (up.length - m)).flatMap (ownC g) = l ++ ownC g u) := by
    show _ = _
    rw [show up.length - m = (up.length - (m + 1)) + 1 by omega, fm_take (by simp; omega), HL.out, huu]
    congr 2
    rw [List.getElem_reverse]
    congr 1
    omega
   have HCu : Hid (∀ W, Below w1.heap.size w1 W → W.cell? ⟨ub, uoff + m, none⟩ = some (.int .i64 u)) := fun W hW => by
    have h := (show Is W (.slice (some ⟨ub, uoff, none⟩) up.length uc) up from Sl.later HU.out.is hW).at hml
    obtain ⟨b2, o2, h2, _, _, _, _, h3⟩ := h
    simp only [Option.some.injEq, Addr.mk.injEq] at h2
    obtain ⟨rfl, rfl, _⟩ := h2
    rw [huu]; exact h3 m hml
   have hms : IntKind.i64.wrap ((m : Int) - 1) = (m : Int) - 1 := by simp [IntKind.wrap, IntKind.bits, IntKind.signed]; omega
   have HBo : Hid (Below w1.heap.size w1 wr) := HB.out
   have HOo : Hid (OwnE tyE wr w1.heap.size 37 (.slice oa l.length oc) l) := HO.out
   have hl1 : l.length ≤ (up.length - (m + 1)) * 600 := hll
   have hl2 : l.length ≤ 20000 := by omega
   clear HL hzi hcm hcu huu HO HB hll hw1
   go_wp2_with fail
   go_loopw [5, 8] (fun lv z wx => ∃ k : Nat, k ≤ g.fs.length ∧ z = .int .i64 k ∧ Hid (OwnE tyE wx w1.heap.size 37 lv (l ++ ownP g u k)) ∧ Hid (Below w1.heap.size w1 wx)) (fun _ z _ => g.fs.length - (intOf z).toNat)
   case atStart => exact ⟨0, Nat.zero_le _, rfl, by show OwnE _ _ _ _ _ _; rw [show ownP g u 0 = [] by simp [ownP], List.append_nil]; exact HOo.out, HBo.out⟩
   case round =>
    clear HOo HBo
    obtain ⟨k, hk, rfl, HO, HB⟩ := hrel
    obtain ⟨oa2, oc2, hov2, _, hoc2⟩ := HO.out.shape
    subst hov2
    unfold maxLen at hoc2
    have HB01 : Hid (Below w0.heap.size w0 wr) := bstep HB1.out HB.out
    by_cases hkl : k < g.fs.length
    ·have hki : (k : Int) < (g.fs.length : Int) := by omega
     obtain ⟨tb, off, hla, _, hel⟩ := (HFs.out w0 (Below.refl _ _)).elAll (by intro e; rw [e] at hkl; simp at hkl)
     subst hla
     have HEl : Hid (∀ W, Below w0.heap.size w0 W → El fdE W tb (off + k * 7) g.fs[k]) := fun W hW => hel W hW k hkl
     have HTk : Hid (ownP g u (k + 1) = ownP g u k ++ (if ownF u g.fs[k] = true then celL g g.fs[k].t else [])) := ownP_take hkl
     have HL1 : (ownP g u k).length ≤ 512 := HOl.out u k
     have HL2 := HOl.out u (k + 1)
     rw [HTk.out, List.length_append] at HL2
     have HCr : Hid (∀ W, Below w0.heap.size w0 W → AnsT 22 #[.agg #[.slice g.ta g.ts.length g.tc, .slice (some ⟨tb, off, none⟩) g.fs.length g.fc, .slice g.ma g.ms.length g.mc, .int .i64 g.en], .agg #[.int .i64 g.fs[k].t.1, .int .i64 g.fs[k].t.2.1, .int .i64 g.fs[k].t.2.2.1, .bool g.fs[k].t.2.2.2]] W (celL g g.fs[k].t)) := fun W hW => HCe.out W k hkl hW
     clear hel
     generalize g.fs[k] = x at *
     have HK : Hid (∀ W, Below w1.heap.size w1 W → (W.cell? ⟨w.heap.size, 0, none⟩ = some (.slice g.ta g.ts.length g.tc) ∧ W.cell? ⟨w.heap.size, 1, none⟩ = some (.slice (some ⟨tb, off, none⟩) g.fs.length g.fc) ∧ W.cell? ⟨w.heap.size, 2, none⟩ = some (.slice g.ma g.ms.length g.mc) ∧ W.cell? ⟨w.heap.size, 3, none⟩ = some (.int .i64 g.en)) ∧ W.cell? ⟨ub, uoff + m, none⟩ = some (.int .i64 u) ∧ W.cell? ⟨tb, off + k * 7, none⟩ = some (.string x.nm) ∧ W.cell? ⟨tb, off + k * 7 + 1, none⟩ = some (.int .i64 x.ow) ∧ W.cell? ⟨tb, off + k * 7 + 2, none⟩ = some (.int .i64 x.t.1) ∧ W.cell? ⟨tb, off + k * 7 + 3, none⟩ = some (.int .i64 x.t.2.1) ∧ W.cell? ⟨tb, off + k * 7 + 4, none⟩ = some (.int .i64 x.t.2.2.1) ∧ W.cell? ⟨tb, off + k * 7 + 5, none⟩ = some (.bool x.t.2.2.2) ∧ W.cell? ⟨tb, off + k * 7 + 6, none⟩ = some (.bool x.st)) := fun W hW => ⟨HC4.out W (bstep HB1.out hW), HCu.out W hW, (HEl.out W (bstep HB1.out hW)).cells_F⟩
     obtain ⟨⟨c0, c1, c2, c3⟩, d1, k0, k1, k2, k3, k4, k5, k6⟩ := HK.out wr HB.out
     have HF1 : Hid ((x.ow == u) = false → ownF u x = false) := ownF_false1
     have HF2 : Hid (x.st = true → ownF u x = false) := ownF_false2
     have HF3 : Hid ((x.ow == u) = true → x.st = false → ownF u x = true) := ownF_true
     cases hob : (x.ow == u) with
     | false =>
      have HT2 : Hid (ownP g u (k + 1) = ownP g u k) := by show _ = _; rw [HTk.out, HF1.out hob]; simp
      clear HTk HL2 HF1 HF2 HF3
      generalize ownP g u k = P at *
      obtain ⟨Q, hQ⟩ : ∃ Q, Q = l ++ P := ⟨_, rfl⟩
      have HQ : Hid (Q = l ++ P) := hQ
      rw [← hQ] at HO ⊢
      clear hQ
      go_wp2_with fail
      go_quiet (fail)
      go_wp2_with fail
      go_roundw
      case rel => exact ⟨k + 1, by omega, by go_num, by rw [HT2.out, ← HQ.out]; exact HO.out.later (Below.drewN (Below.refl _ _) _), Below.drewN HB.out _⟩
      case measure => simp [intOf]; omega
     | true =>
      cases hst : x.st with
      | true =>
       have HT2 : Hid (ownP g u (k + 1) = ownP g u k) := by show _ = _; rw [HTk.out, HF2.out hst]; simp
       rw [hst] at k6
       clear HTk HL2 HF1 HF2 HF3 hst
       generalize ownP g u k = P at *
       obtain ⟨Q, hQ⟩ : ∃ Q, Q = l ++ P := ⟨_, rfl⟩
       have HQ : Hid (Q = l ++ P) := hQ
       rw [← hQ] at HO ⊢
       clear hQ
       go_wp2_with fail
       go_quiet (fail)
       go_wp2_with fail
       go_roundw
       case rel => exact ⟨k + 1, by omega, by go_num, by rw [HT2.out, ← HQ.out]; exact HO.out.later (Below.drewN (Below.refl _ _) _), Below.drewN HB.out _⟩
       case measure => simp [intOf]; omega
      | false =>
       have hown : ownF u x = true := HF3.out hob hst
       have HT2 : Hid (ownP g u (k + 1) = ownP g u k ++ celL g x.t) := by show _ = _; rw [HTk.out, hown, if_pos rfl]
       rw [hown, if_pos rfl] at HL2
       rw [hst] at k6 HK
       clear HTk HF1 HF2 HF3 hst hown
       generalize ownP g u k = P at *
       generalize celL g x.t = C at *
       obtain ⟨Q, hQ⟩ : ∃ Q, Q = l ++ P := ⟨_, rfl⟩
       have HQ : Hid (Q = l ++ P) := hQ
       have hQl : Q.length ≤ 20000 + P.length := by rw [hQ, List.length_append]; omega
       rw [← hQ] at HO ⊢
       clear hQ
       go_wp2_with fail
       go_quiet (fail)
       have HB4 : Hid (Below w1.heap.size w1 (wr.drewN nq)) := Below.drewN HB.out nq
       have HO4 : Hid (OwnE tyE (wr.drewN nq) w1.heap.size 37 (.slice oa2 Q.length oc2) Q) := HO.out.later (Below.drewN (Below.refl _ _) _)
       clear c0 c1 c2 c3 d1 k0 k1 k2 k3 k4 k5 k6
       revert HB4 HO4
       generalize wr.drewN nq = w4
       intro HB4 HO4
       obtain ⟨⟨c0, c1, c2, c3⟩, d1, k0, k1, k2, k3, k4, k5, k6⟩ := HK.out w4 HB4.out
       go_wp2_with fail
       go_region_held3 (fun W : World => (W.cell? ⟨w.heap.size, 0, none⟩ = some (.slice g.ta g.ts.length g.tc) ∧ W.cell? ⟨w.heap.size, 1, none⟩ = some (.slice (some ⟨tb, off, none⟩) g.fs.length g.fc) ∧ W.cell? ⟨w.heap.size, 2, none⟩ = some (.slice g.ma g.ms.length g.mc) ∧ W.cell? ⟨w.heap.size, 3, none⟩ = some (.int .i64 g.en)) ∧ W.cell? ⟨ub, uoff + m, none⟩ = some (.int .i64 u) ∧ W.cell? ⟨tb, off + k * 7, none⟩ = some (.string x.nm) ∧ W.cell? ⟨tb, off + k * 7 + 1, none⟩ = some (.int .i64 x.ow) ∧ W.cell? ⟨tb, off + k * 7 + 2, none⟩ = some (.int .i64 x.t.1) ∧ W.cell? ⟨tb, off + k * 7 + 3, none⟩ = some (.int .i64 x.t.2.1) ∧ W.cell? ⟨tb, off + k * 7 + 4, none⟩ = some (.int .i64 x.t.2.2.1) ∧ W.cell? ⟨tb, off + k * 7 + 5, none⟩ = some (.bool x.t.2.2.2) ∧ W.cell? ⟨tb, off + k * 7 + 6, none⟩ = some (.bool false))
        (first | (exact HK.out _ hBd) | (exact HK.out _ (bstep HB4.out hBc)) | (exact HK.out _ (bstep HB4.out (bdrew _))))
        (first | (go_at_call 22; refine (HCr.out _ (bstep HB1.out (bstep HB4.out (bdrew _)))).mono ?_; rintro e w3 ⟨yv, rfl, hy, hb3⟩; have hBc : Below w4.heap.size w4 w3 := bstep (bdrew _) hb3) | (refine step_append_es tyE rfl (.tmp 46) (.tmp 54) 39 rfl w1.heap.size 37 _ 32 Tryz.underlying39 Tryz.info12Y rfl (by simp [Act.eval, Act.put]) (by simp [Act.eval, Act.put]) (HO4.out.later hBc) hy.es (by unfold maxLen; omega) (by omega) (bstep HB4.out hBc).size ?_; intro v5 w5 ho5 hg5; have hBd : Below w1.heap.size w1 w5 := (bstep HB4.out hBc).trans (grown_belowE (HO4.out.later hBc) hg5 (Nat.le_refl _) (bstep HB4.out hBc).size)))
       rename_i hheld
       clear hheld
       clear hy hb3 hBc c0 c1 c2 c3 d1 k0 k1 k2 k3 k4 k5 k6 HK HCr
       go_wp2_with fail
       go_roundw
       case rel => exact ⟨k + 1, by omega, by go_num, by rw [HT2.out, ← List.append_assoc, ← HQ.out]; exact ho5, hBd⟩
       case measure => simp [intOf]; omega
    ·have hki : ¬ (k : Int) < (g.fs.length : Int) := by omega
     have hPe : ownP g u k = ownC g u := ownP_all (by omega)
     rw [hPe] at HO ⊢
     have HL1 : (ownC g u).length ≤ 512 := by rw [← hPe]; exact HOl.out u k
     clear hPe
     obtain ⟨Q, hQ⟩ : ∃ Q, Q = l ++ ownC g u := ⟨_, rfl⟩
     have HQ : Hid ((up.reverse.take (up.length - m)).flatMap (ownC g) = Q) := by show _ = _; rw [HT.out, hQ]
     have hQl : Q.length ≤ (up.length - m) * 600 := by rw [hQ, List.length_append]; omega
     rw [← hQ] at HO ⊢
     clear hQ
     obtain ⟨c0, c1, c2, c3⟩ := HC4.out wr HB01.out
     go_wp2_with fail
     go_roundw
     case rel => exact ⟨m, (m : Int) - 1, Q, by omega, by first | rfl | (rw [hms]) | go_num, rfl, HQ.out.symm, HO.out, hQl, HB.out⟩
     case measure => simp [intOf] <;> omega
end Go.Proofs.YtkjailahaopehaaGreat
