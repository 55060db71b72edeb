
/- Places. -/
import Derived.Test.YtpgkjfjooogfmaaDoorIns7
import Derived.Test.YtpgkjfjooogfmaaDoorRaw7
import Derived.Test.YtpgkjfjooogfmaaDoorInts7
import Derived.Deep.RegionHeld3
import Derived.Deep.DrawnRows
namespace Go.Proofs.YtpgkjfjooogfmaaDoor
set_option linter.unusedVariables false
set_option linter.unusedSimpArgs false
open Go.RowKit
attribute [local go_sem ↓] Go.wp_at_zero Go.wp_at_succ

theorem plcs_take_succ (l : List Ins) (q : Nat) (h : q < l.length) : plcs (l.take (q + 1)) = plcs (l.take q) ++ [((szL (l.take q) + 1 + opw l[q] : Nat) : Int)] := by
  rw [List.take_succ_eq_append_getElem h, plcs_snoc]

theorem plE_bad {l : List Ins} (h : l.length ≤ 160) (q : Nat) (hq : q < l.length) (hr : rawB l[q] = false) : plE l = 17 := by
  unfold plE
  rw [if_neg (by omega), if_neg]
  intro e
  have := List.all_eq_true.1 e _ (List.getElem_mem hq)
  rw [hr] at this
  cases this

/-- Behind one draw. -/
theorem drew_later {w W : World} (h : Below w.drew.heap.size w.drew W) : Below w.heap.size w W := (Below.drewN (Below.refl w.heap.size w) 1).trans h
theorem drew_box {w W : World} (h : Below w.drew.heap.size w.drew W) (o : Obj) : Below w.heap.size w (W.alloc o) := (drew_later h).alloc (drew_later h).size o

/-- What Places leaves. -/
structure PlR (w w' : World) (l : List Ins) (e : Ending) : Prop where
  yes : plE l = 0 → ∃ pv, e = .returned (.tuple #[pv, .int .i64 0]) ∧ OwnI w' w.heap.size pv (plcs l)
  no : plE l ≠ 0 → e = .returned (.tuple #[.slice none 0 0, .int .i64 (plE l)])
  below : Below w.heap.size w w'

theorem places_long {v : Value} {l : List Ins} {w : World} (hX : Xs w v l) (hl : 160 < l.length) :
    Calls Tryd.prog 8 #[v] w fun e w' => PlR w w' l e := by
  have HE : Hid (plE l = 4) := by show _ = _; unfold plE; rw [if_pos hl]
  obtain ⟨a, c, rfl, h1, h2⟩ := hX.shape
  unfold maxLen at h2
  go_enter Tryd.func8, Tryd.ntmps8
  go_wp2
  go_ret2
  exact ⟨fun h => absurd h (by rw [HE.out]; decide), fun _ => by rw [HE.out]; rfl, Below.refl _ _⟩

set_option maxHeartbeats 1000000 in
theorem places_none (a : Option Addr) (cap : Nat) (w : World) :
    Calls Tryd.prog 8 #[.slice a 0 cap] w fun e w' => PlR w w' [] e := by
  obtain ⟨C, hmk, ho⟩ := run_make_ints w 0 (by omega)
  have HO : Hid (OwnI (w.alloc (.cells C 3)) w.heap.size (.slice (some ⟨w.heap.size, 0, none⟩) 1 1) [0]) := ho
  simp at hmk
  clear ho
  go_enter Tryd.func8, Tryd.ntmps8
  go_wp2
  refine wp_loop_rounds 1 ?_; rw [rounds_succ]
  go_wp2
  go_ret2
  exact ⟨fun _ => ⟨_, rfl, by rw [plcs_nil]; exact HO.out⟩, fun h => absurd rfl h, (Below.refl _ _).alloc (Nat.le_refl _) _⟩

set_option maxHeartbeats 4000000 in
set_option maxRecDepth 100000 in
theorem places_some {b off cap : Nat} {l : List Ins} {w : World} (hb : b < w.heap.size) (hc : ∀ i (hi : i < l.length), Six w b (off + i * 6) l[i]) (hW : Wd w) (h1 : l.length ≤ cap) (h2 : cap ≤ maxLen) (hl : l.length ≤ 160) :
    Calls Tryd.prog 8 #[.slice (some ⟨b, off, none⟩) l.length cap] w fun e w' => PlR w w' l e := by
  unfold maxLen at h2
  obtain ⟨C, hmk, ho⟩ := run_make_ints w l.length (by omega)
  have HC : Hid (∀ i (hi : i < l.length), Six w b (off + i * 6) l[i]) := hc
  have HW : Hid (Wd w) := hW
  have hs0 := hW.1
  have HO0 : Hid (OwnI (w.alloc (.cells C 3)) w.heap.size (.slice (some ⟨w.heap.size, 0, none⟩) 1 (l.length + 1)) [0]) := ho
  clear hc hW ho
  go_enter Tryd.func8, Tryd.ntmps8
  go_wp2
  go_loopw [4, 5, 16] (fun u _ z wr => ∃ q : Nat, q ≤ l.length ∧ z = .int .i64 (q : Int) ∧ OwnI wr w.heap.size u (plcs (l.take q)) ∧ Below w.heap.size w wr ∧ (l.take q).all rawB = true) (fun _ _ z _ => l.length - (intOf z).toNat)
  case atStart => exact ⟨0, Nat.zero_le _, rfl, by rw [List.take_zero, plcs_nil]; exact HO0.out, (Below.refl _ _).alloc (Nat.le_refl _) _, by simp⟩
  case round =>
    obtain ⟨q, hq, rfl, ho, hB, hall⟩ := hrel
    have HA : Hid ((l.take q).all rawB = true) := hall
    have HB : Hid (Below w.heap.size w wr) := hB
    have HOW : Hid (OwnI wr w.heap.size u4 (plcs (l.take q))) := ho
    have hsw := hB.size
    clear hall HO0
    by_cases hql : q < l.length
    · obtain ⟨c0, c1, c2, c3, c4, c5⟩ := (HC.out q hql).below hB hb
      obtain ⟨pg, pc, rfl, hp1, hp2, hp3, hp4, hpc⟩ := ho.parts (by intro e; have := plcs_length (l.take q); rw [e] at this; simp at this)
      have hpl : (plcs (l.take q)).length = q + 1 := by rw [plcs_length]; simp; omega
      have hpq := hpc q (by omega)
      rw [plcs_get] at hpq
      rw [List.take_take, Nat.min_self] at hpq
      have HS : Hid (plcs (l.take (q + 1)) = plcs (l.take q) ++ [((szL (l.take q) + 1 + opw l[q] : Nat) : Int)]) := plcs_take_succ l q hql
      have HT : Hid (l.take (q + 1) = l.take q ++ [l[q]]) := by show _ = _; rw [List.take_succ_eq_append_getElem hql]
      have HBad : Hid (rawB l[q] = false → plE l = 17) := plE_bad hl q hql
      have hsz := szL_take_le l q
      have HWr : Hid (Wd wr) := HW.out.later hB
      have how : opw l[q] = widN (opK l[q].1) := rfl
      rw [how] at HS
      clear how hpc
      generalize l[q] = x at *
      obtain ⟨op, n, k, i, d, r⟩ := x
      simp only at c0 c1 c2 c3 c4 c5 HS
      generalize szL (l.take q) = pl at *
      generalize plcs (l.take q) = L at *
      unfold maxLen at hp2
      rw [hpl] at hp1 ⊢
      have hwl := widN_le (opK op)
      have hkl := opK_le op
      have hbx : Below wr.heap.size wr (wr.alloc (.cells #[.int .i64 op, .int .i64 n, .int .i64 k, .int .i64 i, .int .i64 d, .bool r] 45)) := (Below.refl _ _).alloc (Nat.le_refl _) _
      have hX := At.made wr #[.int .i64 op, .int .i64 n, .int .i64 k, .int .i64 i, .int .i64 d, .bool r] 45
      go_wp2_with fail
      refine (isRaw_any op n k i d r _).mono ?_
      rintro e w1 ⟨rfl, hb1⟩
      have hX1 := hX.later hb1
      have hB1 : Below wr.heap.size wr w1 := below_box hb1
      have hszb := hB1.size
      have hlt1 : wr.heap.size < w1.heap.size := hX1.lt
      clear hb1 hbx hX
      cases hr : rawB (op, n, k, i, d, r) with
      | false =>
        have HE : Hid (plE l = 17) := HBad.out hr
        go_wp2_with fail
        go_ret2
        exact ⟨fun h => absurd h (by rw [HE.out]; decide), fun _ => by rw [HE.out]; rfl, HB.out.trans (hB1.mono hsw)⟩
      | true =>
        have HR : Hid (rawB (op, n, k, i, d, r) = true) := hr
        have HX1 : Hid (At w1 wr.heap.size #[.int .i64 op, .int .i64 n, .int .i64 k, .int .i64 i, .int .i64 d, .bool r] 45) := hX1
        have HB1 : Hid (Below wr.heap.size wr w1) := hB1
        have HPQ : Hid (w1.cell? ⟨pg, q, none⟩ = some (.int .i64 (pl : Int))) := by show _ = _; rw [← hpq]; exact hB1.cell (p := ⟨pg, q, none⟩) hp4
        have HLT : Hid (wr.heap.size < w1.heap.size) := hlt1
        have HOP : Hid (∀ W, Calls Tryd.prog 17 #[.agg #[.int .i64 op, .int .i64 n, .int .i64 k, .int .i64 i, .int .i64 d, .bool r]] W fun e w' => e = .returned (.int .i64 (opK op : Int)) ∧ Below W.heap.size W w') := fun W => operandOf_any op n k i d r W
        have HW1 : Hid (Wd w1) := HWr.out.later hB1
        clear hr hX1 hB1 hpq hB ho c0 c1 c2 c3 c4 c5 hlt1
        generalize hkk : opK op = p at *
        clear hkk
        generalize hwk : widN p = wd at *
        have HKS : Hid (∀ W, Below w1.heap.size w1 W → W.cell? ⟨pg, q, none⟩ = some (.int .i64 (pl : Int)) ∧ W.cell? ⟨wr.heap.size, 0, none⟩ = some (.int .i64 op) ∧ W.cell? ⟨wr.heap.size, 1, none⟩ = some (.int .i64 n) ∧ W.cell? ⟨wr.heap.size, 2, none⟩ = some (.int .i64 k) ∧ W.cell? ⟨wr.heap.size, 3, none⟩ = some (.int .i64 i) ∧ W.cell? ⟨wr.heap.size, 4, none⟩ = some (.int .i64 d) ∧ W.cell? ⟨wr.heap.size, 5, none⟩ = some (.bool r) ∧ W.cell? ⟨0, p, none⟩ = some (.int .i64 (wd : Int))) := by
          intro W hW
          have hx := (HX1.out.later hW).cell
          have hw := (HW1.out.later hW).2 p hkl
          rw [hwk] at hw
          exact ⟨by rw [← HPQ.out]; exact hW.cell (p := ⟨pg, q, none⟩) (by show pg < _; omega), hx 0, hx 1, hx 2, hx 3, hx 4, hx 5, hw⟩
        have HKA : Hid (∀ W W', Below w1.heap.size w1 W → W.grownBy W' (some pg) → (∀ j, j < q + 1 → W'.cell? ⟨pg, j, none⟩ = W.cell? ⟨pg, j, none⟩) → W'.cell? ⟨pg, q, none⟩ = some (.int .i64 (pl : Int)) ∧ W'.cell? ⟨wr.heap.size, 0, none⟩ = some (.int .i64 op) ∧ W'.cell? ⟨wr.heap.size, 1, none⟩ = some (.int .i64 n) ∧ W'.cell? ⟨wr.heap.size, 2, none⟩ = some (.int .i64 k) ∧ W'.cell? ⟨wr.heap.size, 3, none⟩ = some (.int .i64 i) ∧ W'.cell? ⟨wr.heap.size, 4, none⟩ = some (.int .i64 d) ∧ W'.cell? ⟨wr.heap.size, 5, none⟩ = some (.bool r) ∧ W'.cell? ⟨0, p, none⟩ = some (.int .i64 (wd : Int))) := by
          intro W W' hW hg hk
          obtain ⟨e0, e1, e2, e3, e4, e5, e6, e7⟩ := HKS.out W hW
          have hsW := hW.size
          have hl' := HLT.out
          have hx : ∀ o, W'.cell? ⟨wr.heap.size, o, none⟩ = W.cell? ⟨wr.heap.size, o, none⟩ := fun o => World.cell?_of_block (hg.block _ (by show wr.heap.size < _; omega) (by intro e; simp at e; omega))
          have h0 : W'.cell? ⟨0, p, none⟩ = W.cell? ⟨0, p, none⟩ := World.cell?_of_block (hg.block _ (by show 0 < _; omega) (by intro e; simp at e; omega))
          exact ⟨by rw [hk q (by omega)]; exact e0, by rw [hx]; exact e1, by rw [hx]; exact e2, by rw [hx]; exact e3, by rw [hx]; exact e4, by rw [hx]; exact e5, by rw [hx]; exact e6, by rw [h0]; exact e7⟩
        have HOW2 : Hid (∀ W, Below w1.heap.size w1 W → OwnI W w.heap.size (.slice (some ⟨pg, 0, none⟩) (q + 1) pc) L) := by
          intro W hW
          have := HOW.out.later (HB1.out.trans (hW.mono HB1.out.size))
          rw [hpl] at this
          exact this
        have HSW : Hid (∀ W, Below w1.heap.size w1 W → w.heap.size ≤ W.heap.size) := fun W hW => by have := hW.size; omega
        have HB5 : Hid (∀ W W', Below w1.heap.size w1 W → W.grownBy W' (some pg) → Below w.heap.size wr W') := fun W W' hW hg => by
          have h1 := (HB1.out.mono hsw).trans (hW.mono (Nat.le_trans hsw HB1.out.size))
          exact h1.trans ⟨hg.os, hg.tape, hg.output, hg.size, fun k hk => hg.block k (by have := hW.size; omega) (by intro e; simp at e; omega)⟩
        have hi0 : (0 : Int) ≤ (q : Int) := by omega
        have hi1 : (q : Int) < (q : Int) + 1 := by omega
        have hi2 : (0 : Int) ≤ (p : Int) := by omega
        have hi3 : (p : Int) < 9 := by omega
        have hw1 : IntKind.i64.wrap ((pl : Int) + 1) = (pl : Int) + 1 := by simp [IntKind.wrap, IntKind.signed, IntKind.bits]; omega
        have hw2 : IntKind.i64.wrap ((pl : Int) + 1 + (wd : Int)) = (pl : Int) + 1 + (wd : Int) := by simp [IntKind.wrap, IntKind.signed, IntKind.bits]; omega
        clear hp3 hp4 hwl hkl hwk
        go_wp2_with fail
        go_region_held3 (fun w' => w'.cell? ⟨pg, q, none⟩ = some (.int .i64 (pl : Int)) ∧ w'.cell? ⟨wr.heap.size, 0, none⟩ = some (.int .i64 op) ∧ w'.cell? ⟨wr.heap.size, 1, none⟩ = some (.int .i64 n) ∧ w'.cell? ⟨wr.heap.size, 2, none⟩ = some (.int .i64 k) ∧ w'.cell? ⟨wr.heap.size, 3, none⟩ = some (.int .i64 i) ∧ w'.cell? ⟨wr.heap.size, 4, none⟩ = some (.int .i64 d) ∧ w'.cell? ⟨wr.heap.size, 5, none⟩ = some (.bool r) ∧ w'.cell? ⟨0, p, none⟩ = some (.int .i64 (wd : Int)))
          (first | (exact HKS.out _ (Below.drewN (Below.refl _ _) 1)) | (exact HKS.out _ (drew_later hb4)) | (exact HKS.out _ (drew_box hb4 _)) | (exact HKA.out _ _ (drew_box hb4 _) hg5 (fun j hj => hk5 pg rfl j (by omega))))
          (first | (go_at_call 17; refine (HOP.out _).mono ?_; rintro e w4 ⟨rfl, hb4⟩) | (refine step_append_int rfl (.tmp 24) (.tmp 35) rfl w.heap.size (by simp [Act.eval, Act.put]) (by simp [Act.eval, Act.put]) (HOW2.out _ (drew_box hb4 _)) (one_int w4 _ _ rfl) (by omega) (HSW.out _ (drew_box hb4 _)) ?_; intro v5 w5 ho5 hg5 hk5))
        rename_i hheld
        clear hheld
        go_wp2
        go_roundw
        case rel => exact ⟨q + 1, by omega, by go_num, by rw [HS.out]; simpa using ho5, HB.out.trans (HB5.out _ _ (drew_box hb4 _) hg5), by rw [HT.out, List.all_append, HA.out]; simpa using HR.out⟩
        case measure => simp [intOf]; omega
    · have hqq : q = l.length := by omega
      subst hqq
      have HE : Hid (plE l = 0) := by
        show _ = _
        have := HA.out
        rw [List.take_length] at this
        exact plE_of hl this
      have HL : Hid (OwnI wr w.heap.size u4 (plcs l)) := by
        have := HOW.out
        rw [List.take_length] at this
        exact this
      clear ho HOW
      go_wp2
      go_ret2
      exact ⟨fun _ => ⟨_, rfl, HL.out⟩, fun h => absurd HE.out h, HB.out⟩

end Go.Proofs.YtpgkjfjooogfmaaDoor
