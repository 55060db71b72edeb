
/- readType: a type at the reader's place. -/
import Derived.Test.YtcjoidhbhffcgaaRead5
namespace Go.Proofs.Ytcjoidhbhffcgaa
set_option linter.unusedVariables false
set_option linter.unusedSimpArgs false
open Go.RowKit

theorem getD_end (bs : List UInt8) (r : Bool) (n a : Nat) (h : ¬ a < bs.length) : getD bs r n a = badR 1 := by
  cases n <;> (unfold getD; rw [dif_neg h])
theorem getD_deep (bs : List UInt8) (r : Bool) (a : Nat) (h : a < bs.length) (h29 : bs[a].toNat = 29) : getD bs r 0 a = badR 6 := by
  unfold getD; rw [dif_pos h, if_pos h29]
theorem getD_go (bs : List UInt8) (r : Bool) (j a : Nat) (hj : j < 3) (h : a < bs.length) (h29 : bs[a].toNat = 29) : getD bs r (3 - j) a = getD bs r (3 - (j + 1)) (a + 1) := by
  obtain ⟨n, hn⟩ : ∃ n, 3 - j = n + 1 := ⟨2 - j, by omega⟩
  have hn2 : 3 - (j + 1) = n := by omega
  rw [hn, hn2]
  conv => lhs; unfold getD
  rw [dif_pos h, if_pos h29]
theorem getD_tail (bs : List UInt8) (r : Bool) (j a : Nat) (hj : j ≤ 3) (h : a < bs.length) (h29 : bs[a].toNat ≠ 29) : getD bs r (3 - j) a = tailR bs r j bs[a].toNat (a + 1) := by
  cases hn : 3 - j with
  | zero =>
    have : j = 3 := by omega
    subst this
    unfold getD; rw [dif_pos h, if_neg h29]
  | succ n =>
    have : 2 - n = j := by omega
    unfold getD; rw [dif_pos h, if_neg h29, this]

/-- What a call that reads a type leaves. -/
def GotR (w w' : World) (rb : Nat) (bs : List UInt8) (g : Ty × Nat × Nat) (e : Ending) : Prop :=
  e = .returned (.tuple #[.agg #[.int .i64 g.1.1, .int .i64 g.1.2.1, .int .i64 g.1.2.2.1, .bool g.1.2.2.2], .int .i64 (g.2.2 : Int)]) ∧ (g.2.2 = 0 → RdAt w' rb bs g.2.1) ∧ Only rb w w'

set_option maxHeartbeats 2000000 in
set_option maxRecDepth 100000 in
theorem readType_any {w : World} {rb : Nat} {bs : List UInt8} {a : Nat} (h : RdAt w rb bs a) :
    Calls Try.prog 52 #[.pointer (some ⟨rb, 0, none⟩)] w fun e w' => GotR w w' rb bs (getT bs a) e := by
  have hrb := h.lt
  have hsm := h.small
  have hb0 : Below w.heap.size w ((w.alloc (.cells #[.int .i64 0, .int .i64 0, .int .i64 0, .bool false] 23)).alloc (.cells #[.int .i64 0, .int .i64 0, .int .i64 0, .bool false] 23)) :=
    ((Below.refl _ _).alloc (Nat.le_refl _) _).alloc (by simp) _
  have hT0 : TyAt ((w.alloc (.cells #[.int .i64 0, .int .i64 0, .int .i64 0, .bool false] 23)).alloc (.cells #[.int .i64 0, .int .i64 0, .int .i64 0, .bool false] 23)) w.heap.size 0 0 0 false :=
    (TyAt.made w 0 0 0 false).later ((Below.refl _ _).alloc (Nat.le_refl _) _)
  have hT1 : TyAt ((w.alloc (.cells #[.int .i64 0, .int .i64 0, .int .i64 0, .bool false] 23)).alloc (.cells #[.int .i64 0, .int .i64 0, .int .i64 0, .bool false] 23)) (w.heap.size + 1) 0 0 0 false := by
    have := TyAt.made (w.alloc (.cells #[.int .i64 0, .int .i64 0, .int .i64 0, .bool false] 23)) 0 0 0 false
    simpa using this
  have hR0 := h.below hb0 hrb
  have HN : Hid (Calls Try.prog 56 #[.pointer (some ⟨rb, 0, none⟩), .int .i64 1] ((w.alloc (.cells #[.int .i64 0, .int .i64 0, .int .i64 0, .bool false] 23)).alloc (.cells #[.int .i64 0, .int .i64 0, .int .i64 0, .bool false] 23)) fun e w' =>
      e = .returned (.tuple #[.int .u64 (byV bs a : Int), .int .i64 (byE bs a : Int)]) ∧ RdAt w' rb bs (a + (1 - byE bs a)) ∧ Only rb w w' ∧ TyAt w' w.heap.size 0 0 0 false ∧ TyAt w' (w.heap.size + 1) 0 0 0 false) := by
    refine (num1_any hR0).mono ?_
    rintro e w' ⟨rfl, k1, k2⟩
    exact ⟨rfl, k1, (Only.of_below hb0).trans k2, hT0.only k2 (by omega), hT1.only k2 (by omega)⟩
  clear hb0 hT0 hT1 hR0 h
  have HGet : Hid ((¬ a < bs.length → getT bs a = getD bs false (3 - 0) a) ∧ (a < bs.length → byV bs a ≠ 16 → getT bs a = getD bs false (3 - 0) a) ∧ (a < bs.length → byV bs a = 16 → getT bs a = getD bs true (3 - 0) (a + 1))) := by
    refine ⟨fun hl => ?_, fun hl h16 => ?_, fun hl h16 => ?_⟩
    · rw [getD_end bs false _ a hl]; unfold getT; rw [dif_neg hl]
    · rw [(by_yes hl).1] at h16; unfold getT; rw [dif_pos hl, if_neg h16]
    · rw [(by_yes hl).1] at h16; unfold getT; rw [dif_pos hl, if_pos h16]
  go_enter Try.func52, Try.ntmps52
  go_wp2_with fail
  refine Calls.mono HN.out ?_
  rintro e w1 ⟨rfl, k1, k2, k3, k4⟩
  by_cases hl : a < bs.length
  · obtain ⟨v1, v2, v3⟩ := by_yes hl
    have HV2 : Hid (byE bs a = 0) := v2
    clear v1
    rw [v2] at k1 ⊢
    clear v2
    by_cases h16 : byV bs a = 16
    · have h16' : ((byV bs a : Int) == 16) = true := by rw [beq_iff_eq]; omega
      have HG0 : Hid (getT bs a = getD bs true (3 - 0) (a + 1)) := HGet.out.2.2 hl h16
      clear h16 HN HGet
      obtain ⟨c0, c1, c2, c3⟩ := k4.cells
      have cf := k4.melt
      have HT1 : Hid (TyAt (w1.setCell ⟨w.heap.size + 1, 3, none⟩ (.bool true)) (w.heap.size + 1) 0 0 0 true) := k4.set3 _
      have HT0 : Hid (TyAt (w1.setCell ⟨w.heap.size + 1, 3, none⟩ (.bool true)) w.heap.size 0 0 0 false) := k3.other (by omega) _
      have HO : Hid (Only rb w (w1.setCell ⟨w.heap.size + 1, 3, none⟩ (.bool true))) := k2.setNew (by omega) _ _
      have HC : Hid (Calls Try.prog 56 #[.pointer (some ⟨rb, 0, none⟩), .int .i64 1] (w1.setCell ⟨w.heap.size + 1, 3, none⟩ (.bool true)) fun e w' =>
          e = .returned (.tuple #[.int .u64 (byV bs (a + 1) : Int), .int .i64 (byE bs (a + 1) : Int)]) ∧ RdAt w' rb bs (a + 1 + (1 - byE bs (a + 1))) ∧ Only rb (w1.setCell ⟨w.heap.size + 1, 3, none⟩ (.bool true)) w') :=
        num1_any (k1.below ((Below.refl w.heap.size w1).setCell (by show w.heap.size ≤ w.heap.size + 1; omega) _) hrb)
      clear k1 k2 k3 k4
      go_wp2_with fail
      refine Calls.mono HC.out ?_
      rintro e w2 ⟨rfl, k1, q2⟩
      have k2 := HO.out.trans q2
      have k3 := HT0.out.only q2 (by omega)
      obtain ⟨r, hr⟩ : ∃ r : Bool, r = true := ⟨_, rfl⟩
      have k4 : TyAt w2 (w.heap.size + 1) 0 0 0 r := by rw [hr]; exact HT1.out.only q2 (by omega)
      obtain ⟨b0, hb0⟩ : ∃ b0, b0 = a + 1 := ⟨_, rfl⟩
      have HG : Hid (getT bs a = getD bs r (3 - 0) b0) := by show _ = _; rw [hr, hb0]; exact HG0.out
      have HK : Hid (RdAt w2 rb bs (b0 + (1 - byE bs b0))) := by rw [hb0]; exact k1
      have HB0 : Hid (b0 = a + 1) := hb0
      clear hr hb0 HG0 HC HO HT0 HT1 q2 k1 c0 c1 c2 c3 cf v3
      go_wp2
      go_loopw [5, 6] (fun m e wr => ∃ j b : Nat, j ≤ 3 ∧ m = .int .u64 (byV bs b : Int) ∧ e = .int .i64 (byE bs b : Int) ∧ TyAt wr w.heap.size 0 0 0 false ∧ TyAt wr (w.heap.size + 1) 0 0 (j : Int) r ∧ RdAt wr rb bs (b + (1 - byE bs b)) ∧ Only rb w wr ∧ Hid (getT bs a = getD bs r (3 - j) b)) (fun _ _ wr => 4 - dimsAt wr (w.heap.size + 1))
      case atStart => exact ⟨0, b0, by omega, by rw [HB0.out], by first | (rw [HB0.out]; done) | (rw [HB0.out, HV2.out]; rfl), k3, k4, HK.out, k2, HG⟩
      case round =>
        obtain ⟨j, b, hj, rfl, rfl, hT0, hT1, hR, hO, hG⟩ := hrel
        clear k2 k3 k4 HG hl h16' HV2 HK HB0
        by_cases hb : b < bs.length
        · obtain ⟨v1, v2, v3⟩ := by_yes hb
          rw [v2] at hR ⊢
          by_cases h29 : byV bs b = 29
          · by_cases hj3 : j = 3
            · have HG : Hid (getT bs a = badR 6) := by show _ = _; rw [hG.out, hj3]; exact getD_deep bs _ b hb (by rw [← v1]; exact h29)
              have h29' : ((byV bs b : Int) == 29) = true := by rw [beq_iff_eq]; omega
              clear h29 v1 v2 hG
              subst hj3
              obtain ⟨c0, c1, c2, c3⟩ := hT0.cells
              obtain ⟨d0, d1, d2, d3⟩ := hT1.cells
              have cf := hT0.melt
              have HF := (hT0.set4 0 0 0 false).cells
              have HO := hO.set4 (Nat.le_refl _) (.int .i64 0) (.int .i64 0) (.int .i64 0) (.bool false)
              go_wp2
              exact bodyPost_ret (v := .tuple #[.agg #[.int .i64 0, .int .i64 0, .int .i64 0, .bool false], .int .i64 6]) (by simp [results, Try.results52, go_sem, HF]) rfl (by rw [HG.out]; exact ⟨rfl, fun e => absurd e (by decide), HO⟩)
            · have HG : Hid (getT bs a = getD bs r (3 - (j + 1)) (b + 1)) := by show _ = _; rw [hG.out]; exact getD_go bs _ j b (by omega) hb (by rw [← v1]; exact h29)
              have h29' : ((byV bs b : Int) == 29) = true := by rw [beq_iff_eq]; omega
              have hj3' : ((j : Int) == 3) = false := by rw [beq_eq_false_iff_ne]; omega
              clear h29 v1 v2 hG
              obtain ⟨d0, d1, d2, d3⟩ := hT1.cells
              have df := hT1.melt
              have HT1 : Hid (TyAt (wr.setCell ⟨w.heap.size + 1, 2, none⟩ (.int .i64 ((j : Int) + 1))) (w.heap.size + 1) 0 0 ((j : Int) + 1) r) := hT1.set2 _
              have HT0 : Hid (TyAt (wr.setCell ⟨w.heap.size + 1, 2, none⟩ (.int .i64 ((j : Int) + 1))) w.heap.size 0 0 0 false) := hT0.other (by omega) _
              have HO : Hid (Only rb w (wr.setCell ⟨w.heap.size + 1, 2, none⟩ (.int .i64 ((j : Int) + 1)))) := hO.setNew (by omega) _ _
              have HC : Hid (Calls Try.prog 56 #[.pointer (some ⟨rb, 0, none⟩), .int .i64 1] (wr.setCell ⟨w.heap.size + 1, 2, none⟩ (.int .i64 ((j : Int) + 1))) fun e w' =>
                  e = .returned (.tuple #[.int .u64 (byV bs (b + 1) : Int), .int .i64 (byE bs (b + 1) : Int)]) ∧ RdAt w' rb bs (b + 1 + (1 - byE bs (b + 1))) ∧ Only rb (wr.setCell ⟨w.heap.size + 1, 2, none⟩ (.int .i64 ((j : Int) + 1))) w') :=
                num1_any (hR.below ((Below.refl w.heap.size wr).setCell (by show w.heap.size ≤ w.heap.size + 1; omega) _) hrb)
              have hdim := hT1.dims
              have HDim : Hid (dimsAt wr (w.heap.size + 1) = j) := by show _ = _; rw [hdim]; omega
              clear hdim hT0 hR hO hT1
              go_wp2_with fail
              refine Calls.mono HC.out ?_
              rintro e w3 ⟨rfl, q1, q2⟩
              go_wp2
              go_roundw
              case rel => exact ⟨j + 1, b + 1, by omega, rfl, rfl, HT0.out.only q2 (by omega), by have := HT1.out.only q2 (by omega); simpa using this, q1, HO.out.trans q2, HG⟩
              case measure =>
                have z1 := (HT1.out.only q2 (by omega)).dims
                have z2 := HDim.out
                rw [z1, z2]; omega
          · have HG : Hid (getT bs a = tailR bs r j (byV bs b) (b + 1)) := by show _ = _; rw [hG.out, v1]; exact getD_tail bs _ j b hj hb (by rw [← v1]; exact h29)
            have h29' : ((byV bs b : Int) == 29) = false := by rw [beq_eq_false_iff_ne]; omega
            clear h29 v1 v2 hG
            obtain ⟨d0, d1, d2, d3⟩ := hT1.cells
            have df := hT1.melt
            generalize byV bs b = c at *
            go_wp2_with fail
            refine (kindOf_any c v3 _).mono ?_
            rintro e wz ⟨rfl, hz⟩
            subst wz
            have HT1 := hT1.set0 (kindI c)
            have HT0 : TyAt (wr.setCell ⟨w.heap.size + 1, 0, none⟩ (.int .i64 (kindI c))) w.heap.size 0 0 0 false := hT0.other (by omega) _
            have HO : Only rb w (wr.setCell ⟨w.heap.size + 1, 0, none⟩ (.int .i64 (kindI c))) := hO.setNew (by omega) _ _
            have HR : RdAt (wr.setCell ⟨w.heap.size + 1, 0, none⟩ (.int .i64 (kindI c))) rb bs (b + 1) := hR.below ((Below.refl w.heap.size wr).setCell (by show w.heap.size ≤ w.heap.size + 1; omega) _) hrb
            clear hT0 hT1 hR hO
            obtain ⟨e0, e1, e2, e3⟩ := HT1.cells
            go_wp2_with fail
            refine (isPlain_any (kindI c) 0 (j : Int) r _).mono ?_
            rintro e w2 ⟨rfl, hb2⟩
            replace HT1 := HT1.later hb2
            replace HT0 := HT0.later hb2
            replace HO := HO.new hb2
            replace HR := HR.only hb2
            clear hb2 e0 e1 e2 e3 d0 d1 d2 d3 df
            obtain ⟨c0, c1, c2, c3⟩ := HT0.cells
            obtain ⟨d0, d1, d2, d3⟩ := HT1.cells
            have cf := HT0.melt
            have df := HT1.melt
            by_cases hp : plainB (kindI c) 0 (j : Int) r = true
            · by_cases hk : kindI c = 5 ∨ kindI c = 6 ∨ kindI c = 7
              · obtain ⟨y1, y2⟩ := tail_num bs r j c (b + 1) hk
                have HG2 : Hid (getT bs a = if ixE (kindI c) (unp bs (b + 1)) ≠ 0 then badR (ixE (kindI c) (unp bs (b + 1))) else ((kindI c, ixV (kindI c) (unp bs (b + 1)), (j : Int), r), b + 1 + (unp bs (b + 1)).2.1, 0)) := by
                  show _ = _
                  rw [HG.out, y1]; exact num_ix bs r j c (b + 1) y2
                have HC : Hid (Calls Try.prog 63 #[.pointer (some ⟨rb, 0, none⟩), .int .i64 (kindI c)] w2 fun e w' =>
                    e = .returned (.tuple #[.int .i64 (ixV (kindI c) (unp bs (b + 1))), .int .i64 (ixE (kindI c) (unp bs (b + 1)) : Int)]) ∧ RdAt w' rb bs (b + 1 + (unp bs (b + 1)).2.1) ∧ Only rb w2 w') := readIndex_any HR (kindI c) hk
                clear y1 y2 HG hk
                generalize ixV (kindI c) (unp bs (b + 1)) = xv at *
                generalize ixE (kindI c) (unp bs (b + 1)) = xe at *
                generalize (unp bs (b + 1)).2.1 = ln at *
                clear HR
                go_wp2_with fail
                refine Calls.mono HC.out ?_
                rintro e w3 ⟨rfl, HR, q2⟩
                replace HT1 := HT1.only q2 (by omega)
                replace HT0 := HT0.only q2 (by omega)
                replace HO := HO.trans q2
                clear q2 c0 c1 c2 c3 d0 d1 d2 d3 cf df
                obtain ⟨c0, c1, c2, c3⟩ := HT0.cells
                obtain ⟨d0, d1, d2, d3⟩ := HT1.cells
                have cf := HT0.melt
                have df := HT1.melt
                have HQ := (HT1.set1 xv).cells
                have HP0 : TyAt (w3.setCell ⟨w.heap.size + 1, 1, none⟩ (.int .i64 xv)) w.heap.size 0 0 0 false := HT0.other (by omega) _
                by_cases hx : xe = 0
                · subst hx
                  have HG3 : Hid (getT bs a = ((kindI c, xv, (j : Int), r), b + 1 + ln, 0)) := by show _ = _; rw [HG2.out, if_neg (by simp)]
                  have HF := (HP0.set4 (kindI c) xv (j : Int) r).cells
                  have HO2 := (HO.setNew (show w.heap.size ≤ w.heap.size + 1 by omega) 1 (.int .i64 xv)).set4 (Nat.le_refl _) (.int .i64 (kindI c)) (.int .i64 xv) (.int .i64 (j : Int)) (.bool r)
                  have HR2 : Hid (RdAt (((((w3.setCell ⟨w.heap.size + 1, 1, none⟩ (.int .i64 xv)).setCell ⟨w.heap.size, 0, none⟩ (.int .i64 (kindI c))).setCell ⟨w.heap.size, 1, none⟩ (.int .i64 xv)).setCell ⟨w.heap.size, 2, none⟩ (.int .i64 (j : Int))).setCell ⟨w.heap.size, 3, none⟩ (.bool r)) rb bs (b + 1 + ln)) :=
                    HR.below (below_set4 ((Below.refl w.heap.size w3).setCell (by show w.heap.size ≤ w.heap.size + 1; omega) _) (Nat.le_refl _) _ _ _ _) hrb
                  clear HG2 HC
                  go_wp2
                  exact bodyPost_ret (v := .tuple #[.agg #[.int .i64 (kindI c), .int .i64 xv, .int .i64 (j : Int), .bool r], .int .i64 0]) (by simp [results, Try.results52, go_sem, HF]) rfl (by rw [HG3.out]; exact ⟨rfl, fun _ => HR2.out, HO2⟩)
                · have HG3 : Hid (getT bs a = badR xe) := by show _ = _; rw [HG2.out, if_pos hx]
                  have HX : Hid (¬ xe = 0) := hx
                  have hx2 : ((xe : Int) != 0) = true := by rw [bne_iff_ne]; omega
                  have HF := (HP0.set4 0 0 0 false).cells
                  have HO2 := (HO.setNew (show w.heap.size ≤ w.heap.size + 1 by omega) 1 (.int .i64 xv)).set4 (Nat.le_refl _) (.int .i64 0) (.int .i64 0) (.int .i64 0) (.bool false)
                  clear hx HG2 HC
                  go_wp2
                  exact bodyPost_ret (v := .tuple #[.agg #[.int .i64 0, .int .i64 0, .int .i64 0, .bool false], .int .i64 (xe : Int)]) (by simp [results, Try.results52, go_sem, HF]) rfl (by rw [HG3.out]; exact ⟨rfl, fun e => absurd e HX.out, HO2⟩)
              · have HG2 : Hid (getT bs a = ((kindI c, 0, (j : Int), r), b + 1, 0)) := by show _ = _; rw [HG.out]; exact tail_bare bs r j c (b + 1) hp (by omega) (by omega) (by omega)
                have HQ := (HT1.set1 0).cells
                have HP0 : TyAt (w2.setCell ⟨w.heap.size + 1, 1, none⟩ (.int .i64 0)) w.heap.size 0 0 0 false := HT0.other (by omega) _
                have HF := (HP0.set4 (kindI c) 0 (j : Int) r).cells
                have HO2 := (HO.setNew (show w.heap.size ≤ w.heap.size + 1 by omega) 1 (.int .i64 0)).set4 (Nat.le_refl _) (.int .i64 (kindI c)) (.int .i64 0) (.int .i64 (j : Int)) (.bool r)
                have HR2 : Hid (RdAt (((((w2.setCell ⟨w.heap.size + 1, 1, none⟩ (.int .i64 0)).setCell ⟨w.heap.size, 0, none⟩ (.int .i64 (kindI c))).setCell ⟨w.heap.size, 1, none⟩ (.int .i64 0)).setCell ⟨w.heap.size, 2, none⟩ (.int .i64 (j : Int))).setCell ⟨w.heap.size, 3, none⟩ (.bool r)) rb bs (b + 1)) :=
                  HR.below (below_set4 ((Below.refl w.heap.size w2).setCell (by show w.heap.size ≤ w.heap.size + 1; omega) _) (Nat.le_refl _) _ _ _ _) hrb
                go_wp2_with fail
                refine (readIndex_bare _ (kindI c) _ (by omega) (by omega) (by omega)).mono ?_
                rintro e wz ⟨rfl, hz⟩
                subst wz
                go_wp2
                exact bodyPost_ret (v := .tuple #[.agg #[.int .i64 (kindI c), .int .i64 0, .int .i64 (j : Int), .bool r], .int .i64 0]) (by simp [results, Try.results52, go_sem, HF]) rfl (by rw [HG2.out]; exact ⟨rfl, fun _ => HR2.out, HO2⟩)
            · have hp' : plainB (kindI c) 0 (j : Int) r = false := by simpa using hp
              have HG2 : Hid (getT bs a = badR 2) := by show _ = _; rw [HG.out]; exact tail_bad bs r j c (b + 1) hp' hj
              clear hp
              have HF := (HT0.set4 0 0 0 false).cells
              have HO2 := HO.set4 (Nat.le_refl _) (.int .i64 0) (.int .i64 0) (.int .i64 0) (.bool false)
              go_wp2
              exact bodyPost_ret (v := .tuple #[.agg #[.int .i64 0, .int .i64 0, .int .i64 0, .bool false], .int .i64 2]) (by simp [results, Try.results52, go_sem, HF]) rfl (by rw [HG2.out]; exact ⟨rfl, fun e => absurd e (by decide), HO2⟩)
        · obtain ⟨v1, v2⟩ := by_no hb
          have HG : Hid (getT bs a = badR 1) := by show _ = _; rw [hG.out]; exact getD_end bs _ _ b hb
          rw [v2] at hR ⊢
          clear v1 v2 hG
          obtain ⟨c0, c1, c2, c3⟩ := hT0.cells
          have cf := hT0.melt
          have HF := (hT0.set4 0 0 0 false).cells
          have HO := hO.set4 (Nat.le_refl _) (.int .i64 0) (.int .i64 0) (.int .i64 0) (.bool false)
          go_wp2
          exact bodyPost_ret (v := .tuple #[.agg #[.int .i64 0, .int .i64 0, .int .i64 0, .bool false], .int .i64 1]) (by simp [results, Try.results52, go_sem, HF]) rfl (by rw [HG.out]; exact ⟨rfl, fun e => absurd e (by decide), HO⟩)
    · have h16' : ((byV bs a : Int) == 16) = false := by rw [beq_eq_false_iff_ne]; omega
      obtain ⟨r, hr⟩ : ∃ r : Bool, r = false := ⟨_, rfl⟩
      obtain ⟨b0, hb0⟩ : ∃ b0, b0 = a := ⟨_, rfl⟩
      have HG : Hid (getT bs a = getD bs r (3 - 0) b0) := by show _ = _; rw [hr, hb0]; exact HGet.out.2.1 hl h16
      have HK : Hid (RdAt w1 rb bs (b0 + (1 - byE bs b0))) := by rw [hb0]; show RdAt _ _ _ _; rw [HV2.out]; exact k1
      have HB0 : Hid (b0 = a) := hb0
      rw [← hr] at k4
      clear h16 HN HGet hr hb0 k1 v3
      go_wp2
      go_loopw [5, 6] (fun m e wr => ∃ j b : Nat, j ≤ 3 ∧ m = .int .u64 (byV bs b : Int) ∧ e = .int .i64 (byE bs b : Int) ∧ TyAt wr w.heap.size 0 0 0 false ∧ TyAt wr (w.heap.size + 1) 0 0 (j : Int) r ∧ RdAt wr rb bs (b + (1 - byE bs b)) ∧ Only rb w wr ∧ Hid (getT bs a = getD bs r (3 - j) b)) (fun _ _ wr => 4 - dimsAt wr (w.heap.size + 1))
      case atStart => exact ⟨0, b0, by omega, by rw [HB0.out], by first | (rw [HB0.out]; done) | (rw [HB0.out, HV2.out]; rfl), k3, k4, HK.out, k2, HG⟩
      case round =>
        obtain ⟨j, b, hj, rfl, rfl, hT0, hT1, hR, hO, hG⟩ := hrel
        clear k2 k3 k4 HG hl h16' HV2 HK HB0
        by_cases hb : b < bs.length
        · obtain ⟨v1, v2, v3⟩ := by_yes hb
          rw [v2] at hR ⊢
          by_cases h29 : byV bs b = 29
          · by_cases hj3 : j = 3
            · have HG : Hid (getT bs a = badR 6) := by show _ = _; rw [hG.out, hj3]; exact getD_deep bs _ b hb (by rw [← v1]; exact h29)
              have h29' : ((byV bs b : Int) == 29) = true := by rw [beq_iff_eq]; omega
              clear h29 v1 v2 hG
              subst hj3
              obtain ⟨c0, c1, c2, c3⟩ := hT0.cells
              obtain ⟨d0, d1, d2, d3⟩ := hT1.cells
              have cf := hT0.melt
              have HF := (hT0.set4 0 0 0 false).cells
              have HO := hO.set4 (Nat.le_refl _) (.int .i64 0) (.int .i64 0) (.int .i64 0) (.bool false)
              go_wp2
              exact bodyPost_ret (v := .tuple #[.agg #[.int .i64 0, .int .i64 0, .int .i64 0, .bool false], .int .i64 6]) (by simp [results, Try.results52, go_sem, HF]) rfl (by rw [HG.out]; exact ⟨rfl, fun e => absurd e (by decide), HO⟩)
            · have HG : Hid (getT bs a = getD bs r (3 - (j + 1)) (b + 1)) := by show _ = _; rw [hG.out]; exact getD_go bs _ j b (by omega) hb (by rw [← v1]; exact h29)
              have h29' : ((byV bs b : Int) == 29) = true := by rw [beq_iff_eq]; omega
              have hj3' : ((j : Int) == 3) = false := by rw [beq_eq_false_iff_ne]; omega
              clear h29 v1 v2 hG
              obtain ⟨d0, d1, d2, d3⟩ := hT1.cells
              have df := hT1.melt
              have HT1 : Hid (TyAt (wr.setCell ⟨w.heap.size + 1, 2, none⟩ (.int .i64 ((j : Int) + 1))) (w.heap.size + 1) 0 0 ((j : Int) + 1) r) := hT1.set2 _
              have HT0 : Hid (TyAt (wr.setCell ⟨w.heap.size + 1, 2, none⟩ (.int .i64 ((j : Int) + 1))) w.heap.size 0 0 0 false) := hT0.other (by omega) _
              have HO : Hid (Only rb w (wr.setCell ⟨w.heap.size + 1, 2, none⟩ (.int .i64 ((j : Int) + 1)))) := hO.setNew (by omega) _ _
              have HC : Hid (Calls Try.prog 56 #[.pointer (some ⟨rb, 0, none⟩), .int .i64 1] (wr.setCell ⟨w.heap.size + 1, 2, none⟩ (.int .i64 ((j : Int) + 1))) fun e w' =>
                  e = .returned (.tuple #[.int .u64 (byV bs (b + 1) : Int), .int .i64 (byE bs (b + 1) : Int)]) ∧ RdAt w' rb bs (b + 1 + (1 - byE bs (b + 1))) ∧ Only rb (wr.setCell ⟨w.heap.size + 1, 2, none⟩ (.int .i64 ((j : Int) + 1))) w') :=
                num1_any (hR.below ((Below.refl w.heap.size wr).setCell (by show w.heap.size ≤ w.heap.size + 1; omega) _) hrb)
              have hdim := hT1.dims
              have HDim : Hid (dimsAt wr (w.heap.size + 1) = j) := by show _ = _; rw [hdim]; omega
              clear hdim hT0 hR hO hT1
              go_wp2_with fail
              refine Calls.mono HC.out ?_
              rintro e w3 ⟨rfl, q1, q2⟩
              go_wp2
              go_roundw
              case rel => exact ⟨j + 1, b + 1, by omega, rfl, rfl, HT0.out.only q2 (by omega), by have := HT1.out.only q2 (by omega); simpa using this, q1, HO.out.trans q2, HG⟩
              case measure =>
                have z1 := (HT1.out.only q2 (by omega)).dims
                have z2 := HDim.out
                rw [z1, z2]; omega
          · have HG : Hid (getT bs a = tailR bs r j (byV bs b) (b + 1)) := by show _ = _; rw [hG.out, v1]; exact getD_tail bs _ j b hj hb (by rw [← v1]; exact h29)
            have h29' : ((byV bs b : Int) == 29) = false := by rw [beq_eq_false_iff_ne]; omega
            clear h29 v1 v2 hG
            obtain ⟨d0, d1, d2, d3⟩ := hT1.cells
            have df := hT1.melt
            generalize byV bs b = c at *
            go_wp2_with fail
            refine (kindOf_any c v3 _).mono ?_
            rintro e wz ⟨rfl, hz⟩
            subst wz
            have HT1 := hT1.set0 (kindI c)
            have HT0 : TyAt (wr.setCell ⟨w.heap.size + 1, 0, none⟩ (.int .i64 (kindI c))) w.heap.size 0 0 0 false := hT0.other (by omega) _
            have HO : Only rb w (wr.setCell ⟨w.heap.size + 1, 0, none⟩ (.int .i64 (kindI c))) := hO.setNew (by omega) _ _
            have HR : RdAt (wr.setCell ⟨w.heap.size + 1, 0, none⟩ (.int .i64 (kindI c))) rb bs (b + 1) := hR.below ((Below.refl w.heap.size wr).setCell (by show w.heap.size ≤ w.heap.size + 1; omega) _) hrb
            clear hT0 hT1 hR hO
            obtain ⟨e0, e1, e2, e3⟩ := HT1.cells
            go_wp2_with fail
            refine (isPlain_any (kindI c) 0 (j : Int) r _).mono ?_
            rintro e w2 ⟨rfl, hb2⟩
            replace HT1 := HT1.later hb2
            replace HT0 := HT0.later hb2
            replace HO := HO.new hb2
            replace HR := HR.only hb2
            clear hb2 e0 e1 e2 e3 d0 d1 d2 d3 df
            obtain ⟨c0, c1, c2, c3⟩ := HT0.cells
            obtain ⟨d0, d1, d2, d3⟩ := HT1.cells
            have cf := HT0.melt
            have df := HT1.melt
            by_cases hp : plainB (kindI c) 0 (j : Int) r = true
            · by_cases hk : kindI c = 5 ∨ kindI c = 6 ∨ kindI c = 7
              · obtain ⟨y1, y2⟩ := tail_num bs r j c (b + 1) hk
                have HG2 : Hid (getT bs a = if ixE (kindI c) (unp bs (b + 1)) ≠ 0 then badR (ixE (kindI c) (unp bs (b + 1))) else ((kindI c, ixV (kindI c) (unp bs (b + 1)), (j : Int), r), b + 1 + (unp bs (b + 1)).2.1, 0)) := by
                  show _ = _
                  rw [HG.out, y1]; exact num_ix bs r j c (b + 1) y2
                have HC : Hid (Calls Try.prog 63 #[.pointer (some ⟨rb, 0, none⟩), .int .i64 (kindI c)] w2 fun e w' =>
                    e = .returned (.tuple #[.int .i64 (ixV (kindI c) (unp bs (b + 1))), .int .i64 (ixE (kindI c) (unp bs (b + 1)) : Int)]) ∧ RdAt w' rb bs (b + 1 + (unp bs (b + 1)).2.1) ∧ Only rb w2 w') := readIndex_any HR (kindI c) hk
                clear y1 y2 HG hk
                generalize ixV (kindI c) (unp bs (b + 1)) = xv at *
                generalize ixE (kindI c) (unp bs (b + 1)) = xe at *
                generalize (unp bs (b + 1)).2.1 = ln at *
                clear HR
                go_wp2_with fail
                refine Calls.mono HC.out ?_
                rintro e w3 ⟨rfl, HR, q2⟩
                replace HT1 := HT1.only q2 (by omega)
                replace HT0 := HT0.only q2 (by omega)
                replace HO := HO.trans q2
                clear q2 c0 c1 c2 c3 d0 d1 d2 d3 cf df
                obtain ⟨c0, c1, c2, c3⟩ := HT0.cells
                obtain ⟨d0, d1, d2, d3⟩ := HT1.cells
                have cf := HT0.melt
                have df := HT1.melt
                have HQ := (HT1.set1 xv).cells
                have HP0 : TyAt (w3.setCell ⟨w.heap.size + 1, 1, none⟩ (.int .i64 xv)) w.heap.size 0 0 0 false := HT0.other (by omega) _
                by_cases hx : xe = 0
                · subst hx
                  have HG3 : Hid (getT bs a = ((kindI c, xv, (j : Int), r), b + 1 + ln, 0)) := by show _ = _; rw [HG2.out, if_neg (by simp)]
                  have HF := (HP0.set4 (kindI c) xv (j : Int) r).cells
                  have HO2 := (HO.setNew (show w.heap.size ≤ w.heap.size + 1 by omega) 1 (.int .i64 xv)).set4 (Nat.le_refl _) (.int .i64 (kindI c)) (.int .i64 xv) (.int .i64 (j : Int)) (.bool r)
                  have HR2 : Hid (RdAt (((((w3.setCell ⟨w.heap.size + 1, 1, none⟩ (.int .i64 xv)).setCell ⟨w.heap.size, 0, none⟩ (.int .i64 (kindI c))).setCell ⟨w.heap.size, 1, none⟩ (.int .i64 xv)).setCell ⟨w.heap.size, 2, none⟩ (.int .i64 (j : Int))).setCell ⟨w.heap.size, 3, none⟩ (.bool r)) rb bs (b + 1 + ln)) :=
                    HR.below (below_set4 ((Below.refl w.heap.size w3).setCell (by show w.heap.size ≤ w.heap.size + 1; omega) _) (Nat.le_refl _) _ _ _ _) hrb
                  clear HG2 HC
                  go_wp2
                  exact bodyPost_ret (v := .tuple #[.agg #[.int .i64 (kindI c), .int .i64 xv, .int .i64 (j : Int), .bool r], .int .i64 0]) (by simp [results, Try.results52, go_sem, HF]) rfl (by rw [HG3.out]; exact ⟨rfl, fun _ => HR2.out, HO2⟩)
                · have HG3 : Hid (getT bs a = badR xe) := by show _ = _; rw [HG2.out, if_pos hx]
                  have HX : Hid (¬ xe = 0) := hx
                  have hx2 : ((xe : Int) != 0) = true := by rw [bne_iff_ne]; omega
                  have HF := (HP0.set4 0 0 0 false).cells
                  have HO2 := (HO.setNew (show w.heap.size ≤ w.heap.size + 1 by omega) 1 (.int .i64 xv)).set4 (Nat.le_refl _) (.int .i64 0) (.int .i64 0) (.int .i64 0) (.bool false)
                  clear hx HG2 HC
                  go_wp2
                  exact bodyPost_ret (v := .tuple #[.agg #[.int .i64 0, .int .i64 0, .int .i64 0, .bool false], .int .i64 (xe : Int)]) (by simp [results, Try.results52, go_sem, HF]) rfl (by rw [HG3.out]; exact ⟨rfl, fun e => absurd e HX.out, HO2⟩)
              · have HG2 : Hid (getT bs a = ((kindI c, 0, (j : Int), r), b + 1, 0)) := by show _ = _; rw [HG.out]; exact tail_bare bs r j c (b + 1) hp (by omega) (by omega) (by omega)
                have HQ := (HT1.set1 0).cells
                have HP0 : TyAt (w2.setCell ⟨w.heap.size + 1, 1, none⟩ (.int .i64 0)) w.heap.size 0 0 0 false := HT0.other (by omega) _
                have HF := (HP0.set4 (kindI c) 0 (j : Int) r).cells
                have HO2 := (HO.setNew (show w.heap.size ≤ w.heap.size + 1 by omega) 1 (.int .i64 0)).set4 (Nat.le_refl _) (.int .i64 (kindI c)) (.int .i64 0) (.int .i64 (j : Int)) (.bool r)
                have HR2 : Hid (RdAt (((((w2.setCell ⟨w.heap.size + 1, 1, none⟩ (.int .i64 0)).setCell ⟨w.heap.size, 0, none⟩ (.int .i64 (kindI c))).setCell ⟨w.heap.size, 1, none⟩ (.int .i64 0)).setCell ⟨w.heap.size, 2, none⟩ (.int .i64 (j : Int))).setCell ⟨w.heap.size, 3, none⟩ (.bool r)) rb bs (b + 1)) :=
                  HR.below (below_set4 ((Below.refl w.heap.size w2).setCell (by show w.heap.size ≤ w.heap.size + 1; omega) _) (Nat.le_refl _) _ _ _ _) hrb
                go_wp2_with fail
                refine (readIndex_bare _ (kindI c) _ (by omega) (by omega) (by omega)).mono ?_
                rintro e wz ⟨rfl, hz⟩
                subst wz
                go_wp2
                exact bodyPost_ret (v := .tuple #[.agg #[.int .i64 (kindI c), .int .i64 0, .int .i64 (j : Int), .bool r], .int .i64 0]) (by simp [results, Try.results52, go_sem, HF]) rfl (by rw [HG2.out]; exact ⟨rfl, fun _ => HR2.out, HO2⟩)
            · have hp' : plainB (kindI c) 0 (j : Int) r = false := by simpa using hp
              have HG2 : Hid (getT bs a = badR 2) := by show _ = _; rw [HG.out]; exact tail_bad bs r j c (b + 1) hp' hj
              clear hp
              have HF := (HT0.set4 0 0 0 false).cells
              have HO2 := HO.set4 (Nat.le_refl _) (.int .i64 0) (.int .i64 0) (.int .i64 0) (.bool false)
              go_wp2
              exact bodyPost_ret (v := .tuple #[.agg #[.int .i64 0, .int .i64 0, .int .i64 0, .bool false], .int .i64 2]) (by simp [results, Try.results52, go_sem, HF]) rfl (by rw [HG2.out]; exact ⟨rfl, fun e => absurd e (by decide), HO2⟩)
        · obtain ⟨v1, v2⟩ := by_no hb
          have HG : Hid (getT bs a = badR 1) := by show _ = _; rw [hG.out]; exact getD_end bs _ _ b hb
          rw [v2] at hR ⊢
          clear v1 v2 hG
          obtain ⟨c0, c1, c2, c3⟩ := hT0.cells
          have cf := hT0.melt
          have HF := (hT0.set4 0 0 0 false).cells
          have HO := hO.set4 (Nat.le_refl _) (.int .i64 0) (.int .i64 0) (.int .i64 0) (.bool false)
          go_wp2
          exact bodyPost_ret (v := .tuple #[.agg #[.int .i64 0, .int .i64 0, .int .i64 0, .bool false], .int .i64 1]) (by simp [results, Try.results52, go_sem, HF]) rfl (by rw [HG.out]; exact ⟨rfl, fun e => absurd e (by decide), HO⟩)
  · obtain ⟨v1, v2⟩ := by_no hl
    have HV2 : Hid (byE bs a = 1) := v2
    obtain ⟨r, hr⟩ : ∃ r : Bool, r = false := ⟨_, rfl⟩
    obtain ⟨b0, hb0⟩ : ∃ b0, b0 = a := ⟨_, rfl⟩
    have HG : Hid (getT bs a = getD bs r (3 - 0) b0) := by show _ = _; rw [hr, hb0]; exact HGet.out.1 hl
    have HK : Hid (RdAt w1 rb bs (b0 + (1 - byE bs b0))) := by rw [hb0]; exact k1
    have HB0 : Hid (b0 = a) := hb0
    rw [← hr] at k4
    rw [v2] at k1 ⊢
    clear HN HGet hr hb0 k1 v1 v2
    go_wp2
    go_loopw [5, 6] (fun m e wr => ∃ j b : Nat, j ≤ 3 ∧ m = .int .u64 (byV bs b : Int) ∧ e = .int .i64 (byE bs b : Int) ∧ TyAt wr w.heap.size 0 0 0 false ∧ TyAt wr (w.heap.size + 1) 0 0 (j : Int) r ∧ RdAt wr rb bs (b + (1 - byE bs b)) ∧ Only rb w wr ∧ Hid (getT bs a = getD bs r (3 - j) b)) (fun _ _ wr => 4 - dimsAt wr (w.heap.size + 1))
    case atStart => exact ⟨0, b0, by omega, by rw [HB0.out], by first | (rw [HB0.out]; done) | (rw [HB0.out, HV2.out]; rfl), k3, k4, HK.out, k2, HG⟩
    case round =>
      obtain ⟨j, b, hj, rfl, rfl, hT0, hT1, hR, hO, hG⟩ := hrel
      clear k2 k3 k4 HG hl HV2 HK HB0
      by_cases hb : b < bs.length
      · obtain ⟨v1, v2, v3⟩ := by_yes hb
        rw [v2] at hR ⊢
        by_cases h29 : byV bs b = 29
        · by_cases hj3 : j = 3
          · have HG : Hid (getT bs a = badR 6) := by show _ = _; rw [hG.out, hj3]; exact getD_deep bs _ b hb (by rw [← v1]; exact h29)
            have h29' : ((byV bs b : Int) == 29) = true := by rw [beq_iff_eq]; omega
            clear h29 v1 v2 hG
            subst hj3
            obtain ⟨c0, c1, c2, c3⟩ := hT0.cells
            obtain ⟨d0, d1, d2, d3⟩ := hT1.cells
            have cf := hT0.melt
            have HF := (hT0.set4 0 0 0 false).cells
            have HO := hO.set4 (Nat.le_refl _) (.int .i64 0) (.int .i64 0) (.int .i64 0) (.bool false)
            go_wp2
            exact bodyPost_ret (v := .tuple #[.agg #[.int .i64 0, .int .i64 0, .int .i64 0, .bool false], .int .i64 6]) (by simp [results, Try.results52, go_sem, HF]) rfl (by rw [HG.out]; exact ⟨rfl, fun e => absurd e (by decide), HO⟩)
          · have HG : Hid (getT bs a = getD bs r (3 - (j + 1)) (b + 1)) := by show _ = _; rw [hG.out]; exact getD_go bs _ j b (by omega) hb (by rw [← v1]; exact h29)
            have h29' : ((byV bs b : Int) == 29) = true := by rw [beq_iff_eq]; omega
            have hj3' : ((j : Int) == 3) = false := by rw [beq_eq_false_iff_ne]; omega
            clear h29 v1 v2 hG
            obtain ⟨d0, d1, d2, d3⟩ := hT1.cells
            have df := hT1.melt
            have HT1 : Hid (TyAt (wr.setCell ⟨w.heap.size + 1, 2, none⟩ (.int .i64 ((j : Int) + 1))) (w.heap.size + 1) 0 0 ((j : Int) + 1) r) := hT1.set2 _
            have HT0 : Hid (TyAt (wr.setCell ⟨w.heap.size + 1, 2, none⟩ (.int .i64 ((j : Int) + 1))) w.heap.size 0 0 0 false) := hT0.other (by omega) _
            have HO : Hid (Only rb w (wr.setCell ⟨w.heap.size + 1, 2, none⟩ (.int .i64 ((j : Int) + 1)))) := hO.setNew (by omega) _ _
            have HC : Hid (Calls Try.prog 56 #[.pointer (some ⟨rb, 0, none⟩), .int .i64 1] (wr.setCell ⟨w.heap.size + 1, 2, none⟩ (.int .i64 ((j : Int) + 1))) fun e w' =>
                e = .returned (.tuple #[.int .u64 (byV bs (b + 1) : Int), .int .i64 (byE bs (b + 1) : Int)]) ∧ RdAt w' rb bs (b + 1 + (1 - byE bs (b + 1))) ∧ Only rb (wr.setCell ⟨w.heap.size + 1, 2, none⟩ (.int .i64 ((j : Int) + 1))) w') :=
              num1_any (hR.below ((Below.refl w.heap.size wr).setCell (by show w.heap.size ≤ w.heap.size + 1; omega) _) hrb)
            have hdim := hT1.dims
            have HDim : Hid (dimsAt wr (w.heap.size + 1) = j) := by show _ = _; rw [hdim]; omega
            clear hdim hT0 hR hO hT1
            go_wp2_with fail
            refine Calls.mono HC.out ?_
            rintro e w3 ⟨rfl, q1, q2⟩
            go_wp2
            go_roundw
            case rel => exact ⟨j + 1, b + 1, by omega, rfl, rfl, HT0.out.only q2 (by omega), by have := HT1.out.only q2 (by omega); simpa using this, q1, HO.out.trans q2, HG⟩
            case measure =>
              have z1 := (HT1.out.only q2 (by omega)).dims
              have z2 := HDim.out
              rw [z1, z2]; omega
        · have HG : Hid (getT bs a = tailR bs r j (byV bs b) (b + 1)) := by show _ = _; rw [hG.out, v1]; exact getD_tail bs _ j b hj hb (by rw [← v1]; exact h29)
          have h29' : ((byV bs b : Int) == 29) = false := by rw [beq_eq_false_iff_ne]; omega
          clear h29 v1 v2 hG
          obtain ⟨d0, d1, d2, d3⟩ := hT1.cells
          have df := hT1.melt
          generalize byV bs b = c at *
          go_wp2_with fail
          refine (kindOf_any c v3 _).mono ?_
          rintro e wz ⟨rfl, hz⟩
          subst wz
          have HT1 := hT1.set0 (kindI c)
          have HT0 : TyAt (wr.setCell ⟨w.heap.size + 1, 0, none⟩ (.int .i64 (kindI c))) w.heap.size 0 0 0 false := hT0.other (by omega) _
          have HO : Only rb w (wr.setCell ⟨w.heap.size + 1, 0, none⟩ (.int .i64 (kindI c))) := hO.setNew (by omega) _ _
          have HR : RdAt (wr.setCell ⟨w.heap.size + 1, 0, none⟩ (.int .i64 (kindI c))) rb bs (b + 1) := hR.below ((Below.refl w.heap.size wr).setCell (by show w.heap.size ≤ w.heap.size + 1; omega) _) hrb
          clear hT0 hT1 hR hO
          obtain ⟨e0, e1, e2, e3⟩ := HT1.cells
          go_wp2_with fail
          refine (isPlain_any (kindI c) 0 (j : Int) r _).mono ?_
          rintro e w2 ⟨rfl, hb2⟩
          replace HT1 := HT1.later hb2
          replace HT0 := HT0.later hb2
          replace HO := HO.new hb2
          replace HR := HR.only hb2
          clear hb2 e0 e1 e2 e3 d0 d1 d2 d3 df
          obtain ⟨c0, c1, c2, c3⟩ := HT0.cells
          obtain ⟨d0, d1, d2, d3⟩ := HT1.cells
          have cf := HT0.melt
          have df := HT1.melt
          by_cases hp : plainB (kindI c) 0 (j : Int) r = true
          · by_cases hk : kindI c = 5 ∨ kindI c = 6 ∨ kindI c = 7
            · obtain ⟨y1, y2⟩ := tail_num bs r j c (b + 1) hk
              have HG2 : Hid (getT bs a = if ixE (kindI c) (unp bs (b + 1)) ≠ 0 then badR (ixE (kindI c) (unp bs (b + 1))) else ((kindI c, ixV (kindI c) (unp bs (b + 1)), (j : Int), r), b + 1 + (unp bs (b + 1)).2.1, 0)) := by
                show _ = _
                rw [HG.out, y1]; exact num_ix bs r j c (b + 1) y2
              have HC : Hid (Calls Try.prog 63 #[.pointer (some ⟨rb, 0, none⟩), .int .i64 (kindI c)] w2 fun e w' =>
                  e = .returned (.tuple #[.int .i64 (ixV (kindI c) (unp bs (b + 1))), .int .i64 (ixE (kindI c) (unp bs (b + 1)) : Int)]) ∧ RdAt w' rb bs (b + 1 + (unp bs (b + 1)).2.1) ∧ Only rb w2 w') := readIndex_any HR (kindI c) hk
              clear y1 y2 HG hk
              generalize ixV (kindI c) (unp bs (b + 1)) = xv at *
              generalize ixE (kindI c) (unp bs (b + 1)) = xe at *
              generalize (unp bs (b + 1)).2.1 = ln at *
              clear HR
              go_wp2_with fail
              refine Calls.mono HC.out ?_
              rintro e w3 ⟨rfl, HR, q2⟩
              replace HT1 := HT1.only q2 (by omega)
              replace HT0 := HT0.only q2 (by omega)
              replace HO := HO.trans q2
              clear q2 c0 c1 c2 c3 d0 d1 d2 d3 cf df
              obtain ⟨c0, c1, c2, c3⟩ := HT0.cells
              obtain ⟨d0, d1, d2, d3⟩ := HT1.cells
              have cf := HT0.melt
              have df := HT1.melt
              have HQ := (HT1.set1 xv).cells
              have HP0 : TyAt (w3.setCell ⟨w.heap.size + 1, 1, none⟩ (.int .i64 xv)) w.heap.size 0 0 0 false := HT0.other (by omega) _
              by_cases hx : xe = 0
              · subst hx
                have HG3 : Hid (getT bs a = ((kindI c, xv, (j : Int), r), b + 1 + ln, 0)) := by show _ = _; rw [HG2.out, if_neg (by simp)]
                have HF := (HP0.set4 (kindI c) xv (j : Int) r).cells
                have HO2 := (HO.setNew (show w.heap.size ≤ w.heap.size + 1 by omega) 1 (.int .i64 xv)).set4 (Nat.le_refl _) (.int .i64 (kindI c)) (.int .i64 xv) (.int .i64 (j : Int)) (.bool r)
                have HR2 : Hid (RdAt (((((w3.setCell ⟨w.heap.size + 1, 1, none⟩ (.int .i64 xv)).setCell ⟨w.heap.size, 0, none⟩ (.int .i64 (kindI c))).setCell ⟨w.heap.size, 1, none⟩ (.int .i64 xv)).setCell ⟨w.heap.size, 2, none⟩ (.int .i64 (j : Int))).setCell ⟨w.heap.size, 3, none⟩ (.bool r)) rb bs (b + 1 + ln)) :=
                  HR.below (below_set4 ((Below.refl w.heap.size w3).setCell (by show w.heap.size ≤ w.heap.size + 1; omega) _) (Nat.le_refl _) _ _ _ _) hrb
                clear HG2 HC
                go_wp2
                exact bodyPost_ret (v := .tuple #[.agg #[.int .i64 (kindI c), .int .i64 xv, .int .i64 (j : Int), .bool r], .int .i64 0]) (by simp [results, Try.results52, go_sem, HF]) rfl (by rw [HG3.out]; exact ⟨rfl, fun _ => HR2.out, HO2⟩)
              · have HG3 : Hid (getT bs a = badR xe) := by show _ = _; rw [HG2.out, if_pos hx]
                have HX : Hid (¬ xe = 0) := hx
                have hx2 : ((xe : Int) != 0) = true := by rw [bne_iff_ne]; omega
                have HF := (HP0.set4 0 0 0 false).cells
                have HO2 := (HO.setNew (show w.heap.size ≤ w.heap.size + 1 by omega) 1 (.int .i64 xv)).set4 (Nat.le_refl _) (.int .i64 0) (.int .i64 0) (.int .i64 0) (.bool false)
                clear hx HG2 HC
                go_wp2
                exact bodyPost_ret (v := .tuple #[.agg #[.int .i64 0, .int .i64 0, .int .i64 0, .bool false], .int .i64 (xe : Int)]) (by simp [results, Try.results52, go_sem, HF]) rfl (by rw [HG3.out]; exact ⟨rfl, fun e => absurd e HX.out, HO2⟩)
            · have HG2 : Hid (getT bs a = ((kindI c, 0, (j : Int), r), b + 1, 0)) := by show _ = _; rw [HG.out]; exact tail_bare bs r j c (b + 1) hp (by omega) (by omega) (by omega)
              have HQ := (HT1.set1 0).cells
              have HP0 : TyAt (w2.setCell ⟨w.heap.size + 1, 1, none⟩ (.int .i64 0)) w.heap.size 0 0 0 false := HT0.other (by omega) _
              have HF := (HP0.set4 (kindI c) 0 (j : Int) r).cells
              have HO2 := (HO.setNew (show w.heap.size ≤ w.heap.size + 1 by omega) 1 (.int .i64 0)).set4 (Nat.le_refl _) (.int .i64 (kindI c)) (.int .i64 0) (.int .i64 (j : Int)) (.bool r)
              have HR2 : Hid (RdAt (((((w2.setCell ⟨w.heap.size + 1, 1, none⟩ (.int .i64 0)).setCell ⟨w.heap.size, 0, none⟩ (.int .i64 (kindI c))).setCell ⟨w.heap.size, 1, none⟩ (.int .i64 0)).setCell ⟨w.heap.size, 2, none⟩ (.int .i64 (j : Int))).setCell ⟨w.heap.size, 3, none⟩ (.bool r)) rb bs (b + 1)) :=
                HR.below (below_set4 ((Below.refl w.heap.size w2).setCell (by show w.heap.size ≤ w.heap.size + 1; omega) _) (Nat.le_refl _) _ _ _ _) hrb
              go_wp2_with fail
              refine (readIndex_bare _ (kindI c) _ (by omega) (by omega) (by omega)).mono ?_
              rintro e wz ⟨rfl, hz⟩
              subst wz
              go_wp2
              exact bodyPost_ret (v := .tuple #[.agg #[.int .i64 (kindI c), .int .i64 0, .int .i64 (j : Int), .bool r], .int .i64 0]) (by simp [results, Try.results52, go_sem, HF]) rfl (by rw [HG2.out]; exact ⟨rfl, fun _ => HR2.out, HO2⟩)
          · have hp' : plainB (kindI c) 0 (j : Int) r = false := by simpa using hp
            have HG2 : Hid (getT bs a = badR 2) := by show _ = _; rw [HG.out]; exact tail_bad bs r j c (b + 1) hp' hj
            clear hp
            have HF := (HT0.set4 0 0 0 false).cells
            have HO2 := HO.set4 (Nat.le_refl _) (.int .i64 0) (.int .i64 0) (.int .i64 0) (.bool false)
            go_wp2
            exact bodyPost_ret (v := .tuple #[.agg #[.int .i64 0, .int .i64 0, .int .i64 0, .bool false], .int .i64 2]) (by simp [results, Try.results52, go_sem, HF]) rfl (by rw [HG2.out]; exact ⟨rfl, fun e => absurd e (by decide), HO2⟩)
      · obtain ⟨v1, v2⟩ := by_no hb
        have HG : Hid (getT bs a = badR 1) := by show _ = _; rw [hG.out]; exact getD_end bs _ _ b hb
        rw [v2] at hR ⊢
        clear v1 v2 hG
        obtain ⟨c0, c1, c2, c3⟩ := hT0.cells
        have cf := hT0.melt
        have HF := (hT0.set4 0 0 0 false).cells
        have HO := hO.set4 (Nat.le_refl _) (.int .i64 0) (.int .i64 0) (.int .i64 0) (.bool false)
        go_wp2
        exact bodyPost_ret (v := .tuple #[.agg #[.int .i64 0, .int .i64 0, .int .i64 0, .bool false], .int .i64 1]) (by simp [results, Try.results52, go_sem, HF]) rfl (by rw [HG.out]; exact ⟨rfl, fun e => absurd e (by decide), HO⟩)

end Go.Proofs.Ytcjoidhbhffcgaa
