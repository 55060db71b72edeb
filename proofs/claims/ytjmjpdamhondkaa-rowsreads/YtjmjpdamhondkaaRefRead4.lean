
/- Read of layer 4's references. -/
import Derived.Test.YtjmjpdamhondkaaRefWidth4
import Derived.Test.YtjmjpdamhondkaaRead4
namespace Go.Proofs.Ytjmjpdamhondkaa
set_option linter.unusedVariables false
set_option linter.unusedSimpArgs false
open Go.RowKit Go.Maps

/-- What the references' Read answers. -/
def GotPt (bs : List UInt8) (e : Ending) (w' : World) : Prop :=
  ∃ sv, e = .returned (.agg #[.int .i64 (readR bs).1.entry, sv, .int .i64 ((readR bs).2.1 : Int), .int .i64 ((readR bs).2.2 : Int)]) ∧ In3 w' sv (readR bs).1.rows
theorem GotPt.err {bs : List UInt8} {p k : Nat} (h : readR bs = (Tabs.nil, p, k)) (w' : World) (x y : Int) (hx : x = p) (hy : y = k) : GotPt bs (.returned (.agg #[.int .i64 0, .slice none 0 0, .int .i64 x, .int .i64 y])) w' := by
  subst hx hy
  refine ⟨.slice none 0 0, by rw [h]; rfl, by rw [h]; exact Ns.nil _ _⟩

theorem box4 {w : World} {g : Nat} {x0 x1 x2 x3 : Value} {t : TypeId} (h : w.heap[g]? = some (Obj.cells #[x0, x1, x2, x3] t (0, 0))) : w.cell? ⟨g, 0, none⟩ = some x0 ∧ w.cell? ⟨g, 1, none⟩ = some x1 ∧ w.cell? ⟨g, 2, none⟩ = some x2 ∧ w.cell? ⟨g, 3, none⟩ = some x3 := by
  refine ⟨?_, ?_, ?_, ?_⟩ <;> simp [World.cell?, h]
/-- Four cells of a block are laid anew. -/
theorem res4 {w : World} {r : Nat} {c0 c1 c2 c3 : Value} {t : TypeId} (h : w.heap[r]? = some (Obj.cells #[c0, c1, c2, c3] t (0, 0))) (x0 x1 x2 x3 : Value) (W : World) (hW : W = (((w.setCell ⟨r, 0, none⟩ x0).setCell ⟨r, 1, none⟩ x1).setCell ⟨r, 2, none⟩ x2).setCell ⟨r, 3, none⟩ x3) :
    Only r w W ∧ W.cell? ⟨r, 0, none⟩ = some x0 ∧ W.cell? ⟨r, 1, none⟩ = some x1 ∧ W.cell? ⟨r, 2, none⟩ = some x2 ∧ W.cell? ⟨r, 3, none⟩ = some x3 ∧ W.heap.size = w.heap.size := by
  have step : ∀ (V : World) (C : Array Value) (i : Nat) (y : Value), V.heap[r]? = some (Obj.cells C t (0, 0)) → (V.setCell ⟨r, i, none⟩ y).heap[r]? = some (Obj.cells (C.setIfInBounds i y) t (0, 0)) := fun V C i y hV => by
    rw [setCell_eq_setRow V r i _ _ _ _ hV]; exact setRow_heap V r _ _ _ _ hV
  have h4 : W.heap[r]? = some (Obj.cells #[x0, x1, x2, x3] t (0, 0)) := by
    rw [hW]
    have := step _ _ 3 x3 (step _ _ 2 x2 (step _ _ 1 x1 (step _ _ 0 x0 h)))
    simpa using this
  refine ⟨by rw [hW]; exact Only.setCell (Only.setCell (Only.setCell (Only.setCell (Only.refl _ _) 0 _) 1 _) 2 _) 3 _, ?_, ?_, ?_, ?_, by rw [hW]; simp [World.setCell]⟩ <;> simp [World.cell?, h4]

/-- The two blocks that the references' Read begins with. -/
structure Rd (w0 w : World) (n : Nat) : Prop where
  res : w.heap[w0.heap.size]? = some (Obj.cells #[.int .i64 0, .slice none 0 0, .int .i64 0, .int .i64 0] 31 (0, 0))
  sho : w.heap[w0.heap.size + 1]? = some (Obj.cells #[.int .i64 0, .slice none 0 0, .int .i64 (n : Int), .int .i64 1] 31 (0, 0))
  below : Below w0.heap.size w0 w
theorem Rd.start (w : World) (n : Nat) : Rd w ((w.alloc (Obj.cells #[.int .i64 0, .slice none 0 0, .int .i64 0, .int .i64 0] 31)).alloc (Obj.cells #[.int .i64 0, .slice none 0 0, .int .i64 (n : Int), .int .i64 1] 31)) n := by
  refine ⟨(heap_alloc_old _ _ (by simp)).trans (heap_alloc_new w _), ?_, ((Below.refl _ _).alloc (Nat.le_refl _) _).alloc (by simp) _⟩
  have := heap_alloc_new (w.alloc (Obj.cells #[.int .i64 0, .slice none 0 0, .int .i64 0, .int .i64 0] 31)) (Obj.cells #[.int .i64 0, .slice none 0 0, .int .i64 (n : Int), .int .i64 1] 31)
  rw [World.size_alloc] at this
  exact this
theorem Rd.low {w0 w w' : World} {n B : Nat} (h : Rd w0 w n) (hb : Below B w w') (hB : w0.heap.size + 2 ≤ B) : Rd w0 w' n :=
  ⟨(hb.block _ (by omega)).trans h.res, (hb.block _ (by omega)).trans h.sho, h.below.trans (hb.mono (by omega))⟩
theorem Rd.fr {w0 w w' : World} {n g lo : Nat} (h : Rd w0 w n) (hf : Fr g g lo w w') (hg : w0.heap.size + 2 ≤ g) (hl : w0.heap.size + 2 ≤ lo) : Rd w0 w' n :=
  ⟨(hf.block _ (by omega) (by omega) (by omega)).trans h.res, (hf.block _ (by omega) (by omega) (by omega)).trans h.sho, h.below.trans (hf.below (by omega) (by omega) (by omega))⟩
theorem Rd.lt {w0 w : World} {n : Nat} (h : Rd w0 w n) : w0.heap.size + 2 ≤ w.heap.size := by
  have := (Array.getElem?_eq_some_iff.1 h.sho).1
  omega

set_option maxRecDepth 100000 in
set_option maxHeartbeats 4000000 in
theorem refRead_any {v : Value} {bs : List UInt8} {w : World} (hv : Bs w v bs) (hn : bs.length ≤ 3000) :
    Calls Try.prog 10 #[v] w fun e w' => GotPt bs e w' ∧ Below w.heap.size w w' := by
  have HV : Hid (∀ W, Below w.heap.size w W → Bs W v bs) := fun W hW => hv.later hW
  by_cases h1 : bs.length < 1
  · have HE : Hid (readR bs = (Tabs.nil, bs.length, 1)) := by show _ = _; unfold readR; rw [if_pos h1]
    obtain ⟨a, c, rfl, -⟩ := hv
    go_enter Try.func10, Try.ntmps10
    go_wp2_with fail
    exact bodyPost_ret (v := .agg #[.int .i64 0, .slice none 0 0, .int .i64 (bs.length : Int), .int .i64 1]) (by simp [results, Try.results10, go_sem]) rfl ⟨GotPt.err HE.out _ _ _ rfl rfl, ((Below.refl _ _).alloc (Nat.le_refl _) _).alloc (by simp) _⟩
  · obtain ⟨a, c, rfl, hc1, hc2, h3⟩ := hv
    unfold maxLen at hc2
    obtain ⟨bb, boff, rfl, hbb, hcell⟩ := h3 (by intro e; subst e; simp at h1)
    have HBT : Hid _ := readB_T bs
    have HRR : Hid (readR bs = if 3 < byteAt bs 0 then (Tabs.nil, 0, 2) else if bs.length < 2 then (Tabs.nil, bs.length, 1) else if 63 < byteAt bs 1 then (Tabs.nil, 1, 2) else readB bs) := by
      show _ = _
      unfold readR
      rw [if_neg h1]
    have hm8 : byteAt bs 0 < 256 := UInt8.toNat_lt _
    have ht8 : byteAt bs 1 < 256 := UInt8.toNat_lt _
    obtain ⟨w2, hw2⟩ : ∃ w2, w2 = (w.alloc (Obj.cells #[.int .i64 0, .slice none 0 0, .int .i64 0, .int .i64 0] 31)).alloc (Obj.cells #[.int .i64 0, .slice none 0 0, .int .i64 (bs.length : Int), .int .i64 1] 31) := ⟨_, rfl⟩
    have HRD2 : Hid (Rd w w2 bs.length) := by rw [hw2]; exact Rd.start w bs.length
    have hb2 : Below w.heap.size w w2 := HRD2.out.below
    have hby : ∀ i (h : i < bs.length), byteAt bs i = bs[i].toNat := fun i h => by simp [byteAt, List.getElem?_eq_getElem h]
    have C0 : w.cell? ⟨bb, boff, none⟩ = some (.int .u8 (byteAt bs 0 : Int)) := by
      have := hcell 0 (by omega)
      rw [← hby] at this
      exact this
    have C1 : 1 < bs.length → w.cell? ⟨bb, boff + 1, none⟩ = some (.int .u8 (byteAt bs 1 : Int)) := fun h => by
      have := hcell 1 h
      rw [← hby] at this
      exact this
    have HC0 : Hid (w.cell? ⟨bb, boff, none⟩ = some (.int .u8 (byteAt bs 0 : Int))) := C0
    have D0 := cell_later C0 hb2
    rw [hw2] at D0
    have HW2 : Hid (w2 = (w.alloc (Obj.cells #[.int .i64 0, .slice none 0 0, .int .i64 0, .int .i64 0] 31)).alloc (Obj.cells #[.int .i64 0, .slice none 0 0, .int .i64 (bs.length : Int), .int .i64 1] 31)) := hw2
    have HB2 : Hid (Below w.heap.size w w2) := hb2
    clear h3 hcell hby hb2 hw2
    generalize byteAt bs 0 = m at *
    generalize byteAt bs 1 = th at *
    have hd1 : decide ((bs.length : Int) < 1) = false := by rw [decide_eq_false_iff_not]; omega
    by_cases hm : 3 < m
    · have HE : Hid (readR bs = (Tabs.nil, 0, 2)) := by show _ = _; rw [HRR.out, if_pos hm]
      clear C1 C0
      go_enter Try.func10, Try.ntmps10
      go_wp2_with fail
      exact bodyPost_ret (v := .agg #[.int .i64 0, .slice none 0 0, .int .i64 0, .int .i64 2]) (by simp [results, Try.results10, go_sem]) rfl ⟨GotPt.err HE.out _ _ _ rfl rfl, ((Below.refl _ _).alloc (Nat.le_refl _) _).alloc (by simp) _⟩
    · rw [if_neg hm] at HRR
      by_cases h2 : bs.length < 2
      · have HE : Hid (readR bs = (Tabs.nil, bs.length, 1)) := by show _ = _; rw [HRR.out, if_pos h2]
        clear C1 C0
        go_enter Try.func10, Try.ntmps10
        go_wp2_with fail
        exact bodyPost_ret (v := .agg #[.int .i64 0, .slice none 0 0, .int .i64 (bs.length : Int), .int .i64 1]) (by simp [results, Try.results10, go_sem]) rfl ⟨GotPt.err HE.out _ _ _ rfl rfl, ((Below.refl _ _).alloc (Nat.le_refl _) _).alloc (by simp) _⟩
      · rw [if_neg h2] at HRR
        have D1 := cell_later (C1 (by omega)) HB2.out
        rw [HW2.out] at D1
        clear C1 C0
        have hd2 : decide ((bs.length : Int) < 2) = false := by rw [decide_eq_false_iff_not]; omega
        by_cases ht : 63 < th
        · have HE : Hid (readR bs = (Tabs.nil, 1, 2)) := by show _ = _; rw [HRR.out, if_pos ht]
          go_enter Try.func10, Try.ntmps10
          go_wp2_with fail
          exact bodyPost_ret (v := .agg #[.int .i64 0, .slice none 0 0, .int .i64 1, .int .i64 2]) (by simp [results, Try.results10, go_sem]) rfl ⟨GotPt.err HE.out _ _ _ rfl rfl, ((Below.refl _ _).alloc (Nat.le_refl _) _).alloc (by simp) _⟩
        · rw [if_neg ht] at HRR
          go_enter Try.func10, Try.ntmps10
          go_wp2_with fail
          rw [← HW2.out] at D0 D1 ⊢
          go_loopw [4, 5, 6, 7] (fun at_ tt cv x wr => ∃ (i a : Nat) (cs : List Nat), i ≤ 6 ∧ x = .int .i64 i ∧ cntTo bs th 2 i = some (cs, a) ∧ at_ = .int .i64 a ∧ tt = .int .i64 ((th / 2 ^ i : Nat) : Int) ∧ OwnV wr w2.heap.size 3 cv (i64s (cs.map Nat.cast)) ∧ Below w2.heap.size w2 wr) (fun _ _ _ x _ => 6 - (intOf x).toNat)
          case atStart => exact ⟨0, 2, [], by omega, rfl, rfl, rfl, by simp, OwnV.nil _ _ _, Below.refl _ _⟩
          case round =>
            obtain ⟨i, a, cs, hi, rfl, hct, rfl, rfl, hov, hbl⟩ := hrel
            have HCT : Hid (cntTo bs th 2 i = some (cs, a)) := hct
            have hcw := cnt_was hct
            have HCL : Hid (cs.length = i) := hcw.1
            have hale : a ≤ bs.length := hcw.2.1 (by omega)
            have HOV : Hid (OwnV wr w2.heap.size 3 u6 (i64s (cs.map Nat.cast))) := hov
            have HBL : Hid (Below w2.heap.size w2 wr) := hbl
            have HRDR : Hid (Rd w wr bs.length) := HRD2.out.low hbl HRD2.out.lt
            have hsw := hbl.size
            clear hct hcw hov hbl
            by_cases hlt : i < 6
            · have hd6 : decide ((i : Int) < 6) = true := by rw [decide_eq_true_eq]; omega
              have hq63 : th / 2 ^ i ≤ 63 := Nat.le_trans (Nat.div_le_self _ _) (by omega)
              have HQ2 : Hid (th / 2 ^ (i + 1) = th / 2 ^ i / 2) := by show _ = _; rw [Nat.pow_succ, Nat.div_div_eq_div_mul]
              have HSK : Hid (¬ th / 2 ^ i % 2 = 1 → cntTo bs th 2 (i + 1) = some (cs ++ [0], a)) := fun h => cntTo_skip HCT.out h
              have HNX : Hid (th / 2 ^ i % 2 = 1 → ¬ bs.length < a + 2 → cntTo bs th 2 (i + 1) = some (cs ++ [numAt bs a 2], a + 2)) := fun h h' => cntTo_next HCT.out h h'
              have HSH : Hid (th / 2 ^ i % 2 = 1 → bs.length < a + 2 → readR bs = (Tabs.nil, bs.length, 1)) := fun h h' => by
                rw [HRR.out, HBT.out]
                unfold readT
                rw [cntTo_short HCT.out hlt h h']
              have hcl := HCL.out
              have hil : (i64s (cs.map Nat.cast)).length = i := by rw [i64s_length, List.length_map]; exact hcl
              generalize th / 2 ^ i = q at *
              by_cases hbit : q % 2 = 1
              · have hbi : ((q : Int) % 2 == 1) = true := by rw [beq_iff_eq]; omega
                by_cases hsh : bs.length < a + 2
                · have HE : Hid (readR bs = (Tabs.nil, bs.length, 1)) := HSH.out hbit hsh
                  obtain ⟨f0, f1, f2, f3⟩ := box4 HRDR.out.res
                  obtain ⟨s0, s1, s2, s3⟩ := box4 HRDR.out.sho
                  have z0 := melt2 HRDR.out.res 0
                  have z1 := melt2 HRDR.out.res 1
                  have z2 := melt2 HRDR.out.res 2
                  have z3 := melt2 HRDR.out.res 3
                  go_wp2_with fail
                  obtain ⟨q0, q1, q2, q3, q4, -⟩ := res4 HRDR.out.res (.int .i64 0) (.slice none 0 0) (.int .i64 (bs.length : Int)) (.int .i64 1) _ rfl
                  exact bodyPost_ret (v := .agg #[.int .i64 0, .slice none 0 0, .int .i64 (bs.length : Int), .int .i64 1]) (by simp [results, Try.results10, go_sem, q1, q2, q3, q4]) rfl ⟨GotPt.err HE.out _ _ _ rfl rfl, HRDR.out.below.trans (q0.below (Nat.le_refl _) HRDR.out.below.size)⟩
                · have HE : Hid (cntTo bs th 2 (i + 1) = some (cs ++ [numAt bs a 2], a + 2)) := HNX.out hbit hsh
                  have HNUM : Hid (Calls Try.prog 28 #[.slice (some ⟨bb, boff, none⟩) bs.length c, .int .i64 (a : Int), .int .i64 2] wr fun e w' => e = .returned (.int .u64 (numAt bs a 2 : Int)) ∧ w' = wr) := refNum_any (HV.out wr (HB2.out.trans (HBL.out.mono HB2.out.size))) a 2 (by omega) (by omega) (by omega)
                  have hnl := num_lt bs a 2
                  generalize numAt bs a 2 = n at *
                  have hb3 : Below wr.heap.size wr (wr.alloc (Obj.cells #[.int .i64 (n : Int)] 3)) := (Below.refl _ _).alloc (Nat.le_refl _) _
                  have HO3 : Hid (OwnV (wr.alloc (Obj.cells #[.int .i64 (n : Int)] 3)) w2.heap.size 3 u6 (i64s (cs.map Nat.cast))) := HOV.out.later hb3
                  go_wp2_with (first
                    | (go_at_call 28; refine (Calls.mono HNUM.out ?_); rintro e wz ⟨rfl, hz⟩; subst wz)
                    | (at_builtin; go_must (refine wpList_append_at rfl _ _ _ _ rfl w2.heap.size 3 (.int .i64 0) 8 Try.underlying62 Try.infoInt rfl rfl rfl HO3.out (one_src0 Try.underlying62 _ _ _ _ (by simp) rfl) (by rw [hil]; unfold maxLen; omega) (by rw [hil]; omega) (by simp; omega) ?_)))
                  intro v4 w4 ho4 hg4 _ _
                  have HB4 : Hid (Below w2.heap.size w2 w4) := HBL.out.trans ((hb3.mono hsw).grown hg4 (by simp; omega) (fun j hj => (HO3.out.block j hj).1))
                  have HO4 : Hid (OwnV w4 w2.heap.size 3 v4 (i64s ((cs ++ [n]).map Nat.cast))) := by
                    have := ho4
                    simp only [i64s, List.map_append, List.map_cons, List.map_nil] at this ⊢
                    exact this
                  clear ho4 hg4 hb3 HO3 HNUM
                  go_wp2_with fail
                  go_roundw
                  case rel => exact ⟨i + 1, _, _, by omega, by go_num, HE.out, by go_num, by rw [HQ2.out]; go_num, HO4.out, HB4.out⟩
                  case measure => simp [intOf]; omega
              · have hbi : ((q : Int) % 2 == 1) = false := by rw [beq_eq_false_iff_ne]; omega
                have HE : Hid (cntTo bs th 2 (i + 1) = some (cs ++ [0], a)) := HSK.out hbit
                have hb3 : Below wr.heap.size wr (wr.alloc (Obj.cells #[.int .i64 0] 3)) := (Below.refl _ _).alloc (Nat.le_refl _) _
                have HO3 : Hid (OwnV (wr.alloc (Obj.cells #[.int .i64 0] 3)) w2.heap.size 3 u6 (i64s (cs.map Nat.cast))) := HOV.out.later hb3
                go_wp2_with (at_builtin; go_must (refine wpList_append_at rfl _ _ _ _ rfl w2.heap.size 3 (.int .i64 0) 8 Try.underlying62 Try.infoInt rfl rfl rfl HO3.out (one_src0 Try.underlying62 _ _ _ _ (by simp) rfl) (by rw [hil]; unfold maxLen; omega) (by rw [hil]; omega) (by simp; omega) ?_))
                intro v4 w4 ho4 hg4 _ _
                have HB4 : Hid (Below w2.heap.size w2 w4) := HBL.out.trans ((hb3.mono hsw).grown hg4 (by simp; omega) (fun j hj => (HO3.out.block j hj).1))
                have HO4 : Hid (OwnV w4 w2.heap.size 3 v4 (i64s ((cs ++ [0]).map Nat.cast))) := by
                  have := ho4
                  simp only [i64s, List.map_append, List.map_cons, List.map_nil] at this ⊢
                  exact this
                clear ho4 hg4 hb3 HO3
                go_wp2_with fail
                go_roundw
                case rel => exact ⟨i + 1, _, _, by omega, by go_num, HE.out, by simp, by rw [HQ2.out]; go_num, HO4.out, HB4.out⟩
                case measure => simp [intOf]; omega
            · have hd6 : decide ((i : Int) < 6) = false := by rw [decide_eq_false_iff_not]; omega
              have hi6 : i = 6 := by omega
              subst hi6
              have HTD : Hid (readT bs m th 2 = if bs.length < a + 2 then none else match tabsTo bs cs m (a + 2) 6 with
                | none => none
                | some q => some (⟨numAt bs a 2, q.1⟩, q.2)) := by
                show _ = _
                unfold readT
                rw [HCT.out]
                rfl
              have HRN : Hid (readT bs m th 2 = none → readR bs = (Tabs.nil, bs.length, 1)) := fun h => by
                rw [HRR.out, HBT.out, h]
              have HRY : Hid (∀ T ae, readT bs m th 2 = some (T, ae) → readR bs = if ae < bs.length then (Tabs.nil, ae, 2) else (T, 0, 0)) := fun T ae h => by
                rw [HRR.out, HBT.out, h]
              have HC16 : Hid (∀ c ∈ cs, c < 65536) := (cnt_was HCT.out).2.2.1
              clear HCT
              by_cases hsh : bs.length < a + 2
              · have HE : Hid (readR bs = (Tabs.nil, bs.length, 1)) := HRN.out (by rw [HTD.out, if_pos hsh])
                obtain ⟨f0, f1, f2, f3⟩ := box4 HRDR.out.res
                obtain ⟨s0, s1, s2, s3⟩ := box4 HRDR.out.sho
                have z0 := melt2 HRDR.out.res 0
                have z1 := melt2 HRDR.out.res 1
                have z2 := melt2 HRDR.out.res 2
                have z3 := melt2 HRDR.out.res 3
                go_wp2_with fail
                obtain ⟨q0, q1, q2, q3, q4, -⟩ := res4 HRDR.out.res (.int .i64 0) (.slice none 0 0) (.int .i64 (bs.length : Int)) (.int .i64 1) _ rfl
                exact bodyPost_ret (v := .agg #[.int .i64 0, .slice none 0 0, .int .i64 (bs.length : Int), .int .i64 1]) (by simp [results, Try.results10, go_sem, q1, q2, q3, q4]) rfl ⟨GotPt.err HE.out _ _ _ rfl rfl, HRDR.out.below.trans (q0.below (Nat.le_refl _) HRDR.out.below.size)⟩
              · rw [if_neg hsh] at HTD
                have HNUM : Hid (Calls Try.prog 28 #[.slice (some ⟨bb, boff, none⟩) bs.length c, .int .i64 (a : Int), .int .i64 2] wr fun e w' => e = .returned (.int .u64 (numAt bs a 2 : Int)) ∧ w' = wr) := refNum_any (HV.out wr (HB2.out.trans (HBL.out.mono HB2.out.size))) a 2 (by omega) (by omega) (by omega)
                have hnl := num_lt bs a 2
                generalize numAt bs a 2 = en at *
                obtain ⟨wA, rfl⟩ : ∃ wA, wA = wr := ⟨_, rfl⟩
                have hmk := run_make_six (wA.alloc (Obj.cells #[.int .i64 (en : Int), .slice none 0 0] 26))
                obtain ⟨w5, hw5⟩ : ∃ w5, w5 = (wA.alloc (Obj.cells #[.int .i64 (en : Int), .slice (some ⟨wA.heap.size + 1, 0, none⟩) 6 6] 26)).alloc (Obj.cells #[.slice none 0 0, .slice none 0 0, .slice none 0 0, .slice none 0 0, .slice none 0 0, .slice none 0 0] 65) := ⟨_, rfl⟩
                have hb5 : Below wA.heap.size wA w5 := by rw [hw5]; exact ((Below.refl _ _).alloc (Nat.le_refl _) _).alloc (by simp) _
                have hsz5 : wA.heap.size + 2 ≤ w5.heap.size := by rw [hw5]; simp
                have HO5 : Hid (w5.heap[wA.heap.size]? = some (Obj.cells #[.int .i64 (en : Int), .slice (some ⟨wA.heap.size + 1, 0, none⟩) 6 6] 26 (0, 0))) := by
                  rw [hw5]; exact (heap_alloc_old _ _ (by simp)).trans (heap_alloc_new wA _)
                have HRT5 : Hid (Rt w5 (wA.heap.size + 1) (wA.heap.size + 2) [.slice none 0 0, .slice none 0 0, .slice none 0 0, .slice none 0 0, .slice none 0 0, .slice none 0 0] []) := by
                  rw [hw5]
                  exact Rt.start (wA.alloc (Obj.cells #[.int .i64 (en : Int), .slice (some ⟨wA.heap.size + 1, 0, none⟩) 6 6] 26)) (wA.heap.size + 1) (by simp)
                have HRD5 : Hid (Rd w w5 bs.length) := HRDR.out.low hb5 HRDR.out.lt
                have hrl := HRDR.out.lt
                have hcl6 : (i64s (cs.map Nat.cast)).length = 6 := by rw [i64s_length, List.length_map]; exact HCL.out
                have HOVA : Hid (OwnV wA w2.heap.size 3 u6 (i64s (cs.map Nat.cast))) := HOV.out
                obtain ⟨ca, cc, hce, -, hcm, hcx⟩ := HOV.out.sl
                rw [hcl6] at hce
                obtain ⟨cb, co, hca, hcb, -⟩ := hcx (by intro e; rw [e] at hcl6; simp at hcl6)
                subst hca
                subst hce
                have HCN : Hid (∀ W, Fr (wA.heap.size + 1) (wA.heap.size + 1) (wA.heap.size + 2) w5 W → ∀ t, t < 6 → W.cell? ⟨cb, co + t, none⟩ = some (.int .i64 (cs.getD t 0 : Int))) := fun W hW t ht => by
                  have hsl := HOVA.out.of_block (w' := W) fun k hk hlt => ((hW.block k (by omega) (by omega) (by omega)).trans (hb5.block k hlt))
                  obtain ⟨ca', cc', hce', -, -, hcx'⟩ := hsl.sl
                  simp only [Value.slice.injEq] at hce'
                  obtain ⟨hc1', -, -⟩ := hce'
                  obtain ⟨cb', co', hca', -, hcell'⟩ := hcx' (by intro e; rw [e] at hcl6; simp at hcl6)
                  rw [hca'] at hc1'
                  simp only [Option.some.injEq, Addr.mk.injEq, and_true] at hc1'
                  obtain ⟨rfl, rfl⟩ := hc1'
                  have hct := hcell' t (by omega)
                  rw [hct]
                  have htc : t < cs.length := by have := HCL.out; omega
                  simp [i64s, List.getD, List.getElem?_eq_getElem htc]
                have HB5 : Hid (Below w.heap.size w w5) := HRD5.out.below
                have HW5 : Hid (w5 = (wA.alloc (Obj.cells #[.int .i64 (en : Int), .slice (some ⟨wA.heap.size + 1, 0, none⟩) 6 6] 26)).alloc (Obj.cells #[.slice none 0 0, .slice none 0 0, .slice none 0 0, .slice none 0 0, .slice none 0 0, .slice none 0 0] 65)) := hw5
                clear hcx hcm hb5 hw5 hcl6
                have hcw : a + 2 ≤ bs.length := by omega
                go_wp2_with (go_at_call 28; refine (Calls.mono HNUM.out ?_); rintro e wz ⟨rfl, hz⟩; subst wz)
                rw [← HW5.out]
                clear hmk D0 D1 HNUM
                go_loopw [4, 10] (fun at_ x wr => ∃ (t aa : Nat) (T : List (List (List Int))) (vs : List Value), t ≤ 6 ∧ x = .int .i64 t ∧ tabsTo bs cs m (a + 2) t = some (T, aa) ∧ at_ = .int .i64 aa ∧ aa ≤ bs.length ∧ Rt wr (wA.heap.size + 1) (wA.heap.size + 2) vs T ∧ Fr (wA.heap.size + 1) (wA.heap.size + 1) (wA.heap.size + 2) w5 wr) (fun _ x _ => 6 - (intOf x).toNat)
                case atStart => exact ⟨0, a + 2, [], _, by omega, rfl, rfl, by simp, hcw, HRT5.out, Fr.refl _ _ _ _⟩
                case round =>
                  obtain ⟨t, aa, T, vs, ht6, rfl, htt, rfl, haal, hrt, hfr⟩ := hrel
                  have HTT : Hid (tabsTo bs cs m (a + 2) t = some (T, aa)) := htt
                  have HTL : Hid (T.length = t) := tabsTo_len htt
                  have HRT : Hid (Rt wr (wA.heap.size + 1) (wA.heap.size + 2) vs T) := hrt
                  have HFR : Hid (Fr (wA.heap.size + 1) (wA.heap.size + 1) (wA.heap.size + 2) w5 wr) := hfr
                  clear htt hrt hfr
                  by_cases hlt : t < 6
                  · have hd6 : decide ((t : Int) < 6) = true := by rw [decide_eq_true_eq]; omega
                    have hti : (t : Int) < 6 := by omega
                    have hn16 : cs.getD t 0 < 65536 := by
                      by_cases hi : t < cs.length
                      · simp only [List.getD, List.getElem?_eq_getElem hi, Option.getD_some]
                        exact HC16.out _ (List.getElem_mem _)
                      · simp [List.getD, List.getElem?_eq_none (by omega : cs.length ≤ t)]
                    have HCT : Hid (∀ W, Fr (wA.heap.size + 1) (wA.heap.size + 1) (wA.heap.size + 2) w5 W → W.cell? ⟨cb, co + t, none⟩ = some (.int .i64 (cs.getD t 0 : Int))) := fun W hW => HCN.out W hW t hlt
                    obtain ⟨n, hn⟩ : ∃ n, n = cs.getD t 0 := ⟨_, rfl⟩
                    have HNE : Hid (n = cs.getD t 0) := hn
                    rw [← hn] at hn16 HCT
                    have HCR : Hid (Cur wr (wA.heap.size + 1) (wA.heap.size + 2) wr.heap.size vs T (.slice none 0 0) [] []) := HRT.out.cur (by have := HTL.out; omega)
                    obtain ⟨wo, rfl⟩ : ∃ wo, wo = wr := ⟨_, rfl⟩
                    clear hn HRT
                    go_wp2_with fail
                    go_loopw [4, 11] (fun at_ x wr => ∃ (k ab : Nat) (rows : List (List Int)) (vs : List Value) (v : Value) (us : List Value), k ≤ n ∧ x = .int .i64 k ∧ rowsTo bs t m aa k = some (rows, ab) ∧ at_ = .int .i64 ab ∧ ab ≤ bs.length ∧ Cur wr (wA.heap.size + 1) (wA.heap.size + 2) wo.heap.size vs T v us rows ∧ Fr (wA.heap.size + 1) (wA.heap.size + 1) (wA.heap.size + 2) w5 wr) (fun _ x _ => n - (intOf x).toNat)
                    case atStart => exact ⟨0, aa, [], _, _, _, by omega, rfl, rfl, rfl, haal, HCR.out, HFR.out⟩
                    case round =>
                      obtain ⟨k, ab, rows, vs, v, us, hk, rfl, hrw, rfl, habl, hcr, hfr⟩ := hrel
                      have HRW : Hid (rowsTo bs t m aa k = some (rows, ab)) := hrw
                      have HC : Hid (Cur wr (wA.heap.size + 1) (wA.heap.size + 2) wo.heap.size vs T v us rows) := hcr
                      have HFS : Hid (Fr (wA.heap.size + 1) (wA.heap.size + 1) (wA.heap.size + 2) w5 wr) := hfr
                      have hcc := HCT.out wr hfr
                      have HRDS : Hid (Rd w wr bs.length) := HRD5.out.fr hfr (by omega) (by omega)
                      clear hrw hcr hfr HCR
                      by_cases hkn : k < n
                      · have hdk : decide ((k : Int) < (n : Int)) = true := by rw [decide_eq_true_eq]; omega
                        have h6c : colsR t ≤ 6 := by unfold colsR; split <;> omega
                        have HCL2 : Hid (∀ W, Calls Try.prog 22 #[.int .i64 (t : Int)] W fun e w' => e = .returned (.int .i64 (colsR t : Int)) ∧ w' = W) := fun W => by
                          have := refColumns_any (t : Int) W
                          rw [colsI_nat] at this
                          exact this
                        obtain ⟨wp, rfl⟩ : ∃ wp, wp = wr := ⟨_, rfl⟩
                        have hsp := HC.out.top
                        have hlohi := HC.out.lohi
                        go_wp2_with fail
                        go_loopw [4, 12, 13] (fun at_ rv x wr => ∃ (q ac : Nat) (l : List Int), q ≤ colsR t ∧ x = .int .i64 q ∧ rowTo bs t m ab q = some (l, ac) ∧ at_ = .int .i64 ac ∧ ac ≤ bs.length ∧ OwnV wr wp.heap.size 3 rv (i64s l) ∧ Below wp.heap.size wp wr) (fun _ _ x _ => colsR t - (intOf x).toNat)
                        case atStart => exact ⟨0, ab, [], by omega, rfl, rfl, rfl, habl, OwnV.nil _ _ _, Below.refl _ _⟩
                        case round =>
                          obtain ⟨q, ac, l, hq, rfl, hrt, rfl, hacl, hov, hbl⟩ := hrel
                          have HRT2 : Hid (rowTo bs t m ab q = some (l, ac)) := hrt
                          have HLL : Hid (l.length = q) := rowTo_len hrt
                          have HOV2 : Hid (OwnV wr wp.heap.size 3 u12 (i64s l)) := hov
                          have HBL2 : Hid (Below wp.heap.size wp wr) := hbl
                          have HRD6 : Hid (Rd w wr bs.length) := HRDS.out.low hbl (by omega)
                          have HBW6 : Hid (Below w.heap.size w wr) := HRD6.out.below
                          have hs6 := hbl.size
                          clear hrt hov hbl
                          by_cases hqc : q < colsR t
                          · have hdq : decide ((q : Int) < (colsR t : Int)) = true := by rw [decide_eq_true_eq]; omega
                            have D0 := cell_later HC0.out HBW6.out
                            have hw := widR_cases t q m
                            have HWD : Hid (∀ W, Calls Try.prog 29 #[.int .i64 (t : Int), .int .i64 (q : Int), .int .i64 (m : Int)] W fun e w' => e = .returned (.int .i64 (widR t q m : Int)) ∧ w' = W) := fun W => refWidth_any t q m (by omega) W
                            have HSS : Hid (bs.length < ac + widR t q m → readR bs = (Tabs.nil, bs.length, 1)) := fun h => by
                              have e1 := rowTo_short HRT2.out hqc h
                              have e2 := rowsTo_short HRW.out hkn e1
                              rw [HNE.out] at e2
                              have e3 := tabsTo_short HTT.out hlt e2
                              exact HRN.out (by rw [HTD.out, e3])
                            have HNX : Hid (¬ bs.length < ac + widR t q m → rowTo bs t m ab (q + 1) = some (l ++ [(numAt bs ac (widR t q m) : Int)], ac + widR t q m)) := fun h => rowTo_next HRT2.out h
                            have HNM : Hid (¬ bs.length < ac + widR t q m → Calls Try.prog 28 #[.slice (some ⟨bb, boff, none⟩) bs.length c, .int .i64 (ac : Int), .int .i64 (widR t q m : Int)] wr fun e w' => e = .returned (.int .u64 (numAt bs ac (widR t q m) : Int)) ∧ w' = wr) := fun h => refNum_any (HV.out wr HBW6.out) ac _ (by omega) (by omega) (by omega)
                            have hnl : numAt bs ac (widR t q m) < 4294967296 := by
                              have := num_lt bs ac (widR t q m)
                              rcases hw with e | e <;> rw [e] at this ⊢ <;> omega
                            have HQC : Hid (∀ W, Calls Try.prog 22 #[.int .i64 (t : Int)] W fun e w' => e = .returned (.int .i64 (colsR t : Int)) ∧ w' = W) := HCL2.out
                            generalize widR t q m = wd at *
                            generalize numAt bs ac wd = x at *
                            generalize colsR t = cols at *
                            by_cases hsh : bs.length < ac + wd
                            · have HE : Hid (readR bs = (Tabs.nil, bs.length, 1)) := HSS.out hsh
                              obtain ⟨f0, f1, f2, f3⟩ := box4 HRD6.out.res
                              obtain ⟨s0, s1, s2, s3⟩ := box4 HRD6.out.sho
                              have z0 := melt2 HRD6.out.res 0
                              have z1 := melt2 HRD6.out.res 1
                              have z2 := melt2 HRD6.out.res 2
                              have z3 := melt2 HRD6.out.res 3
                              go_wp2_with (first
                                | (go_at_call 22; refine (HQC.out _).mono ?_; rintro e wz ⟨rfl, hz⟩; subst wz)
                                | (go_at_call 29; refine (HWD.out _).mono ?_; rintro e wz ⟨rfl, hz⟩; subst wz))
                              obtain ⟨q0, q1, q2, q3, q4, -⟩ := res4 HRD6.out.res (.int .i64 0) (.slice none 0 0) (.int .i64 (bs.length : Int)) (.int .i64 1) _ rfl
                              exact bodyPost_ret (v := .agg #[.int .i64 0, .slice none 0 0, .int .i64 (bs.length : Int), .int .i64 1]) (by simp [results, Try.results10, go_sem, q1, q2, q3, q4]) rfl ⟨GotPt.err HE.out _ _ _ rfl rfl, HRD6.out.below.trans (q0.below (Nat.le_refl _) HRD6.out.below.size)⟩
                            · have HE : Hid (rowTo bs t m ab (q + 1) = some (l ++ [(x : Int)], ac + wd)) := HNX.out hsh
                              have HNUM : Hid _ := HNM.out hsh
                              have hb7 : Below wr.heap.size wr (wr.alloc (Obj.cells #[.int .i64 (x : Int)] 3)) := (Below.refl _ _).alloc (Nat.le_refl _) _
                              have HO7 : Hid (OwnV (wr.alloc (Obj.cells #[.int .i64 (x : Int)] 3)) wp.heap.size 3 u12 (i64s l)) := HOV2.out.later hb7
                              have hil : (i64s l).length = q := by rw [i64s_length]; exact HLL.out
                              have hac2 : ac + wd ≤ bs.length := by omega
                              go_wp2_with (first
                                | (go_at_call 22; refine (HQC.out _).mono ?_; rintro e wz ⟨rfl, hz⟩; subst wz)
                                | (go_at_call 29; refine (HWD.out _).mono ?_; rintro e wz ⟨rfl, hz⟩; subst wz)
                                | (go_at_call 28; refine (Calls.mono HNUM.out ?_); rintro e wz ⟨rfl, hz⟩; subst wz)
                                | (at_builtin; go_must (refine wpList_append_at rfl _ _ _ _ rfl wp.heap.size 3 (.int .i64 0) 8 Try.underlying62 Try.infoInt rfl rfl rfl HO7.out (one_src0 Try.underlying62 _ _ _ _ (by simp) rfl) (by rw [hil]; unfold maxLen; omega) (by rw [hil]; omega) (by simp; omega) ?_)))
                              intro v8 w8 ho8 hg8 _ _
                              have HB8 : Hid (Below wp.heap.size wp w8) := HBL2.out.trans ((hb7.mono hs6).grown hg8 (by simp; omega) (fun j hj => (HO7.out.block j hj).1))
                              have HO8 : Hid (OwnV w8 wp.heap.size 3 v8 (i64s (l ++ [(x : Int)]))) := by
                                have := ho8
                                simp only [i64s, List.map_append, List.map_cons, List.map_nil] at this ⊢
                                exact this
                              clear ho8 hg8 hb7 HO7 HNUM
                              go_wp2_with fail
                              go_roundw
                              case rel => exact ⟨q + 1, _, _, by omega, by go_num, HE.out, by go_num, hac2, HO8.out, HB8.out⟩
                              case measure => simp [intOf]; omega
                          · have hdq : decide ((q : Int) < (colsR t : Int)) = false := by rw [decide_eq_false_iff_not]; omega
                            have hqe : q = colsR t := by omega
                            have HRW2 : Hid (rowsTo bs t m aa (k + 1) = some (rows ++ [l], ac)) := rowsTo_next HRW.out (by rw [← hqe]; exact HRT2.out)
                            have HC6 : Hid (Cur wr (wA.heap.size + 1) (wA.heap.size + 2) wo.heap.size vs T v us rows) := HC.out.keep hs6 fun j _ hlt => HBL2.out.block j hlt
                            have HFS6 : Hid (Fr (wA.heap.size + 1) (wA.heap.size + 1) (wA.heap.size + 2) w5 wr) := HFS.out.trans (Fr.low HBL2.out (by omega))
                            have HOU : Hid (OwnV wr wo.heap.size 3 u12 (i64s l)) := HOV2.out.low hsp
                            obtain ⟨rx, rc, hre, -⟩ := HOU.out.sl
                            rw [i64s_length, HLL.out] at hre
                            subst hre
                            have hkl : us.length = k := by rw [HC6.out.tb.len]; exact (rows_was HRW.out).1
                            obtain ⟨va, vc, hve, -⟩ := HC6.out.tb.own.sl
                            have ho6 := (HFS6.out.block wA.heap.size (by omega) (by omega) (by omega)).trans HO5.out
                            obtain ⟨d0, d1⟩ := box2 ho6
                            have htl := HTL.out
                            have hgc : wr.cell? ⟨wA.heap.size + 1, t, none⟩ = some v := by
                              have h1 := HC6.out.cur
                              rw [htl] at h1
                              simp [World.cell?, HC6.out.gb, h1]
                            rw [hkl] at hve
                            have HKL : Hid (us.length = k) := hkl
                            have HTL2 : Hid (T.length = t) := htl
                            subst hve
                            clear ho6 htl hkl hqe
                            have hbd : Below wr.heap.size wr (wr.alloc (Obj.cells #[.slice rx q rc] 62)).drew := Below.drewN ((Below.refl _ _).alloc (Nat.le_refl _) _) 1
                            have HSRC : Hid (Src Try.prog 1 65 (.slice (some ⟨wr.heap.size, 0, none⟩) 1 1) 1 [.slice rx q rc] (wr.alloc (Obj.cells #[.slice rx q rc] 62)).drew) := one_src0 Try.underlying65 wr.drew (.slice rx q rc) 62 wr.heap.size rfl rfl
                            have HC7 : Hid (Cur (wr.alloc (Obj.cells #[.slice rx q rc] 62)).drew (wA.heap.size + 1) (wA.heap.size + 2) wo.heap.size vs T (.slice va k vc) us rows) := HC6.out.keep hbd.size fun j _ hlt => hbd.block j hlt
                            have HO7 : Hid (OwnV (wr.alloc (Obj.cells #[.slice rx q rc] 62)).drew wo.heap.size 3 (.slice rx q rc) (i64s l)) := HOU.out.later hbd
                            have HFS7 : Hid (Fr (wA.heap.size + 1) (wA.heap.size + 1) (wA.heap.size + 2) w5 (wr.alloc (Obj.cells #[.slice rx q rc] 62)).drew) := HFS6.out.trans (Fr.low hbd (by omega))
                            have htop6 := HC7.out.top
                            have HS7 : Hid (∀ W v', (wr.alloc (Obj.cells #[.slice rx q rc] 62)).drew.grownBy W (Value.slice va k vc).ownBlock → OwnV W wo.heap.size 62 v' (us ++ [.slice rx q rc]) → Cur (W.setCell ⟨wA.heap.size + 1, t, none⟩ v') (wA.heap.size + 1) (wA.heap.size + 2) wo.heap.size (vs.set t v') T v' (us ++ [.slice rx q rc]) (rows ++ [l]) ∧ W.heap[wA.heap.size + 1]? = some (.cells vs.toArray 65 (0, 0)) ∧ W.cell? ⟨wA.heap.size + 1, t, none⟩ = some (.slice va k vc) ∧ Fr (wA.heap.size + 1) (wA.heap.size + 1) (wA.heap.size + 2) w5 (W.setCell ⟨wA.heap.size + 1, t, none⟩ v') ∧ W.cell? ⟨wA.heap.size, 1, none⟩ = some (.slice (some ⟨wA.heap.size + 1, 0, none⟩) 6 6)) := fun W v' hg ho => by
                              obtain ⟨c1, c2⟩ := HC7.out.app HO7.out hg ho
                              rw [HTL2.out] at c1
                              have hlow : Below wo.heap.size (wr.alloc (Obj.cells #[.slice rx q rc] 62)).drew W := (Below.refl _ _).grown hg htop6 fun j hj => (HC7.out.tb.own.block j hj).1
                              refine ⟨c1, c2, ?_, (HFS7.out.trans (Fr.low hlow (by omega))).trans (Fr.set _ _ _ _ _ _), ?_⟩
                              · have h1 := HC7.out.cur
                                rw [HTL2.out] at h1
                                simp [World.cell?, c2, h1]
                              · rw [← d1]
                                exact World.cell?_of_block ((hlow.block _ (by show wA.heap.size < _; omega)).trans (hbd.block _ (by show wA.heap.size < _; omega)))
                            have hba : Below wr.heap.size wr (wr.alloc (Obj.cells #[.slice rx q rc] 62)) := (Below.refl _ _).alloc (Nat.le_refl _) _
                            have hgc2 := cell_later hgc hba
                            have d12 := cell_later d1 hba
                            clear hbd hba HC6 HOU HOV2
                            go_wp2_with (go_at_call 22; refine (HCL2.out _).mono ?_; rintro e wz ⟨rfl, hz⟩; subst wz)
                            go_region_law (refine step_append_at rfl (.tmp 130) (.tmp 132) 65 65 rfl wo.heap.size 62 (.slice none 0 0) 24 Try.underlying65 Try.infoRow rfl (by simp [Act.eval, Act.put]) (by simp [Act.eval, Act.put]) HC7.out.tb.own HSRC.out (by rw [HKL.out]; unfold maxLen; omega) (by rw [HKL.out]; omega) htop6 ?_; intro v8 w8 ho8 hg8; obtain ⟨c1, c2, c3, c5, c6⟩ := HS7.out w8 v8 hg8 ho8; have z8 := melt2 c2 t; have HX8 : Hid (Cur (w8.setCell ⟨wA.heap.size + 1, t, none⟩ v8) (wA.heap.size + 1) (wA.heap.size + 2) wo.heap.size (vs.set t v8) T v8 (us ++ [.slice rx q rc]) (rows ++ [l]) ∧ Fr (wA.heap.size + 1) (wA.heap.size + 1) (wA.heap.size + 2) w5 (w8.setCell ⟨wA.heap.size + 1, t, none⟩ v8)) := ⟨c1, c5⟩; obtain ⟨y8, b8, e8, -⟩ := ho8.sl; have hl8 : (us ++ [Value.slice rx q rc]).length = k + 1 := (by rw [List.length_append, HKL.out]; rfl); rw [hl8] at e8; subst e8; clear c1 c2 c5 ho8 hg8 hl8)
                            all_goals
                              go_wp2_with fail
                              go_roundw
                              case rel => exact ⟨k + 1, _, _, _, _, _, by omega, by go_num, HRW2.out, rfl, hacl, HX8.out.1, HX8.out.2⟩
                              case measure => simp [intOf]; omega
                      · have hkn' : k = n := by omega
                        have HTT2 : Hid (tabsTo bs cs m (a + 2) (t + 1) = some (T ++ [rows], ab)) := tabsTo_next HTT.out (by rw [← HNE.out, ← hkn']; exact HRW.out)
                        have hdk : decide ((k : Int) < (n : Int)) = false := by rw [decide_eq_false_iff_not]; omega
                        clear hkn'
                        go_wp2_with fail
                        go_roundw
                        case rel => exact ⟨t + 1, _, _, _, by omega, by go_num, HTT2.out, rfl, habl, HC.out.rt, HFS.out⟩
                        case measure => simp [intOf]; omega
                  · have hd6 : decide ((t : Int) < 6) = false := by rw [decide_eq_false_iff_not]; omega
                    have ht6' : t = 6 := by omega
                    subst ht6'
                    have HRDS : Hid (Rd w wr bs.length) := HRD5.out.fr HFR.out (by omega) (by omega)
                    have HYS : Hid (readR bs = if aa < bs.length then (Tabs.nil, aa, 2) else (⟨(en : Int), T⟩, 0, 0)) := HRY.out _ _ (by rw [HTD.out, HTT.out])
                    have ho6 := (HFR.out.block wA.heap.size (by omega) (by omega) (by omega)).trans HO5.out
                    obtain ⟨d0, d1⟩ := box2 ho6
                    obtain ⟨f0, f1, f2, f3⟩ := box4 HRDS.out.res
                    have z0 := melt2 HRDS.out.res 0
                    have z1 := melt2 HRDS.out.res 1
                    have z2 := melt2 HRDS.out.res 2
                    have z3 := melt2 HRDS.out.res 3
                    clear ho6
                    by_cases hae : aa < bs.length
                    · have HE : Hid (readR bs = (Tabs.nil, aa, 2)) := by show _ = _; rw [HYS.out, if_pos hae]
                      go_wp2_with fail
                      obtain ⟨q0, q1, q2, q3, q4, -⟩ := res4 HRDS.out.res (.int .i64 0) (.slice none 0 0) (.int .i64 (aa : Int)) (.int .i64 2) _ rfl
                      exact bodyPost_ret (v := .agg #[.int .i64 0, .slice none 0 0, .int .i64 (aa : Int), .int .i64 2]) (by simp [results, Try.results10, go_sem, q1, q2, q3, q4]) rfl ⟨GotPt.err HE.out _ _ _ rfl rfl, HRDS.out.below.trans (q0.below (Nat.le_refl _) HRDS.out.below.size)⟩
                    · have HE : Hid (readR bs = (⟨(en : Int), T⟩, 0, 0)) := by show _ = _; rw [HYS.out, if_neg hae]
                      go_wp2_with fail
                      obtain ⟨q0, q1, q2, q3, q4, q5⟩ := res4 HRDS.out.res (.int .i64 (en : Int)) (.slice (some ⟨wA.heap.size + 1, 0, none⟩) 6 6) (.int .i64 0) (.int .i64 0) _ rfl
                      have hin := (HRT.out.keep (Nat.le_of_eq q5.symm) fun k hk hlt => q0.block k hlt (by omega)).fin HTL.out
                      exact bodyPost_ret (v := .agg #[.int .i64 (en : Int), .slice (some ⟨wA.heap.size + 1, 0, none⟩) 6 6, .int .i64 0, .int .i64 0]) (by simp [results, Try.results10, go_sem, q1, q2, q3, q4]) rfl ⟨⟨_, by rw [HE.out]; rfl, by rw [HE.out]; exact hin⟩, HRDS.out.below.trans (q0.below (Nat.le_refl _) HRDS.out.below.size)⟩

end Go.Proofs.Ytjmjpdamhondkaa
