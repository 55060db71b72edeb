
/- Blobs of the references. -/
import Derived.Test.YtlcfbnbbdpgjiaaRows
import Derived.Test.YtlcfbnbbdpgjiaaBlobs
import Derived.Test.YtlcfbnbbdpgjiaaRefPack
namespace Go.Proofs.Ytlcfbnbbdpgjiaa
set_option linter.unusedVariables false
set_option linter.unusedSimpArgs false
open Go.RowKit Go.Maps

/-- A call of a Go function of one argument as one step of a region that draws. -/
theorem step_call1 {P : Program} {ops : Array Oper} {o : Oper} {a : Act} {w : World} {K : Act → World → Prop} {Q : Exit → Act → World → Prop} {E : Prop} (hg : o.guard = none) (f : FuncId) (x : Operand) (t : TypeId)
    (ho : o.op = .call { callee := .value (.func f), args := #[x], argTypes := #[t] }) {v : Value} (hx : a.eval x = v) (hrun : ∀ w, (callFunc f #[v]).run P w = .ok (.enter f #[v]) w) {R : Ending → World → Prop} (hc : Calls P f #[v] w R)
    (h : ∀ e w', R e w' → ∃ r, e = .returned r ∧ K (a.put o.dst r) w') : if Region.wanted o (yielded ops a.tmps) = true then Oper.wp P o a w K Q else E := by
  have hw : Region.wanted o (yielded ops a.tmps) = true := by simp [Region.wanted, hg]
  rw [if_pos hw]
  have he : (execOp a.eval o).run P w = .ok (.enter f #[v]) w := by
    have hv : a.eval (.func f) = .func (.func f) #[] #[] := rfl
    unfold execOp
    simp [ho, resolve, invoke, hv, Deferred.ofValue, hx, hrun, Result.andThen]
  unfold Oper.wp
  rw [he, Oper.upon_enter]
  refine hc.mono ?_
  intro e w' hR
  obtain ⟨r, rfl, hk⟩ := h e w' hR
  exact hk

theorem run_enterPack (v : Value) (w : World) : (callFunc 27 #[v]).run Try.prog w = .ok (.enter 27 #[v]) w := by kernel_rfl

set_option maxRecDepth 100000 in
set_option maxHeartbeats 8000000 in
theorem refBlobs_ok (b off cap : Nat) (ls : List (List UInt8)) (vs : List Value) (hvl : vs.length = ls.length) (w : World) (hbl : b < w.heap.size) (hn : ls.length ≤ 60) (hz : ∀ l ∈ ls, l.length ≤ 300) (hc : ∀ i (h : i < vs.length), w.cell? ⟨b, off + i, none⟩ = some vs[i])
    (hbs : ∀ i (h : i < ls.length) (g : i < vs.length), Bs w vs[i] ls[i]) :
    Calls Try.prog 20 #[.slice (some ⟨b, off, none⟩) ls.length cap] w fun e w' => ∃ bv av, e = .returned (.agg #[bv, av, .int .i64 0]) ∧ Bs w' bv (pall encB ls).B ∧ Is w' av (ints (pall encB ls).ats) ∧ Below w.heap.size w w' := by
  have HC : Hid (∀ i (h : i < vs.length), w.cell? ⟨b, off + i, none⟩ = some vs[i]) := hc
  have HV : Hid (∀ i (h : i < ls.length) (g : i < vs.length), Bs w vs[i] ls[i]) := hbs
  have HZ : Hid (∀ i (h : i < ls.length), ls[i].length ≤ 300) := fun i h => hz _ (List.getElem_mem _)
  have HFIT : Hid (∀ k, k ≤ ls.length → (pall encB (ls.take k)).B.length ≤ 65536) := blobs_fit ls hn hz
  have HG : Hid (∀ k, Good (pall encB (ls.take k)) (ls.take k)) := fun k => good_all encB (fun s _ => by have := (pkL_le s.length).1; simp [encB]; omega) _
  clear hc hz hbs
  have HR0 : Hid _ := rf_start w
  have HR1 : Hid (Rf w (((w.alloc (Obj.cells #[.slice none 0 0, .slice none 0 0, .int .i64 0] 33)).alloc (Obj.cells #[.slice none 0 0, .slice none 0 0, .int .i64 0] 33)).alloc (Obj.cells #[.int .u8 0] 5)) w.heap.size w.heap.size (w.heap.size + 1) (.slice none 0 0) (.slice none 0 0) (.slice none 0 0) (.slice none 0 0) [] []) := HR0.out.later ((Below.refl _ _).alloc (Nat.le_refl _) _)
  go_enter Try.func20, Try.ntmps20
  go_wp2_with (at_builtin; go_must (refine wpList_append_at rfl _ _ _ _ rfl w.heap.size 5 (.int .u8 0) 1 Try.underlying27 Try.infoU8 rfl rfl rfl HR1.out.ownB (one_src0 Try.underlying27 _ _ _ _ (by simp) rfl) (by simp [u8s, maxLen]) (by simp [u8s]) HR1.out.top ?_))
  intro v1 w1 ho1 hg1 _ _
  have HR2 : Hid (Rf w w1 w.heap.size w.heap.size (w.heap.size + 1) (.slice none 0 0) (.slice none 0 0) v1 (.slice none 0 0) [0] []) := HR1.out.appB (ys := [0]) hg1 ho1
  obtain ⟨⟨a1, c1, e1, hc1⟩, -⟩ := HR2.out.shapes
  have e1' : v1 = .slice a1 1 c1 := e1
  clear e1
  subst e1'
  have HR3 : Hid (Rf w (w1.setCell ⟨w.heap.size + 1, 0, none⟩ (.slice a1 1 c1)) w.heap.size w.heap.size (w.heap.size + 1) (.slice a1 1 c1) (.slice none 0 0) (.slice a1 1 c1) (.slice none 0 0) [0] []) := HR2.out.setB
  obtain ⟨d0, d1, d2, d3, d4⟩ := HR2.out.cells
  clear ho1 hg1
  go_wp2_with fail
  go_loopw [4] (fun i wq => ∃ (k : Nat) (bv av : Value), k ≤ ls.length ∧ i = .int .i64 k ∧ Rf w wq w.heap.size w.heap.size (w.heap.size + 1) bv av bv av (pall encB (ls.take k)).B (ints (pall encB (ls.take k)).ats)) (fun i _ => ls.length - (intOf i).toNat)
  case atStart => exact ⟨0, _, _, Nat.zero_le _, rfl, HR3.out⟩
  case round =>
    obtain ⟨i, bv, av, hi, rfl, hr⟩ := hrel
    have HR : Hid (Rf w wr w.heap.size w.heap.size (w.heap.size + 1) bv av bv av (pall encB (ls.take i)).B (ints (pall encB (ls.take i)).ats)) := hr
    clear hr HR0 HR1 HR2 HR3 d0 d1 d2 d3 d4
    have HL : Hid ((pall encB (ls.take i)).ats.length = i) := by
      show _ = _
      rw [(HG.out i).len]; simp; omega
    obtain ⟨⟨ba, bc, ebv, hbc⟩, ⟨aa, ac, eav, hac1, hac2, hcells⟩⟩ := HR.out.shapes
    rw [ints_length, HL.out] at eav hac1
    subst ebv eav
    have hcs := HR.out.below.size
    by_cases hlt2 : i < ls.length
    · have HE : Hid (pall encB (ls.take (i + 1)) = pstep encB (pall encB (ls.take i)) ls[i]) := pall_succ encB ls i hlt2
      have HGi : Hid (Good (pall encB (ls.take i)) (ls.take i)) := HG.out i
      have hBl : (pall encB (ls.take i)).B.length ≤ 65536 := HFIT.out i hi
      have HBN := HFIT.out (i + 1) hlt2
      rw [HE.out] at HBN
      have HBN' : Hid _ := HBN
      clear HBN
      have hz300 := HZ.out i hlt2
      have HW : Hid (∀ j (h : j < vs.length), wr.cell? ⟨b, off + j, none⟩ = some vs[j]) := fun j h => by
        rw [← HC.out j h]; exact World.cell?_of_block (HR.out.below.block b hbl)
      have HVW : Hid (∀ j (h : j < ls.length) (g : j < vs.length), Bs wr vs[j] ls[j]) := fun j h g => (HV.out j h g).later HR.out.below
      have HTK : Hid (∀ j (h : j < i) (g : j < (ls.take i).length) (g' : j < ls.length), (ls.take i)[j] = ls[j]) := fun j h g g' => by
        rw [List.getElem_take]
      have HTL : Hid ((ls.take i).length = i) := by show _ = _; simp; omega
      have hce := HW.out i (by omega)
      have HVI : Hid (Bs wr vs[i] ls[i]) := HVW.out i hlt2 (by omega)
      have HV0 : Hid (Bs w vs[i] ls[i]) := HV.out i hlt2 (by omega)
      have HCI : Hid (w.cell? ⟨b, off + i, none⟩ = some vs[i]) := HC.out i (by omega)
      obtain ⟨d0, d1, d2, d3, d4⟩ := HR.out.cells
      have HCE : Hid _ := hcells
      clear hcells
      generalize pall encB (ls.take i) = p at *
      generalize ls.take i = li at *
      generalize ls[i] = l at *
      generalize vs[i] = x at *
      obtain ⟨xa, xc, ex, -⟩ := HVI.out
      subst ex
      go_wp2_with fail
      go_loopw [5, 6] (fun a j wq => ∃ jj m nn : Nat, jj ≤ i ∧ j = .int .i64 jj ∧ a = .int .i64 m ∧ wq = wr.drewN nn ∧ Seek li p l jj m) (fun _ j _ => i - (intOf j).toNat)
      case atStart => exact ⟨0, 0, 0, Nat.zero_le _, rfl, rfl, rfl, seek0 _ _ _⟩
      case round =>
        obtain ⟨jj, m, nn, hjj, rfl, rfl, rfl, hseek⟩ := hrel
        have HS : Hid (Seek li p l jj m) := hseek
        clear hseek
        by_cases hm : m = 0
        · subst hm
          by_cases hji : jj < i
          · have hcj := HW.out jj (by omega)
            have HVJ : Hid (Bs wr vs[jj] ls[jj]) := HVW.out jj (by omega) (by omega)
            have htk := HTK.out jj hji (by rw [HTL.out]; exact hji) (by omega)
            have hgl : jj < p.ats.length := by rw [HL.out]; exact hji
            obtain ⟨ab, haa, hac⟩ := HCE.out (by intro e; have := congrArg List.length e; rw [ints_length, HL.out] at this; simp only [List.length_nil] at this; omega)
            subst haa
            have hca := hac jj (by rw [ints_length]; exact hgl)
            rw [ints_get _ _ hgl] at hca
            have HH : Hid (ls[jj] = l → Seek li p l (jj + 1) p.ats[jj]) := fun e => HS.out.hit HGi.out (by rw [HTL.out]; exact hji) hgl (by rw [htk]; exact e)
            have HM : Hid (ls[jj] ≠ l → Seek li p l (jj + 1) 0) := fun e => HS.out.miss (by rw [HTL.out]; exact hji) (by rw [htk]; exact e)
            clear hac htk
            generalize p.ats[jj] = pa at *
            generalize ls[jj] = lj at *
            generalize vs[jj] = xj at *
            obtain ⟨ya, yc, ey, -⟩ := HVJ.out
            subst ey
            by_cases heq : lj = l
            · have HN : Hid (Seek li p l (jj + 1) pa) := HH.out heq
              have heq' := heq.symm
              clear heq
              subst heq'
              have HSM : Hid (∀ z, Calls Try.prog 13 #[.slice ya l.length yc, .slice xa l.length xc] (wr.drewN (nn + z)) fun e w'' => e = .returned (.bool true) ∧ ∃ m, w'' = wr.drewN (nn + m)) := fun z => by
                have := quiet_on_draws (same_any (HVJ.out.drewN (nn + z)) (HVI.out.drewN (nn + z)))
                rwa [decide_eq_true rfl] at this
              go_wp2_with fail
              go_quiet ((go_at_call 13; go_must (exact HSM.out _)))
              go_wp2_with fail
              go_roundw
              case rel => exact ⟨jj + 1, pa, nn + nq, by omega, by go_num, rfl, rfl, HN.out⟩
              case measure => simp [intOf]; omega
            · have HN : Hid (Seek li p l (jj + 1) 0) := HM.out heq
              have HSM : Hid (∀ z, Calls Try.prog 13 #[.slice ya lj.length yc, .slice xa l.length xc] (wr.drewN (nn + z)) fun e w'' => e = .returned (.bool false) ∧ ∃ m, w'' = wr.drewN (nn + m)) := fun z => by
                have := quiet_on_draws (same_any (HVJ.out.drewN (nn + z)) (HVI.out.drewN (nn + z)))
                rwa [decide_eq_false heq] at this
              go_wp2_with fail
              go_quiet ((go_at_call 13; go_must (exact HSM.out _)))
              go_wp2_with fail
              go_roundw
              case rel => exact ⟨jj + 1, 0, nn + nq, by omega, by go_num, rfl, rfl, HN.out⟩
              case measure => simp [intOf]; omega
          · by_cases hl0 : l.length = 0
            · have hle : l = [] := List.eq_nil_of_length_eq_zero hl0
              have HR1 : Hid (Rf w ((wr.drewN nn).alloc (Obj.cells #[.int .i64 (0 : Int)] 3)) w.heap.size w.heap.size (w.heap.size + 1) (.slice ba p.B.length bc) (.slice aa i ac) (.slice ba p.B.length bc) (.slice aa i ac) p.B (ints p.ats)) := (HR.out.drewN nn).later ((Below.refl _ _).alloc (Nat.le_refl _) _)
              have HFIN : Hid ((pall encB (ls.take (i + 1))).B = p.B ∧ ints (pall encB (ls.take (i + 1))).ats = ints p.ats ++ [(0 : Int)]) := by
                show _ ∧ _
                have hnil := HGi.out.nil
                rw [HE.out, hle]; exact ⟨by simp [pstep, hnil], by rw [pstep_ats, ints_snoc]; simp [atOf, hnil]⟩
              clear hle
              go_wp2_with (at_builtin; go_must (refine wpList_append_at rfl _ _ _ _ rfl w.heap.size 3 (.int .i64 0) 8 Try.underlying28 Try.infoInt rfl rfl rfl HR1.out.ownA (one_src0 Try.underlying28 _ _ _ _ (by simp) rfl) (by rw [i64s_length, ints_length, HL.out]; unfold maxLen; omega) (by rw [i64s_length, ints_length, HL.out]; omega) HR1.out.top ?_))
              intro v3 w3 ho3 hg3 _ _
              have HR4 : Hid (Rf w w3 w.heap.size w.heap.size (w.heap.size + 1) (.slice ba p.B.length bc) (.slice aa i ac) (.slice ba p.B.length bc) v3 p.B (ints p.ats ++ [(0 : Int)])) := HR1.out.appA hg3 ho3
              obtain ⟨-, ⟨a3, c3, e3, -⟩⟩ := HR4.out.shapes
              obtain ⟨l3, hl3⟩ : ∃ l, l = (ints p.ats ++ [(0 : Int)]).length := ⟨_, rfl⟩
              rw [← hl3] at e3
              subst e3
              have HR5 : Hid (Rf w (w3.setCell ⟨w.heap.size + 1, 1, none⟩ (.slice a3 l3 c3)) w.heap.size w.heap.size (w.heap.size + 1) (.slice ba p.B.length bc) (.slice a3 l3 c3) (.slice ba p.B.length bc) (.slice a3 l3 c3) p.B (ints p.ats ++ [(0 : Int)])) := HR4.out.setA
              obtain ⟨g0, g1, g2, g3, g4⟩ := HR4.out.cells
              obtain ⟨y0, y1, y2, y3, y4⟩ := HR5.out.cells
              clear ho3 hg3 hl3
              go_wp2_with fail
              go_roundw
              case rel => exact ⟨i + 1, _, _, by omega, by go_num, by rw [HFIN.out.1, HFIN.out.2]; exact HR5.out⟩
              case measure => simp [intOf]; omega
            · have hnone := HS.out.none HGi.out (by rw [HTL.out]; omega) (by intro e; exact hl0 (by rw [e]; rfl))
              obtain ⟨hB', hat⟩ := pstep_none hnone encB
              have HFIN : Hid ((pall encB (ls.take (i + 1))).B = (p.B ++ pkL l.length ++ l) ∧ ints (pall encB (ls.take (i + 1))).ats = ints p.ats ++ [(p.B.length : Int)]) := by
                show _ ∧ _
                rw [HE.out]; exact ⟨by rw [hB']; simp [encB], by rw [pstep_ats, hat, ints_snoc]⟩
              have HBN3 : Hid ((p.B ++ pkL l.length ++ l).length ≤ 65536) := by
                have := HBN'.out; rw [hB'] at this; show _ ≤ _; simpa [encB] using this
              have HRD : Hid (∀ W, Below wr.heap.size wr W → Rf w W w.heap.size w.heap.size (w.heap.size + 1) (.slice ba p.B.length bc) (.slice aa i ac) (.slice ba p.B.length bc) (.slice aa i ac) p.B (ints p.ats)) := fun W hW => HR.out.later hW
              have hpk4 := (pkL_le l.length).2
              clear hB' hat hnone
              go_wp2_with fail
              go_region_law (first
                | (refine step_append_at rfl (.tmp 63) (.tmp 69) 27 27 rfl w.heap.size 5 (.int .u8 0) 1 Try.underlying27 Try.infoU8 rfl (by simp [Act.eval, Act.put]) (by simp [Act.eval, Act.put]) HRP.out.ownB (HOP.out.src Try.underlying27) (by rw [u8s_length]; unfold maxLen; omega) (by rw [u8s_length]; omega) HRP.out.top ?_
                   intro v1 w2 ho1 hg1
                   have HRa : Hid (Rf w w2 w.heap.size w.heap.size (w.heap.size + 1) (.slice ba p.B.length bc) (.slice aa i ac) v1 (.slice aa i ac) (p.B ++ pkL l.length) (ints p.ats)) := HRP.out.appB hg1 ho1
                   obtain ⟨⟨a1', c1', e1', -⟩, -⟩ := HRa.out.shapes
                   obtain ⟨l1', hl1'⟩ : ∃ l', l' = (p.B ++ pkL l.length).length := ⟨_, rfl⟩
                   rw [← hl1'] at e1'
                   subst e1'
                   obtain ⟨k0, k1, k2, k3, k4⟩ := HRa.out.cells
                   have HRb : Hid (Rf w (w2.setCell ⟨w.heap.size + 1, 0, none⟩ (.slice a1' l1' c1')) w.heap.size w.heap.size (w.heap.size + 1) (.slice a1' l1' c1') (.slice aa i ac) (.slice a1' l1' c1') (.slice aa i ac) (p.B ++ pkL l.length) (ints p.ats)) := HRa.out.setB
                   clear ho1 hg1 hl1')
                | (refine step_call1 rfl 27 (.tmp 68) 3 rfl (by simp [Act.eval, Act.put]) (fun w => run_enterPack _ w) (refPack_any l.length (by omega) (wr.drewN (nn + 1))) ?_
                   rintro e wP ⟨vP, rfl, hoP, hbP⟩
                   refine ⟨vP, rfl, ?_⟩
                   have HRP : Hid (Rf w wP w.heap.size w.heap.size (w.heap.size + 1) (.slice ba p.B.length bc) (.slice aa i ac) (.slice ba p.B.length bc) (.slice aa i ac) p.B (ints p.ats)) := (HRD.out (wr.drewN (nn + 1)) ⟨rfl, rfl, rfl, Nat.le_refl _, fun _ _ => rfl⟩).later hbP
                   have HOP : Hid (Bs wP vP (pkL l.length)) := hoP.bs
                   obtain ⟨m0, m1, m2, m3, m4⟩ := HRP.out.cells
                   clear hoP hbP))
              all_goals
                have HRD2 : Hid (∀ W, Below (w2.setCell ⟨w.heap.size + 1, 0, none⟩ (.slice a1' l1' c1')).heap.size (w2.setCell ⟨w.heap.size + 1, 0, none⟩ (.slice a1' l1' c1')) W → Rf w W w.heap.size w.heap.size (w.heap.size + 1) (.slice a1' l1' c1') (.slice aa i ac) (.slice a1' l1' c1') (.slice aa i ac) (p.B ++ pkL l.length) (ints p.ats)) := fun W hW => HRb.out.later hW
                have HSR2 : Hid (∀ W, Below (w2.setCell ⟨w.heap.size + 1, 0, none⟩ (.slice a1' l1' c1')).heap.size (w2.setCell ⟨w.heap.size + 1, 0, none⟩ (.slice a1' l1' c1')) W → Src Try.prog 1 27 (.slice xa l.length xc) l.length (u8s l) W) := fun W hW => (HV0.out.later (HRb.out.later hW).below).src Try.underlying27
                have hlen2 : (p.B ++ pkL l.length).length = p.B.length + (pkL l.length).length := List.length_append
                have hce2 : (w2.setCell ⟨w.heap.size + 1, 0, none⟩ (.slice a1' l1' c1')).cell? ⟨b, off + i, none⟩ = some (.slice xa l.length xc) := by
                  rw [← HCI.out]; exact World.cell?_of_block (HRb.out.below.block b hbl)
                obtain ⟨n0, n1, n2, n3, n4⟩ := HRb.out.cells
                clear k0 k1 k2 k3 k4 m0 m1 m2 m3 m4 d0 d1 d2 d3 d4 hce
                go_wp2_with fail
                go_region_law (refine step_append_at rfl (.tmp 73) (.tmp 77) 27 27 rfl w.heap.size 5 (.int .u8 0) 1 Try.underlying27 Try.infoU8 rfl (by simp [Act.eval, Act.put]) (by simp [Act.eval, Act.put]) (HRD2.out _ ⟨rfl, rfl, rfl, Nat.le_refl _, fun _ _ => rfl⟩).ownB (HSR2.out _ ⟨rfl, rfl, rfl, Nat.le_refl _, fun _ _ => rfl⟩) (by rw [u8s_length]; unfold maxLen; omega) (by rw [u8s_length]; omega) (HRD2.out _ ⟨rfl, rfl, rfl, Nat.le_refl _, fun _ _ => rfl⟩).top ?_; intro v4 w4 ho4 hg4; have HRd : Hid (Rf w w4 w.heap.size w.heap.size (w.heap.size + 1) (.slice a1' l1' c1') (.slice aa i ac) v4 (.slice aa i ac) (p.B ++ pkL l.length ++ l) (ints p.ats)) := (by refine Rf.appB ?_ hg4 ho4; exact HRD2.out _ ⟨rfl, rfl, rfl, Nat.le_refl _, fun _ _ => rfl⟩); obtain ⟨⟨a4, c4, e4, -⟩, -⟩ := HRd.out.shapes; obtain ⟨l4, hl4⟩ : ∃ l', l' = (p.B ++ pkL l.length ++ l).length := ⟨_, rfl⟩; rw [← hl4] at e4; subst e4; have hl4le : l4 ≤ 65536 := (by rw [hl4]; exact HBN3.out); obtain ⟨o0, o1, o2, o3, o4⟩ := HRd.out.cells; have HRe : Hid (Rf w (w4.setCell ⟨w.heap.size + 1, 0, none⟩ (.slice a4 l4 c4)) w.heap.size w.heap.size (w.heap.size + 1) (.slice a4 l4 c4) (.slice aa i ac) (.slice a4 l4 c4) (.slice aa i ac) (p.B ++ pkL l.length ++ l) (ints p.ats)) := HRd.out.setB; clear ho4 hg4 hl4)
                all_goals
                  have HR1 : Hid (Rf w ((w4.setCell ⟨w.heap.size + 1, 0, none⟩ (.slice a4 l4 c4)).alloc (Obj.cells #[.int .i64 (p.B.length : Int)] 3)) w.heap.size w.heap.size (w.heap.size + 1) (.slice a4 l4 c4) (.slice aa i ac) (.slice a4 l4 c4) (.slice aa i ac) (p.B ++ pkL l.length ++ l) (ints p.ats)) := HRe.out.later ((Below.refl _ _).alloc (Nat.le_refl _) _)
                  obtain ⟨r0, r1, r2, r3, r4⟩ := HRe.out.cells
                  go_wp2_with (at_builtin; go_must (refine wpList_append_at rfl _ _ _ _ rfl w.heap.size 3 (.int .i64 0) 8 Try.underlying28 Try.infoInt rfl rfl rfl HR1.out.ownA (one_src0 Try.underlying28 _ _ _ _ (by simp) rfl) (by rw [i64s_length, ints_length, HL.out]; unfold maxLen; omega) (by rw [i64s_length, ints_length, HL.out]; omega) HR1.out.top ?_))
                  intro v3 w3 ho3 hg3 _ _
                  have HR4 : Hid (Rf w w3 w.heap.size w.heap.size (w.heap.size + 1) (.slice a4 l4 c4) (.slice aa i ac) (.slice a4 l4 c4) v3 (p.B ++ pkL l.length ++ l) (ints p.ats ++ [(p.B.length : Int)])) := HR1.out.appA hg3 ho3
                  obtain ⟨-, ⟨a3, c3, e3, -⟩⟩ := HR4.out.shapes
                  obtain ⟨l3, hl3⟩ : ∃ l, l = (ints p.ats ++ [(p.B.length : Int)]).length := ⟨_, rfl⟩
                  rw [← hl3] at e3
                  subst e3
                  have HR5 : Hid (Rf w (w3.setCell ⟨w.heap.size + 1, 1, none⟩ (.slice a3 l3 c3)) w.heap.size w.heap.size (w.heap.size + 1) (.slice a4 l4 c4) (.slice a3 l3 c3) (.slice a4 l4 c4) (.slice a3 l3 c3) (p.B ++ pkL l.length ++ l) (ints p.ats ++ [(p.B.length : Int)])) := HR4.out.setA
                  obtain ⟨g0, g1, g2, g3, g4⟩ := HR4.out.cells
                  obtain ⟨y0, y1, y2, y3, y4⟩ := HR5.out.cells
                  clear ho3 hg3 hl3
                  go_wp2_with fail
                  go_roundw
                  case rel => exact ⟨i + 1, _, _, by omega, by go_num, by rw [HFIN.out.1, HFIN.out.2]; exact HR5.out⟩
                  case measure => simp [intOf]; omega
        · obtain ⟨hB', hat⟩ := HS.out.step_hit hm encB
          have hmz : ((m : Int) == 0) = false := by rw [beq_eq_false_iff_ne]; omega
          have HR1 : Hid (Rf w ((wr.drewN nn).alloc (Obj.cells #[.int .i64 (m : Int)] 3)) w.heap.size w.heap.size (w.heap.size + 1) (.slice ba p.B.length bc) (.slice aa i ac) (.slice ba p.B.length bc) (.slice aa i ac) p.B (ints p.ats)) := (HR.out.drewN nn).later ((Below.refl _ _).alloc (Nat.le_refl _) _)
          have HFIN : Hid ((pall encB (ls.take (i + 1))).B = p.B ∧ ints (pall encB (ls.take (i + 1))).ats = ints p.ats ++ [(m : Int)]) := by
            show _ ∧ _
            rw [HE.out]; exact ⟨hB', by rw [pstep_ats, hat, ints_snoc]⟩
          clear hB' hat
          by_cases hji : jj < i
          · go_wp2_with (at_builtin; go_must (refine wpList_append_at rfl _ _ _ _ rfl w.heap.size 3 (.int .i64 0) 8 Try.underlying28 Try.infoInt rfl rfl rfl HR1.out.ownA (one_src0 Try.underlying28 _ _ _ _ (by simp) rfl) (by rw [i64s_length, ints_length, HL.out]; unfold maxLen; omega) (by rw [i64s_length, ints_length, HL.out]; omega) HR1.out.top ?_))
            intro v3 w3 ho3 hg3 _ _
            have HR4 : Hid (Rf w w3 w.heap.size w.heap.size (w.heap.size + 1) (.slice ba p.B.length bc) (.slice aa i ac) (.slice ba p.B.length bc) v3 p.B (ints p.ats ++ [(m : Int)])) := HR1.out.appA hg3 ho3
            obtain ⟨-, ⟨a3, c3, e3, -⟩⟩ := HR4.out.shapes
            obtain ⟨l3, hl3⟩ : ∃ l, l = (ints p.ats ++ [(m : Int)]).length := ⟨_, rfl⟩
            rw [← hl3] at e3
            subst e3
            have HR5 : Hid (Rf w (w3.setCell ⟨w.heap.size + 1, 1, none⟩ (.slice a3 l3 c3)) w.heap.size w.heap.size (w.heap.size + 1) (.slice ba p.B.length bc) (.slice a3 l3 c3) (.slice ba p.B.length bc) (.slice a3 l3 c3) p.B (ints p.ats ++ [(m : Int)])) := HR4.out.setA
            obtain ⟨g0, g1, g2, g3, g4⟩ := HR4.out.cells
            obtain ⟨y0, y1, y2, y3, y4⟩ := HR5.out.cells
            clear ho3 hg3 hl3
            go_wp2_with fail
            go_roundw
            case rel => exact ⟨i + 1, _, _, by omega, by go_num, by rw [HFIN.out.1, HFIN.out.2]; exact HR5.out⟩
            case measure => simp [intOf]; omega
          · go_wp2_with (at_builtin; go_must (refine wpList_append_at rfl _ _ _ _ rfl w.heap.size 3 (.int .i64 0) 8 Try.underlying28 Try.infoInt rfl rfl rfl HR1.out.ownA (one_src0 Try.underlying28 _ _ _ _ (by simp) rfl) (by rw [i64s_length, ints_length, HL.out]; unfold maxLen; omega) (by rw [i64s_length, ints_length, HL.out]; omega) HR1.out.top ?_))
            intro v3 w3 ho3 hg3 _ _
            have HR4 : Hid (Rf w w3 w.heap.size w.heap.size (w.heap.size + 1) (.slice ba p.B.length bc) (.slice aa i ac) (.slice ba p.B.length bc) v3 p.B (ints p.ats ++ [(m : Int)])) := HR1.out.appA hg3 ho3
            obtain ⟨-, ⟨a3, c3, e3, -⟩⟩ := HR4.out.shapes
            obtain ⟨l3, hl3⟩ : ∃ l, l = (ints p.ats ++ [(m : Int)]).length := ⟨_, rfl⟩
            rw [← hl3] at e3
            subst e3
            have HR5 : Hid (Rf w (w3.setCell ⟨w.heap.size + 1, 1, none⟩ (.slice a3 l3 c3)) w.heap.size w.heap.size (w.heap.size + 1) (.slice ba p.B.length bc) (.slice a3 l3 c3) (.slice ba p.B.length bc) (.slice a3 l3 c3) p.B (ints p.ats ++ [(m : Int)])) := HR4.out.setA
            obtain ⟨g0, g1, g2, g3, g4⟩ := HR4.out.cells
            obtain ⟨y0, y1, y2, y3, y4⟩ := HR5.out.cells
            clear ho3 hg3 hl3
            go_wp2_with fail
            go_roundw
            case rel => exact ⟨i + 1, _, _, by omega, by go_num, by rw [HFIN.out.1, HFIN.out.2]; exact HR5.out⟩
            case measure => simp [intOf]; omega
    · obtain ⟨d0, d1, d2, d3, d4⟩ := HR.out.cells
      obtain ⟨f0, f1, f2, f3, f4, f5⟩ := HR.out.rcells
      have HBB : Hid (pall encB (ls.take i) = pall encB ls) := by show _ = _; rw [List.take_of_length_le (by omega)]
      have HF : Hid (∀ W, W = ((wr.setCell ⟨w.heap.size, 0, none⟩ (.slice ba (pall encB (ls.take i)).B.length bc)).setCell ⟨w.heap.size, 1, none⟩ (.slice aa i ac)).setCell ⟨w.heap.size, 2, none⟩ (.int .i64 0) → Below w.heap.size w W ∧ Bs W (.slice ba (pall encB (ls.take i)).B.length bc) (pall encB ls).B ∧ Is W (.slice aa i ac) (ints (pall encB ls).ats) ∧ W.cell? ⟨w.heap.size, 0, none⟩ = some (.slice ba (pall encB (ls.take i)).B.length bc) ∧ W.cell? ⟨w.heap.size, 1, none⟩ = some (.slice aa i ac) ∧ W.cell? ⟨w.heap.size, 2, none⟩ = some (.int .i64 0)) := fun W hW => by
        rw [← HBB.out]; exact HR.out.finish _ _ _ W hW
      clear HFIT
      generalize pall encB (ls.take i) = q at *
      go_wp2_with fail
      obtain ⟨q1, q2, q3, q4, q5, q6⟩ := HF.out _ rfl
      exact bodyPost_ret (v := .agg #[.slice ba q.B.length bc, .slice aa i ac, .int .i64 0]) (by simp [results, Try.results20, go_sem, q4, q5, q6]) rfl ⟨_, _, rfl, q2, q3, q1⟩

end Go.Proofs.Ytlcfbnbbdpgjiaa
