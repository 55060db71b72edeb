/- Texts joined: Come11, GoOn11, Up11. -/
import Derived.Test.YtclmafoelibihaaGreatJ21
import Derived.Deep.RegionHeld3
/- goOn's closure, and goOn: going on by steps to the end. -/
namespace Go.Proofs.YtclmafoelibihaaGreat
set_option linter.unusedVariables false
set_option linter.unusedSimpArgs false
open Go.RowKit Go.Maps
attribute [local go_sem ↓] Go.wp_at_zero Go.wp_at_succ

theorem come_none (a : Option Addr) (cap : Nat) (b1 b2 b3 : Value) (w : World) :
    Calls Tryz.prog 36 #[.slice a 0 cap, b1, b2, b3] w fun e w' => e = .returned (.tuple #[]) ∧ w' = w := by
  go_enter Tryz.func36, Tryz.ntmps36
  go_wp2
  refine wp_loop_rounds 1 ?_; rw [rounds_succ]
  go_wp2
  go_end0
  exact ⟨rfl, rfl⟩

theorem OwnI.shp {w : World} {base : Nat} {v : Value} {l : List Int} (h : OwnI w base v l) : ∃ a n c, v = .slice a n c := by
  obtain ⟨a, c, e, _⟩ := h.is
  exact ⟨a, _, c, e⟩
theorem Met.mid {win w w2 : World} {gb lb mb mm : Nat} {g : Img} {lv : Value} {L : List Int} (h : Met win w gb lb mb mm g lv L) (hg : w.grownBy w2 (some mm)) : At w2 lb #[lv] 31 ∧ OwnI w2 win.heap.size lv L ∧ win.heap.size ≤ w2.heap.size := by
  obtain ⟨n1, n2, n3, n4⟩ := h.lv_ne
  refine ⟨?_, h.own.of_block fun k hk hlt => hg.block k hlt (fun e => n4 (by rw [hk, e])), Nat.le_trans h.bel.size hg.size⟩
  have := h.l
  unfold At at this ⊢
  rw [hg.block lb h.l.lt (fun e => ownsMap_ne h.map h.l (by simpa using e))]; exact this

set_option maxHeartbeats 4000000 in
set_option maxRecDepth 100000 in
theorem come_some {win w : World} {gb lb mb mm : Nat} {g : Img} {lv : Value} {L ts : List Int} {b off cap : Nat} (hM : Met win w gb lb mb mm g lv L) (hL : Nd g.ts.length 0 L) (hn : g.ts.length ≤ 1000)
    (hI : Is w (.slice (some ⟨b, off, none⟩) ts.length cap) ts) (hS : Sep w (.slice (some ⟨b, off, none⟩) ts.length cap) mm lb lv) (hW : ∀ t ∈ ts, Wf t) :
    Calls Tryz.prog 36 #[.slice (some ⟨b, off, none⟩) ts.length cap, .pointer (some ⟨mb, 0, none⟩), .pointer (some ⟨gb, 0, none⟩), .pointer (some ⟨lb, 0, none⟩)] w fun e w' =>
      e = .returned (.tuple #[]) ∧ ∃ lv', Met win w' gb lb mb mm g lv' (comeL g.ts.length L ts) := by
  have htl := hI.len
  rw [i64s_length] at htl
  unfold maxLen at htl
  have HM : Hid (Met win w gb lb mb mm g lv L) := hM
  have HI : Hid (Is w (.slice (some ⟨b, off, none⟩) ts.length cap) ts) := hI
  have HS : Hid (Sep w (.slice (some ⟨b, off, none⟩) ts.length cap) mm lb lv) := hS
  have HL : Hid (Nd g.ts.length 0 L) := hL
  have HW : Hid (∀ t ∈ ts, Wf t) := hW
  obtain ⟨n, hnn⟩ : ∃ n, n = g.ts.length := ⟨_, rfl⟩
  have HN : Hid (n = g.ts.length) := hnn
  clear hM hI hS hL hW hnn
  go_enter Tryz.func36, Tryz.ntmps36
  go_wp2_with fail
  go_loopw [6, 7, 8, 11] (fun _ _ _ z wr => ∃ q : Nat, q ≤ ts.length ∧ z = .int .i64 q ∧ ∃ lv', Hid (Met win wr gb lb mb mm g lv' (comeL g.ts.length L (ts.take q)) ∧ Is wr (.slice (some ⟨b, off, none⟩) ts.length cap) ts ∧ Sep wr (.slice (some ⟨b, off, none⟩) ts.length cap) mm lb lv')) (fun _ _ _ z _ => ts.length - (intOf z).toNat)
  case atStart => exact ⟨0, Nat.zero_le _, rfl, lv, HM.out, HI.out, HS.out⟩
  case round =>
    obtain ⟨q, hq, rfl, lv', HR⟩ := hrel
    by_cases hql : q < ts.length
    · obtain ⟨L', hL'⟩ : ∃ X, X = comeL g.ts.length L (ts.take q) := ⟨_, rfl⟩
      rw [← hL'] at HR
      have HST : Hid (comeL g.ts.length L (ts.take (q + 1)) = stepC g.ts.length L' ts[q]) := by show _ = _; rw [hL']; exact comeL_take hql
      have HLl : Hid (L'.length ≤ 1000) := by
        show _ ≤ _
        have := (HL.out.come (ts := ts.take q)).len
        rw [← hL'] at this; omega
      have HWt : Hid (Wf ts[q]) := HW.out _ (List.getElem_mem hql)
      clear hL'
      obtain ⟨b', off', hbo, hb, _, h6, h7, hc⟩ := HR.out.2.1.at hql
      cases hbo
      have cq := hc q hql
      generalize ts[q] = t at *
      unfold maxLen at h7
      have hM := HR.out.1
      have cm := hM.m.cell0
      have hmap := hM.map
      have hkey := key11 HWt.out
      obtain ⟨wA, hwA⟩ : ∃ W, W = wr.alloc (.cells #[] 59) := ⟨_, rfl⟩
      have HWA : Hid (wA = _) := hwA
      have hbA : Below wr.heap.size wr wA := by rw [hwA]; exact made_below _ _ _
      have hMA := hM.later hbA
      have HRA : Hid (Met win wA gb lb mb mm g lv' L' ∧ Is wA (.slice (some ⟨b, off, none⟩) ts.length cap) ts ∧ Sep wA (.slice (some ⟨b, off, none⟩) ts.length cap) mm lb lv') := ⟨hMA, Sl.later HR.out.2.1 hbA, HR.out.2.2.later hbA⟩
      clear hc hM hwA hbA
      cases hhc : L'.contains t with
      | true =>
        have hhas : Maps.has (metD L') (.int .i64 t) = true := by rw [has_met]; exact hhc
        have HS2 : Hid (comeL g.ts.length L (ts.take (q + 1)) = L') := by show _ = _; rw [HST.out, stepC_old hhc]
        clear hhc hMA
        go_wp2_with (first | (at_lookup; go_must (refine wpList_lookup_own_unit _ rfl _ _ 58 rfl 3 59 law11 Tryz.underlying58 (zero11 _) mm _ _ rfl hmap _ _ rfl hkey ?_)) | (rw [← HWA.out]))
        go_roundw
        case rel => exact ⟨q + 1, by omega, by go_num, lv', by rw [HS2.out]; exact HRA.out⟩
        case measure => simp [intOf]; omega
      | false =>
        have hhas : Maps.has (metD L') (.int .i64 t) = false := by rw [has_met]; exact hhc
        obtain ⟨cg0, cg1, cg2, cg3⟩ := hMA.gbox.cells
        have HTh : Hid (Calls Tryz.prog 25 #[.agg (imC g), .int .i64 t] wA fun e w' => e = .returned (.bool (numB t g.ts.length)) ∧ Below wA.heap.size wA w') := isThere_any t hMA.gbox.im
        have HHc : Hid (L'.contains t = false) := hhc
        unfold imC at HTh
        clear hhc hMA
        go_wp2_with (first | (at_lookup; go_must (refine wpList_lookup_own_unit _ rfl _ _ 58 rfl 3 59 law11 Tryz.underlying58 (zero11 _) mm _ _ rfl hmap _ _ rfl hkey ?_)) | (rw [← HWA.out]))
        refine Calls.mono HTh.out ?_
        rintro e w1 ⟨rfl, hb1⟩
        have HR1 : Hid (Met win w1 gb lb mb mm g lv' L' ∧ Is w1 (.slice (some ⟨b, off, none⟩) ts.length cap) ts ∧ Sep w1 (.slice (some ⟨b, off, none⟩) ts.length cap) mm lb lv') := ⟨HRA.out.1.later hb1, Sl.later HRA.out.2.1 hb1, HRA.out.2.2.later hb1⟩
        clear hb1 cg0 cg1 cg2 cg3 HTh cm hmap cq HR
        cases hnb : numB t g.ts.length with
        | false =>
          have HS2 : Hid (comeL g.ts.length L (ts.take (q + 1)) = L') := by show _ = _; rw [HST.out, stepC_out hnb]
          clear hnb
          go_wp2_with fail
          go_roundw
          case rel => exact ⟨q + 1, by omega, by go_num, lv', by rw [HS2.out]; exact HR1.out⟩
          case measure => simp [intOf]; omega
        | true =>
          have HS2 : Hid (comeL g.ts.length L (ts.take (q + 1)) = L' ++ [t]) := by show _ = _; rw [HST.out, stepC_new hnb HHc.out]
          have hM1 := HR1.out.1
          have hmap1 := hM1.map
          have cm1 := hM1.m.cell0
          have HMid : Hid (∀ w2, w1.grownBy w2 (some mm) → At w2 lb #[lv'] 31 ∧ OwnI w2 win.heap.size lv' L' ∧ win.heap.size ≤ w2.heap.size) := fun w2 hg => hM1.mid hg
          clear hnb hM1
          go_wp2_with (first
            | (at_mapUpdate; go_must (refine wpList_mapUpdate_own _ rfl _ _ _ 58 rfl 3 59 law11 Tryz.underlying58 (unitElem (H := Unit)) mm _ _ rfl hmap1 (by have := HLl.out; unfold maxLen; omega) _ _ _ rfl rfl hkey (.agg []) [] unitElem_mk ?_; intro w2 hown2 hgrow2; have hmid2 := HMid.out w2 hgrow2; have cl2 := hmid2.1.cell0))
            | (at_builtin; go_must (refine wpList_append_int_at (v := lv') rfl (.tmp 31) (.tmp 33) rfl win.heap.size rfl rfl (hmid2.2.1.later (made_below _ _ _)) (one_int w2 t _ rfl) (by have := HLl.out; omega) (Nat.le_trans hmid2.2.2 (made_below _ _ _).size) ?_; intro v5 w5 ho5 hg5 hp5; obtain ⟨la5, ln5, lc5, hv5⟩ := ho5.shp; subst hv5; have hl5 := (hmid2.1.later (made_below _ _ _)).grownI (hmid2.2.1.later (made_below _ _ _)) (by decide) hg5; have cl5 := hl5.cell0; have ml5 := hl5.melt 0)))
          have hadd := Met.add (o := Obj.cells #[.int .i64 t] 3) HR1.out.1 HR1.out.2.1 HR1.out.2.2 hgrow2 hown2 rfl ho5 hg5 hp5 rfl
          have HAd : Hid _ := hadd
          clear hadd hmid2 cl2 hl5 cl5 ml5 hgrow2 hown2 ho5 hg5 hp5
          go_roundw
          case rel => exact ⟨q + 1, by omega, by go_num, _, by rw [HS2.out]; exact HAd.out⟩
          case measure => simp [intOf]; omega
    · have HD : Hid (Met win wr gb lb mb mm g lv' (comeL g.ts.length L ts)) := by
        have := HR.out.1
        rwa [comeL_done hql] at this
      go_wp2_with fail
      go_end0
      exact ⟨rfl, lv', HD.out⟩

theorem come_any {win w : World} {gb lb mb mm : Nat} {g : Img} {lv tv : Value} {L ts : List Int} (hM : Met win w gb lb mb mm g lv L) (hL : Nd g.ts.length 0 L) (hn : g.ts.length ≤ 1000)
    (hI : Is w tv ts) (hS : ts ≠ [] → Sep w tv mm lb lv) (hW : ∀ t ∈ ts, Wf t) :
    Calls Tryz.prog 36 #[tv, .pointer (some ⟨mb, 0, none⟩), .pointer (some ⟨gb, 0, none⟩), .pointer (some ⟨lb, 0, none⟩)] w fun e w' =>
      e = .returned (.tuple #[]) ∧ ∃ lv', Met win w' gb lb mb mm g lv' (comeL g.ts.length L ts) := by
  by_cases hne : ts = []
  · subst hne
    obtain ⟨a, c, rfl, _, _⟩ := hI.shape
    refine (come_none a c _ _ _ w).mono ?_
    rintro e w' ⟨rfl, rfl⟩
    exact ⟨rfl, lv, hM⟩
  · obtain ⟨b, off, cap, rfl, h1, h2, hb, hc⟩ := hI.parts hne
    exact come_some hM hL hn hI (hS hne) hW

end Go.Proofs.YtclmafoelibihaaGreat

/- goOn: going on by steps to the end. -/
namespace Go.Proofs.YtclmafoelibihaaGreat
set_option linter.unusedVariables false
set_option linter.unusedSimpArgs false
open Go.RowKit Go.Maps
attribute [local go_sem ↓] Go.wp_at_zero Go.wp_at_succ

/-- A function value that tells the next ones of a type, from a world on. -/
structure Steps (P : Program) (w : World) (f : FuncId) (bs cs : Array Value) (n : Nat) (st : Int → List Int) : Prop where
  enter : ∀ args W, (callFunc f args).run P W = .ok (.enter f args) W
  steps : ∀ W, Below w.heap.size w W → ∀ t, numB t n = true → Calls P f (bs.push (.int .i64 t) ++ cs) W fun e w' => ∃ v, e = .returned v ∧ Is w' v (st t) ∧ Below W.heap.size W w' ∧ (st t ≠ [] → ∀ k, v.ownBlock = some k → k < w.heap.size ∨ W.heap.size ≤ k)
  wf : ∀ t, numB t n = true → ∀ x ∈ st t, Wf x
theorem Steps.later {P : Program} {w w' : World} {f : FuncId} {bs cs : Array Value} {n : Nat} {st : Int → List Int} (h : Steps P w f bs cs n st) (hb : Below w.heap.size w w') : Steps P w' f bs cs n st :=
  ⟨h.enter, fun W hW t ht => (h.steps W (bstep hb hW) t ht).mono fun e w2 ⟨v, h1, h2, h3, h4⟩ => ⟨v, h1, h2, h3, fun hne k hk => (h4 hne k hk).imp (fun h => Nat.lt_of_lt_of_le h hb.size) id⟩, h.wf⟩

theorem Met.start {w W : World} {g : Img} (hg : Im w g) (hW : W = (((w.alloc (.cells (imC g) 26)).alloc (.cells #[.slice none 0 0] 31)).alloc (.map #[] 0)).alloc (.cells #[.map (some (w.heap.size + 1 + 1))] 58)) :
    Met w W w.heap.size (w.heap.size + 1) (w.heap.size + 1 + 1 + 1) (w.heap.size + 1 + 1) g (.slice none 0 0) [] := by
  subst hW
  have hb : Below w.heap.size w _ := bbox (bbox (bbox (made_below w (imC g) 26) (.cells #[.slice none 0 0] 31)) (.map #[] 0)) (.cells #[.map (some (w.heap.size + 1 + 1))] 58)
  refine ⟨hg, hb, (((At.made w _ _).next _).next _).next _, ?_, ?_, OwnI.nil _ _, ?_, by omega⟩
  · have := ((At.made (w.alloc (.cells (imC g) 26)) #[.slice none 0 0] 31).next (.map #[] 0)).next (.cells #[.map (some (w.heap.size + 1 + 1))] 58)
    simpa using this
  · have := At.made (((w.alloc (.cells (imC g) 26)).alloc (.cells #[.slice none 0 0] 31)).alloc (.map #[] 0)) #[.map (some (w.heap.size + 1 + 1))] 58
    simpa using this
  · have := (World.ownsMap_made ((w.alloc (.cells (imC g) 26)).alloc (.cells #[.slice none 0 0] 31)) Tryz.prog 3 (unitElem (H := Unit))).alloc (.cells #[.map (some (w.heap.size + 1 + 1))] 58)
    simpa [metD, setOf] using this
theorem Is.lt {w : World} {v : Value} {l : List Int} (h : Is w v l) (hne : l ≠ []) : ∀ k, v.ownBlock = some k → k < w.heap.size := by
  obtain ⟨b, off, cap, rfl, _, _, hb, _⟩ := h.parts hne
  intro k hk
  simp [Value.ownBlock] at hk
  omega

set_option maxHeartbeats 4000000 in
set_option maxRecDepth 100000 in
theorem goOn_any {w : World} {g : Img} {tv : Value} {ts : List Int} {f : FuncId} {bs cs : Array Value} {st : Int → List Int} (hg : Im w g) (hn : g.ts.length ≤ 1000) (hI : Is w tv ts) (hb : ts ≠ [] → ∀ k, tv.ownBlock = some k → k < w.heap.size) (hW : ∀ t ∈ ts, Wf t)
    (hf : Steps Tryz.prog w f bs cs g.ts.length st) :
    Calls Tryz.prog 21 #[imV g, tv, .func (.func f) bs cs] w fun e w' => ∃ v, e = .returned v ∧ OwnI w' w.heap.size v (reachL g.ts.length st ts) ∧ Below w.heap.size w w' := by
  have hmm := @run_makeMap Tryz.prog
  have hen := hf.enter
  have HF : Hid (Steps Tryz.prog w f bs cs g.ts.length st) := hf
  obtain ⟨W0, hW0⟩ : ∃ W, W = (((w.alloc (.cells (imC g) 26)).alloc (.cells #[.slice none 0 0] 31)).alloc (.map #[] 0)).alloc (.cells #[.map (some (w.heap.size + 1 + 1))] 58) := ⟨_, rfl⟩
  have hM0 := Met.start hg hW0
  have HC0 : Hid (Calls Tryz.prog 36 #[tv, .pointer (some ⟨w.heap.size + 1 + 1 + 1, 0, none⟩), .pointer (some ⟨w.heap.size, 0, none⟩), .pointer (some ⟨w.heap.size + 1, 0, none⟩)] W0 fun e w' =>
      e = .returned (.tuple #[]) ∧ ∃ lv', Met w w' w.heap.size (w.heap.size + 1) (w.heap.size + 1 + 1 + 1) (w.heap.size + 1 + 1) g lv' (comeL g.ts.length [] ts)) :=
    come_any hM0 (Nd.nil _) hn (Sl.later hI hM0.bel) (fun hne k hk => ⟨by have := hb hne k hk; have := hM0.bel.size; omega, by have := hb hne k hk; omega, by have := hb hne k hk; omega, by simp [Value.ownBlock]⟩) hW
  have HW0 : Hid (W0 = _) := hW0
  unfold imC at HW0
  clear hf hM0 hW0 hg hI hb hW
  unfold imV
  go_enter Tryz.func21, Tryz.ntmps21
  go_wp2_with fail
  rw [← HW0.out]
  refine Calls.mono HC0.out ?_
  rintro e w1 ⟨rfl, lv0, hM1⟩
  have HM1 : Hid (Met w w1 w.heap.size (w.heap.size + 1) (w.heap.size + 1 + 1 + 1) (w.heap.size + 1 + 1) g lv0 (comeL g.ts.length [] ts)) := hM1
  clear HC0 HW0 hM1 hmm
  go_wp2_with fail
  go_loopw [10] (fun z wr => ∃ q : Nat, z = .int .i64 q ∧ ∃ lv L, q ≤ L.length ∧ Hid (Met w wr w.heap.size (w.heap.size + 1) (w.heap.size + 1 + 1 + 1) (w.heap.size + 1 + 1) g lv L) ∧ Hid (Nd g.ts.length 0 L) ∧ Hid (goL g.ts.length st (g.ts.length + 1 - q) q L = reachL g.ts.length st ts)) (fun z _ => g.ts.length + 1 - (intOf z).toNat)
  case atStart => exact ⟨0, rfl, lv0, _, Nat.zero_le _, HM1.out, (Nd.nil _).come, rfl⟩
  case round =>
    obtain ⟨q, rfl, lv, L, hq, HM, HL, HG⟩ := hrel
    have hLl := HL.out.len
    have hM := HM.out
    by_cases hql : q < L.length
    · obtain ⟨gl, capl, hlv, p1, p2, p3, p4, p5⟩ := hM.own.parts (by intro e; rw [e] at hql; simp at hql)
      have cl := hM.l.cell0
      have cq := p5 q hql
      unfold maxLen at p2
      have hnum := HL.out.1 _ (List.getElem_mem hql)
      have HG2 : Hid (goL g.ts.length st (g.ts.length + 1 - (q + 1)) (q + 1) (comeL g.ts.length L (st L[q])) = reachL g.ts.length st ts) := by
        show _ = _
        rw [← HG.out, show g.ts.length + 1 - q = (g.ts.length + 1 - (q + 1)) + 1 by omega, goL_next hql]
      have HSt := HF.out.steps wr hM.bel L[q] hnum
      have HWf : Hid (∀ x ∈ st L[q], Wf x) := HF.out.wf _ hnum
      generalize L[q] = t at *
      subst hlv
      have HStc : Hid _ := HSt
      clear hM p5 HSt hnum HG
      go_wp2_with fail
      refine Calls.mono HStc.out ?_
      rintro e w2 ⟨v, rfl, hv, hb2, hk⟩
      have HCm : Hid (Calls Tryz.prog 36 #[v, .pointer (some ⟨w.heap.size + 1 + 1 + 1, 0, none⟩), .pointer (some ⟨w.heap.size, 0, none⟩), .pointer (some ⟨w.heap.size + 1, 0, none⟩)] w2 fun e w' =>
          e = .returned (.tuple #[]) ∧ ∃ lv', Met w w' w.heap.size (w.heap.size + 1) (w.heap.size + 1 + 1 + 1) (w.heap.size + 1 + 1) g lv' (comeL g.ts.length L (st t))) := by
        have hMr := HM.out
        have h1 := hMr.map.lt
        have h2 := hMr.l.lt
        refine come_any (hMr.later hb2) HL.out hn hv (fun hne k hk2 => ?_) HWf.out
        have h3 := hk hne k hk2
        refine ⟨hv.lt hne k hk2, by omega, by omega, fun e => ?_⟩
        have h4 := hMr.own.block k e
        omega
      clear hv hb2 hk HStc cl cq
      go_wp2_with fail
      refine Calls.mono HCm.out ?_
      rintro e w3 ⟨rfl, lv3, hM3⟩
      have HM3 : Hid (Met w w3 w.heap.size (w.heap.size + 1) (w.heap.size + 1 + 1 + 1) (w.heap.size + 1 + 1) g lv3 (comeL g.ts.length L (st t))) := hM3
      clear HCm hM3
      go_wp2_with fail
      go_roundw
      case rel => exact ⟨q + 1, by go_num, lv3, _, by have := (comeL_pre g.ts.length (st t) L).length_le; omega, HM3.out, HL.out.come, HG2.out⟩
      case measure => simp [intOf]; omega
    · obtain ⟨la, lc, hlv, _, _⟩ := (show Is wr lv L from hM.own.is).shape
      have HE : Hid (L = reachL g.ts.length st ts) := by
        show _ = _
        rw [← HG.out, goL_end hql]
      have cl := hM.l.cell0
      subst hlv
      clear hM
      go_wp2_with fail
      go_ret
      exact ⟨_, rfl, by rw [← HE.out]; exact HM.out.own, HM.out.bel⟩

end Go.Proofs.YtclmafoelibihaaGreat

/- Going up, by faces: the steps; Up. -/
namespace Go.Proofs.YtclmafoelibihaaGreat
set_option linter.unusedVariables false
set_option linter.unusedSimpArgs false
open Go.RowKit
attribute [local go_sem ↓] Go.wp_at_zero Go.wp_at_succ

/-- What an image that is formed tells of what types extend, and of their faces. -/
theorem im_len {g : Img} (h : imB g = true) : g.ts.length ≤ 32 ∧ g.fs.length ≤ 64 ∧ g.ms.length ≤ 64 := by
  unfold imB at h
  simp only [Bool.and_eq_true, decide_eq_true_iff] at h
  exact ⟨h.1.1.1.1.1.1, h.1.1.1.1.1.2, h.1.1.1.1.2⟩
theorem im_type {g : Img} (h : imB g = true) {q : Nat} (hq : q < g.ts.length) : (g.ts[q].ex = -1 ∨ numB g.ts[q].ex g.ts.length = true) ∧ g.ts[q].fs.length ≤ 4 ∧ ∀ x ∈ g.ts[q].fs, numB x g.ts.length = true := by
  unfold imB at h
  simp only [Bool.and_eq_true] at h
  have := List.all_eq_true.1 h.1.1.1.2 _ (List.getElem_mem hq)
  unfold tdB at this
  simp only [Bool.and_eq_true, Bool.or_eq_true, decide_eq_true_iff, List.all_eq_true] at this
  exact ⟨this.1.1.2, this.1.2, this.2⟩
theorem wf_of {t : Int} (h : -1000 ≤ t ∧ t ≤ 1000) : Wf t := by unfold Wf; exact WalkArith.wf_i64 (by omega)
theorem wf_num {t : Int} {n : Nat} (hn : n ≤ 1000) (h : numB t n = true) : Wf t := wf_of (by rw [numB_iff] at h; omega)
theorem OwnI.mono {w : World} {base base' : Nat} {v : Value} {l : List Int} (h : OwnI w base v l) (hb : base' ≤ base) : OwnI w base' v l := by
  obtain ⟨h1, h2⟩ := h
  refine ⟨h1, ?_⟩
  rcases h2 with h2 | ⟨g, cap, cur, rfl, hg, r⟩
  · exact Or.inl h2
  · exact Or.inr ⟨g, cap, cur, rfl, Nat.le_trans hb hg, r⟩
/-- One number in a block of its own. -/
theorem OwnI.one (w : World) (t : Int) : OwnI (w.alloc (.cells #[.int .i64 t] 3)) w.heap.size (.slice (some ⟨w.heap.size, 0, none⟩) 1 1) [t] :=
  OwnV.lit w w.heap.size 3 (i64s [t]) _ 1 (Nat.le_refl _) rfl rfl (by simp [i64s, maxLen])
theorem Is.cell1 {W : World} {k : Nat} {t : Int} (h : At W k #[.int .i64 t] 3) : Is W (.slice (some ⟨k, 0, none⟩) 1 1) [t] :=
  ⟨_, 1, rfl, Nat.le_refl _, by simp [maxLen], fun _ => ⟨k, 0, rfl, h.lt, fun i hi => by
    have : i = 0 := by simp [i64s] at hi; exact hi
    subst this
    rw [h.cell]; rfl⟩⟩

set_option maxHeartbeats 1000000 in
theorem byExtends1_any {g : Img} {gb q : Nat} {w : World} (hG : GB w gb g) (hq : q < g.ts.length) :
    Calls Tryz.prog 37 #[.int .i64 q, .pointer (some ⟨gb, 0, none⟩)] w fun e w' => e = .returned (.slice (some ⟨w.heap.size, 0, none⟩) 1 1) ∧ w' = w.alloc (.cells #[.int .i64 g.ts[q].ex] 3) := by
  obtain ⟨tb, off, hta, htb, h1, h2, k0, k1, k2, k3⟩ := hG.type hq
  obtain ⟨c0, c1, c2, c3⟩ := hG.cells
  unfold maxLen at h2
  rw [hta] at c0
  clear hta hG
  generalize g.ts[q].ex = x at *
  go_enter Tryz.func37, Tryz.ntmps37
  go_wp2_with fail
  go_ret
  exact ⟨rfl, rfl⟩
set_option maxHeartbeats 1000000 in
theorem byFaces1_any {g : Img} {gb q : Nat} {w : World} (hG : GB w gb g) (hq : q < g.ts.length) :
    Calls Tryz.prog 38 #[.int .i64 q, .pointer (some ⟨gb, 0, none⟩)] w fun e w' => e = .returned (.slice g.ts[q].fa g.ts[q].fs.length g.ts[q].fc) ∧ w' = w := by
  obtain ⟨tb, off, hta, htb, h1, h2, k0, k1, k2, k3⟩ := hG.type hq
  obtain ⟨c0, c1, c2, c3⟩ := hG.cells
  unfold maxLen at h2
  rw [hta] at c0
  clear hta hG
  go_enter Tryz.func38, Tryz.ntmps38
  go_wp2_with fail
  go_ret
  exact ⟨rfl, rfl⟩
theorem steps_up {g : Img} {gb : Nat} {w : World} (hG : GB w gb g) (hi : imB g = true) : Steps Tryz.prog w 37 #[] #[.pointer (some ⟨gb, 0, none⟩)] g.ts.length (upS g) := by
  refine ⟨run_enter9 Tryz.func37 (by kernel_rfl) rfl, fun W hW t ht => ?_, fun t ht x hx => ?_⟩
  · obtain ⟨q, rfl, hq⟩ := num_nat ht
    have := byExtends1_any (hG.later hW) hq
    refine (show Calls Tryz.prog 37 _ W _ by simpa using this).mono ?_
    rintro e w' ⟨rfl, rfl⟩
    refine ⟨_, rfl, ?_, made_below _ _ _, fun _ k hk => Or.inr (by simp [Value.ownBlock] at hk; omega)⟩
    unfold upS
    rw [exI_at hq]
    exact (OwnI.one W _).is
  · obtain ⟨q, rfl, hq⟩ := num_nat ht
    unfold upS at hx
    rw [exI_at hq] at hx
    simp at hx; subst hx
    have hl := (im_len hi).1
    rcases (im_type hi hq).1 with h | h
    · rw [h]; exact wf_of (by omega)
    · exact wf_num (by omega) h
theorem steps_fac {g : Img} {gb : Nat} {w : World} (hG : GB w gb g) (hi : imB g = true) : Steps Tryz.prog w 38 #[] #[.pointer (some ⟨gb, 0, none⟩)] g.ts.length (fsI g) := by
  refine ⟨run_enter9 Tryz.func38 (by kernel_rfl) rfl, fun W hW t ht => ?_, fun t ht x hx => ?_⟩
  · obtain ⟨q, rfl, hq⟩ := num_nat ht
    have := byFaces1_any (hG.later hW) hq
    have hi0 : Is w (.slice g.ts[q].fa g.ts[q].fs.length g.ts[q].fc) g.ts[q].fs := (hG.im.tok _ (List.getElem_mem hq)).toIs
    refine (show Calls Tryz.prog 38 _ W _ by simpa using this).mono ?_
    rintro e w' ⟨rfl, rfl⟩
    rw [fsI_at hq]
    exact ⟨_, rfl, Sl.later hi0 hW, Below.refl _ _, fun hne k hk => Or.inl (hi0.lt hne k hk)⟩
  · obtain ⟨q, rfl, hq⟩ := num_nat ht
    rw [fsI_at hq] at hx
    exact wf_num (by have := (im_len hi).1; omega) ((im_type hi hq).2.2 x hx)

theorem byExtends_any {g : Img} (w : World) :
    Calls Tryz.prog 22 #[imV g] w fun e w' => e = .returned (.func (.func 37) #[] #[.pointer (some ⟨w.heap.size, 0, none⟩)]) ∧ w' = w.alloc (.cells (imC g) 26) := by
  unfold imV imC
  go_enter Tryz.func22, Tryz.ntmps22
  go_wp2_with fail
  go_ret
  exact ⟨rfl, rfl⟩
theorem byFaces_any {g : Img} (w : World) :
    Calls Tryz.prog 23 #[imV g] w fun e w' => e = .returned (.func (.func 38) #[] #[.pointer (some ⟨w.heap.size, 0, none⟩)]) ∧ w' = w.alloc (.cells (imC g) 26) := by
  unfold imV imC
  go_enter Tryz.func23, Tryz.ntmps23
  go_wp2_with fail
  go_ret
  exact ⟨rfl, rfl⟩

theorem At.at {W : World} {k k' : Nat} {C : Array Value} {t : TypeId} (h : At W k C t) (e : k' = k) : At W k' C t := by rw [e]; exact h

set_option maxHeartbeats 4000000 in
theorem up_any {g : Img} {t : Int} {w : World} (hg : Im w g) (hi : imB g = true) (hw : Wf t) :
    Calls Tryz.prog 11 #[imV g, .int .i64 t] w fun e w' => ∃ v, e = .returned v ∧ OwnI w' w.heap.size v (upL g t) ∧ Below w.heap.size w w' := by
  obtain ⟨w0, hw0⟩ : ∃ W, W = w.alloc (.cells (imC g) 26) := ⟨_, rfl⟩
  have HW0 : Hid (w0 = _) := hw0
  obtain ⟨hb0, hgb⟩ := GB.made hg hw0
  have HB0 : Hid (Below w.heap.size w w0) := hb0
  have HG : Hid (∀ W, Below w0.heap.size w0 W → GB W w.heap.size g) := fun W hW => hgb.later hW
  have HK : Hid (∀ W, Below w0.heap.size w0 W → W.cell? ⟨w.heap.size, 0, none⟩ = some (.slice g.ta g.ts.length g.tc) ∧ W.cell? ⟨w.heap.size, 1, none⟩ = some (.slice g.fa g.fs.length g.fc) ∧ W.cell? ⟨w.heap.size, 2, none⟩ = some (.slice g.ma g.ms.length g.mc) ∧ W.cell? ⟨w.heap.size, 3, none⟩ = some (.int .i64 g.en)) := fun W hW => (hgb.later hW).cells
  have HGO : Hid (∀ W kb ks, Below w0.heap.size w0 W → At W kb (imC g) 26 → At W ks #[.int .i64 t] 3 → Calls Tryz.prog 21 #[.agg (imC g), .slice (some ⟨ks, 0, none⟩) 1 1, .func (.func 37) #[] #[.pointer (some ⟨kb, 0, none⟩)]] W fun e w' => ∃ v, e = .returned v ∧ OwnI w' w.heap.size v (upL g t) ∧ Below w0.heap.size w0 w') := by
    intro W kb ks hbW hkb hks
    have hbw := bstep hb0 hbW
    have hGB : GB W kb g := ⟨hkb, hg.later hbw⟩
    refine (goOn_any hGB.im (by have := (im_len hi).1; omega) (Is.cell1 hks) (fun _ k hk => by simp [Value.ownBlock] at hk; have := hks.lt; omega) (fun x hx => by simp at hx; subst hx; exact hw) (steps_up hGB hi)).mono ?_
    rintro e w' ⟨v, rfl, ho, hb⟩
    rw [upL_eq] at ho
    exact ⟨v, rfl, ho.mono hbw.size, bstep hbW hb⟩
  have HBE : Hid (∀ W, Calls Tryz.prog 22 #[.agg (imC g)] W fun e w' => e = .returned (.func (.func 37) #[] #[.pointer (some ⟨W.heap.size, 0, none⟩)]) ∧ w' = W.alloc (.cells (imC g) 26)) := fun W => byExtends_any W
  obtain ⟨c0, c1, c2, c3⟩ := hgb.cells
  unfold imC at HW0
  clear hw0 hb0 hgb hg
  unfold imV
  go_enter Tryz.func11, Tryz.ntmps11
  go_wp2_with (rw [← HW0.out])
  go_region_held3 (fun W => W.cell? ⟨w.heap.size, 0, none⟩ = some (.slice g.ta g.ts.length g.tc) ∧ W.cell? ⟨w.heap.size, 1, none⟩ = some (.slice g.fa g.fs.length g.fc) ∧ W.cell? ⟨w.heap.size, 2, none⟩ = some (.slice g.ma g.ms.length g.mc) ∧ W.cell? ⟨w.heap.size, 3, none⟩ = some (.int .i64 g.en))
    (first | (exact HK.out _ hb2) | (exact HK.out _ (bdrew _)) | (exact HK.out _ (bbox (bdrew _) _)) | (exact HK.out _ (bbox (bbox (bdrew _) _) _)))
    (first | (go_at_call 22; refine (HBE.out _).mono ?_; rintro e w1 ⟨rfl, hz1⟩; subst hz1) | (go_at_call 21; refine (HGO.out _ _ _ (bbox (bbox (bdrew _) _) _) (by first | exact At.at (At.made _ _ _) (by simp) | exact At.at ((At.made _ _ _).next _) (by simp)) (by first | exact At.at (At.made _ _ _) (by simp) | exact At.at ((At.made _ _ _).next _) (by simp))).mono ?_; rintro e w2 ⟨v, rfl, ho2, hb2⟩))
  all_goals rename_i hheld
  all_goals clear hheld
  all_goals go_wp2_with fail
  all_goals go_ret
  all_goals exact ⟨_, rfl, ho2, bstep HB0.out hb2⟩

end Go.Proofs.YtclmafoelibihaaGreat
