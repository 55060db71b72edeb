
/- Names of the references. -/
import Derived.Test.YtlcfbnbbdpgjiaaRows
import Derived.Test.YtlcfbnbbdpgjiaaRefPool
import Derived.Test.YtlcfbnbbdpgjiaaRefName
namespace Go.Proofs.Ytlcfbnbbdpgjiaa
set_option linter.unusedVariables false
set_option linter.unusedSimpArgs false
open Go.RowKit Go.Maps

/-- What the search ahead of a place has found so far. -/
def Seek (l : List (List UInt8)) (p : PSt) (s : List UInt8) (j m : Nat) : Prop :=
  (m = 0 → ∀ t (h : t < l.length) (g : t < p.ats.length), t < j → l[t] = s → p.ats[t] = 0) ∧ (m ≠ 0 → p.M s = some m)

theorem seek0 (l : List (List UInt8)) (p : PSt) (s : List UInt8) : Seek l p s 0 0 := ⟨fun _ t _ _ h => by omega, fun h => absurd rfl h⟩
theorem Seek.hit {l : List (List UInt8)} {p : PSt} {s : List UInt8} {j : Nat} (h : Seek l p s j 0) (hg : Good p l) (hj : j < l.length) (gj : j < p.ats.length) (e : l[j] = s) : Seek l p s (j + 1) p.ats[j] := by
  refine ⟨fun hm t ht gt htj he => ?_, fun hm => ?_⟩
  · by_cases htt : t = j
    · subst htt; exact hm
    · exact h.1 rfl t ht gt (by omega) he
  · rw [← e]; exact hg.some j hj gj
theorem Seek.miss {l : List (List UInt8)} {p : PSt} {s : List UInt8} {j : Nat} (h : Seek l p s j 0) (hj : j < l.length) (e : l[j] ≠ s) : Seek l p s (j + 1) 0 := by
  refine ⟨fun _ t ht gt htj he => ?_, fun hm => absurd rfl hm⟩
  by_cases htt : t = j
  · subst htt; exact absurd he e
  · exact h.1 rfl t ht gt (by omega) he
theorem Seek.none {l : List (List UInt8)} {p : PSt} {s : List UInt8} {j : Nat} (h : Seek l p s j 0) (hg : Good p l) (hj : l.length ≤ j) (hs : s ≠ []) : p.M s = none := by
  cases hm : p.M s with
  | none => rfl
  | some a =>
    exfalso
    obtain ⟨h1, h2, h3⟩ := hg.only s a hm hs
    obtain ⟨t, ht, e⟩ := List.getElem_of_mem h1
    have gt : t < p.ats.length := by rw [hg.len]; exact ht
    have := h.1 rfl t ht gt (by omega) e
    have h4 := hg.some t ht gt
    rw [e, hm] at h4
    simp only [Option.some.injEq] at h4
    omega
theorem Seek.step_hit {l : List (List UInt8)} {p : PSt} {s : List UInt8} {j m : Nat} (h : Seek l p s j m) (hm : m ≠ 0) (enc : List UInt8 → List UInt8) : (pstep enc p s).B = p.B ∧ atOf p s = m := by
  have := h.2 hm
  refine ⟨by simp [pstep, this], by simp [atOf, this]⟩
theorem pstep_none {p : PSt} {s : List UInt8} (h : p.M s = none) (enc : List UInt8 → List UInt8) : (pstep enc p s).B = p.B ++ enc s ∧ atOf p s = p.B.length := by
  refine ⟨by simp [pstep, h], by simp [atOf, h]⟩

/-- One that isn't a name. -/
theorem refNames_bad (b off cap : Nat) (ss : List ByteArray) (w : World) (hbl : b < w.heap.size) (hn : ss.length ≤ 60) (hz : ∀ i (h : i < ss.length), ss[i].size ≤ 300) (hc : ∀ i (h : i < ss.length), w.cell? ⟨b, off + i, none⟩ = some (.string ss[i])) (hbad : (tls ss).all fineB = false) :
    Calls Try.prog 12 #[.slice (some ⟨b, off, none⟩) ss.length cap] w fun e w' => e = .returned (.agg #[.slice none 0 0, .slice none 0 0, .int .i64 18]) ∧ Below w.heap.size w w' := by
  have HC : Hid (∀ i (h : i < ss.length), w.cell? ⟨b, off + i, none⟩ = some (.string ss[i])) := hc
  have HZ : Hid (∀ i (h : i < ss.length), ss[i].size ≤ 300) := hz
  have HX : Hid ((tls ss).all fineB = false) := hbad
  clear hc hbad hz
  go_enter Try.func12, Try.ntmps12
  go_wp2_with fail
  go_loopw [3] (fun i wr => ∃ k : Nat, k ≤ ss.length ∧ i = .int .i64 k ∧ wr = w.alloc (Obj.cells #[.slice none 0 0, .slice none 0 0, .int .i64 0] 33) ∧ ((tls ss).take k).all fineB = true) (fun i _ => ss.length - (intOf i).toNat)
  case atStart => exact ⟨0, Nat.zero_le _, rfl, rfl, by simp⟩
  case round =>
    obtain ⟨k, hk, rfl, rfl, ht⟩ := hrel
    have HT : Hid (((tls ss).take k).all fineB = true) := ht
    clear ht
    by_cases hlt : k < ss.length
    · have hcell : (w.alloc (Obj.cells #[.slice none 0 0, .slice none 0 0, .int .i64 0] 33)).cell? ⟨b, off + k, none⟩ = some (.string ss[k]) := by
        rw [← HC.out k hlt]; exact World.cell?_of_block (((Below.refl _ _).alloc (Nat.le_refl _) _).block b hbl)
      have hS : Hid ((tls ss).take (k + 1) = (tls ss).take k ++ [ss[k].data.toList]) := by
        show _ = _
        rw [List.take_succ_eq_append_getElem (by rw [tls_length]; exact hlt), tls_get ss k hlt]
      have hzk := HZ.out k hlt
      generalize ss[k] = s at *
      cases hf : fineB s.data.toList with
      | true =>
        have HN : Hid (((tls ss).take (k + 1)).all fineB = true) := by
          show _ = _
          rw [hS.out, List.all_append, HT.out]; simp [hf]
        go_wp2_with fail
        refine (refFine_any s (by omega) _).mono ?_
        rintro e wz ⟨rfl, hz⟩
        subst wz
        rw [hf]
        go_wp2_with fail
        go_roundw
        case rel => exact ⟨k + 1, by omega, by go_num, by simp, HN.out⟩
        case measure => simp [intOf]; omega
      | false =>
        go_wp2_with fail
        refine (refFine_any s (by omega) _).mono ?_
        rintro e wz ⟨rfl, hz⟩
        subst wz
        rw [hf]
        go_wp2_with fail
        exact bodyPost_ret (v := .agg #[.slice none 0 0, .slice none 0 0, .int .i64 18]) (by simp [results, Try.results12, go_sem]) rfl ⟨rfl, (Below.refl _ _).alloc (Nat.le_refl _) _⟩
    · exfalso
      have h1 := HT.out
      rw [List.take_of_length_le (by rw [tls_length]; omega), HX.out] at h1
      simp at h1

theorem one_src0 {P : Program} {tx e' : TypeId} (hk : P.underlying tx = some (.slice e')) (w : World) (x : Value) (e : TypeId) (g : Nat) (hg : g = w.heap.size) (h1 : x.oneCell' = true) : Src P 1 tx (.slice (some ⟨g, 0, none⟩) 1 1) 1 [x] (w.alloc (Obj.cells #[x] e)) := by
  subst hg
  exact (Sl.made w [x] #[x] e 1 rfl rfl (by simp [maxLen])).src hk (by intro u hu; simp at hu; subst hu; exact h1)

def ints (l : List Nat) : List Int := l.map fun (a : Nat) => (a : Int)
theorem ints_length (l : List Nat) : (ints l).length = l.length := by simp [ints]
theorem ints_get (l : List Nat) (i : Nat) (h : i < l.length) : (ints l)[i]'(by rw [ints_length]; exact h) = (l[i] : Int) := by simp [ints]

theorem ints_snoc (l : List Nat) (a : Nat) : ints (l ++ [a]) = ints l ++ [(a : Int)] := by simp [ints]
theorem rf_start (w : World) : Rf w ((w.alloc (Obj.cells #[.slice none 0 0, .slice none 0 0, .int .i64 0] 33)).alloc (Obj.cells #[.slice none 0 0, .slice none 0 0, .int .i64 0] 33)) w.heap.size w.heap.size (w.heap.size + 1) (.slice none 0 0) (.slice none 0 0) (.slice none 0 0) (.slice none 0 0) [] [] := by
  have h1 := heap_alloc_new (w.alloc (Obj.cells #[.slice none 0 0, .slice none 0 0, .int .i64 0] 33)) (Obj.cells #[.slice none 0 0, .slice none 0 0, .int .i64 0] 33)
  have h2 := heap_alloc_old (w.alloc (Obj.cells #[.slice none 0 0, .slice none 0 0, .int .i64 0] 33)) (Obj.cells #[.slice none 0 0, .slice none 0 0, .int .i64 0] 33) (r := w.heap.size) (by simp)
  simp only [World.size_alloc] at h1
  exact ⟨h1, h2.trans (heap_alloc_new w _), by omega, OwnV.nil _ _ _, OwnV.nil _ _ _, ((Below.refl _ _).alloc (Nat.le_refl _) _).alloc (by simp) _, by omega, Nat.le_refl _, by simp; omega⟩

set_option maxRecDepth 100000 in
set_option maxHeartbeats 2000000 in
theorem refNames_ok (b off cap : Nat) (ss : List ByteArray) (w : World) (hbl : b < w.heap.size) (hn : ss.length ≤ 60) (hc : ∀ i (h : i < ss.length), w.cell? ⟨b, off + i, none⟩ = some (.string ss[i])) (hall : (tls ss).all fineB = true) :
    Calls Try.prog 12 #[.slice (some ⟨b, off, none⟩) ss.length cap] w fun e w' => ∃ bv av, e = .returned (.agg #[bv, av, .int .i64 0]) ∧ Bs w' bv (pall encN (tls ss)).B ∧ Is w' av (ints (pall encN (tls ss)).ats) ∧ Below w.heap.size w w' := by
  have HFIT : Hid _ := names_fit ss hall hn
  have HC : Hid (∀ i (h : i < ss.length), w.cell? ⟨b, off + i, none⟩ = some (.string ss[i])) := hc
  have HX : Hid (∀ i (h : i < ss.length), fineB ss[i].data.toList = true) := fun i h => by
    rw [List.all_eq_true] at hall
    exact hall _ (by simp only [tls, List.mem_map]; exact ⟨ss[i], List.getElem_mem _, rfl⟩)
  have HG : Hid (∀ k, Good (pall encN ((tls ss).take k)) ((tls ss).take k)) := fun k => good_all encN (fun s _ => by simp [encN]) _
  clear hc hall
  go_enter Try.func12, Try.ntmps12
  go_wp2_with fail
  go_loopw [3] (fun i wr => ∃ k : Nat, k ≤ ss.length ∧ i = .int .i64 k ∧ wr = w.alloc (Obj.cells #[.slice none 0 0, .slice none 0 0, .int .i64 0] 33)) (fun i _ => ss.length - (intOf i).toNat)
  case atStart => exact ⟨0, Nat.zero_le _, rfl, rfl⟩
  case round =>
    obtain ⟨k, hk, rfl, rfl⟩ := hrel
    by_cases hlt : k < ss.length
    · have hcell : (w.alloc (Obj.cells #[.slice none 0 0, .slice none 0 0, .int .i64 0] 33)).cell? ⟨b, off + k, none⟩ = some (.string ss[k]) := by
        rw [← HC.out k hlt]; exact World.cell?_of_block (((Below.refl _ _).alloc (Nat.le_refl _) _).block b hbl)
      have hf := HX.out k hlt
      have hzk := (fine_pos hf).2
      generalize ss[k] = s at *
      go_wp2_with fail
      refine (refFine_any s (by omega) _).mono ?_
      rintro e wz ⟨rfl, hz⟩
      subst wz
      rw [hf]
      go_wp2_with fail
      go_roundw
      case rel => exact ⟨k + 1, by omega, by go_num, by simp⟩
      case measure => simp [intOf]; omega
    · have HR0 : Hid _ := rf_start w
      have HR1 : Hid (Rf w (((w.alloc (Obj.cells #[.slice none 0 0, .slice none 0 0, .int .i64 0] 33)).alloc (Obj.cells #[.slice none 0 0, .slice none 0 0, .int .i64 0] 33)).alloc (Obj.cells #[.int .u8 0] 5)) w.heap.size w.heap.size (w.heap.size + 1) (.slice none 0 0) (.slice none 0 0) (.slice none 0 0) (.slice none 0 0) [] []) := HR0.out.later ((Below.refl _ _).alloc (Nat.le_refl _) _)
      go_wp2_with (at_builtin; go_must (refine wpList_append_at rfl _ _ _ _ rfl w.heap.size 5 (.int .u8 0) 1 Try.underlying27 Try.infoU8 rfl rfl rfl HR1.out.ownB (one_src0 Try.underlying27 _ _ _ _ (by simp) rfl) (by simp [u8s, maxLen]) (by simp [u8s]) HR1.out.top ?_))
      intro v1 w1 ho1 hg1 _ _
      have HR2 : Hid (Rf w w1 w.heap.size w.heap.size (w.heap.size + 1) (.slice none 0 0) (.slice none 0 0) v1 (.slice none 0 0) [0] []) := HR1.out.appB (ys := [0]) hg1 ho1
      obtain ⟨⟨a1, c1, e1, hc1⟩, -⟩ := HR2.out.shapes
      have e1' : v1 = .slice a1 1 c1 := e1
      clear e1
      subst e1'
      have HR3 : Hid (Rf w (w1.setCell ⟨w.heap.size + 1, 0, none⟩ (.slice a1 1 c1)) w.heap.size w.heap.size (w.heap.size + 1) (.slice a1 1 c1) (.slice none 0 0) (.slice a1 1 c1) (.slice none 0 0) [0] []) := HR2.out.setB
      obtain ⟨d0, d1, d2, d3, d4⟩ := HR2.out.cells
      clear ho1 hg1
      go_wp2_with fail
      go_loopw [5] (fun i wq => ∃ (k : Nat) (bv av : Value), k ≤ ss.length ∧ i = .int .i64 k ∧ Rf w wq w.heap.size w.heap.size (w.heap.size + 1) bv av bv av (pall encN ((tls ss).take k)).B (ints (pall encN ((tls ss).take k)).ats)) (fun i _ => ss.length - (intOf i).toNat)
      case atStart => exact ⟨0, _, _, Nat.zero_le _, rfl, HR3.out⟩
      case round =>
        obtain ⟨i, bv, av, hi, rfl, hr⟩ := hrel
        have HR : Hid (Rf w wr w.heap.size w.heap.size (w.heap.size + 1) bv av bv av (pall encN ((tls ss).take i)).B (ints (pall encN ((tls ss).take i)).ats)) := hr
        clear hr HR0 HR1 HR2 HR3 d0 d1 d2 d3 d4
        have HL : Hid ((pall encN ((tls ss).take i)).ats.length = i) := by
          show _ = _
          rw [(HG.out i).len]; simp [tls_length]; omega
        obtain ⟨⟨ba, bc, ebv, hbc⟩, ⟨aa, ac, eav, hac1, hac2, hcells⟩⟩ := HR.out.shapes
        rw [ints_length, HL.out] at eav hac1
        subst ebv eav
        have hcs := HR.out.below.size
        by_cases hlt2 : i < ss.length
        · have HE : Hid (pall encN ((tls ss).take (i + 1)) = pstep encN (pall encN ((tls ss).take i)) ss[i].data.toList) := by
            show _ = _
            rw [pall_succ encN (tls ss) i (by rw [tls_length]; exact hlt2), tls_get ss i hlt2]
          have HGi : Hid (Good (pall encN ((tls ss).take i)) ((tls ss).take i)) := HG.out i
          have hBl : (pall encN ((tls ss).take i)).B.length ≤ 65536 := HFIT.out i hi
          obtain ⟨hs1, hs24⟩ := fine_pos (HX.out i hlt2)
          have HW : Hid (∀ j (h : j < ss.length), wr.cell? ⟨b, off + j, none⟩ = some (.string ss[j])) := fun j h => by
            rw [← HC.out j h]; exact World.cell?_of_block (HR.out.below.block b hbl)
          have HTK : Hid (∀ j (h : j < i) (g : j < ((tls ss).take i).length), ((tls ss).take i)[j] = ss[j].data.toList) := fun j h g => by
            rw [List.getElem_take, tls_get ss j (by omega)]
          have HTL : Hid (((tls ss).take i).length = i) := by show _ = _; simp [tls_length]; omega
          have hce := HW.out i hlt2
          obtain ⟨d0, d1, d2, d3, d4⟩ := HR.out.cells
          have HCE : Hid _ := hcells
          clear hcells
          generalize pall encN ((tls ss).take i) = p at *
          generalize (tls ss).take i = li at *
          generalize ss[i] = s at *
          have hsl := toList_len s
          go_wp2_with fail
          go_loopw [6, 7] (fun a j wq => ∃ jj m nn : Nat, jj ≤ i ∧ j = .int .i64 jj ∧ a = .int .i64 m ∧ wq = wr.drewN nn ∧ Seek li p s.data.toList jj m) (fun _ j _ => i - (intOf j).toNat)
          case atStart => exact ⟨0, 0, 0, Nat.zero_le _, rfl, rfl, rfl, seek0 _ _ _⟩
          case round =>
            obtain ⟨jj, m, nn, hjj, rfl, rfl, rfl, hseek⟩ := hrel
            have HS : Hid (Seek li p s.data.toList jj m) := hseek
            clear hseek
            by_cases hm : m = 0
            · subst hm
              by_cases hji : jj < i
              · have hcj := HW.out jj (by omega)
                have htk := HTK.out jj hji (by rw [HTL.out]; exact hji)
                have hgl : jj < p.ats.length := by rw [HL.out]; exact hji
                obtain ⟨ab, haa, hac⟩ := HCE.out (by intro e; have := congrArg List.length e; rw [ints_length, HL.out] at this; simp only [List.length_nil] at this; omega)
                subst haa
                have hca := hac jj (by rw [ints_length]; exact hgl)
                rw [ints_get _ _ hgl] at hca
                have HH : Hid (ss[jj].data.toList = s.data.toList → Seek li p s.data.toList (jj + 1) p.ats[jj]) := fun e => HS.out.hit HGi.out (by rw [HTL.out]; exact hji) hgl (by rw [htk]; exact e)
                have HM : Hid (ss[jj].data.toList ≠ s.data.toList → Seek li p s.data.toList (jj + 1) 0) := fun e => HS.out.miss (by rw [HTL.out]; exact hji) (by rw [htk]; exact e)
                clear hac htk
                generalize p.ats[jj] = pa at *
                generalize ss[jj] = sj at *
                have hsq := str_eq sj s
                by_cases heq : sj.data.toList = s.data.toList
                · rw [decide_eq_true heq] at hsq
                  have HN : Hid (Seek li p s.data.toList (jj + 1) pa) := HH.out heq
                  go_wp2_with fail
                  go_quiet (fail)
                  go_wp2_with fail
                  go_roundw
                  case rel => exact ⟨jj + 1, pa, nn + nq, by omega, by go_num, rfl, rfl, HN.out⟩
                  case measure => simp [intOf]; omega
                · rw [decide_eq_false heq] at hsq
                  have HN : Hid (Seek li p s.data.toList (jj + 1) 0) := HM.out heq
                  go_wp2_with fail
                  go_quiet (fail)
                  go_wp2_with fail
                  go_roundw
                  case rel => exact ⟨jj + 1, 0, nn + nq, by omega, by go_num, rfl, rfl, HN.out⟩
                  case measure => simp [intOf]; omega
              · have hnone := HS.out.none HGi.out (by rw [HTL.out]; omega) (by intro e; have := congrArg List.length e; rw [hsl] at this; simp only [List.length_nil] at this; omega)
                obtain ⟨hB', hat⟩ := pstep_none hnone encN
                have HFIN : Hid ((pall encN ((tls ss).take (i + 1))).B = p.B ++ s.data.toList ++ [0] ∧ ints (pall encN ((tls ss).take (i + 1))).ats = ints p.ats ++ [(p.B.length : Int)]) := by
                  show _ ∧ _
                  rw [HE.out]; exact ⟨by rw [hB']; simp [encN], by rw [pstep_ats, hat, ints_snoc]⟩
                have HRD : Hid (∀ W, Below wr.heap.size wr W → Rf w W w.heap.size w.heap.size (w.heap.size + 1) (.slice ba p.B.length bc) (.slice aa i ac) (.slice ba p.B.length bc) (.slice aa i ac) p.B (ints p.ats)) := fun W hW => HR.out.later hW
                have HSL : Hid (s.data.toList.length = s.size) := hsl
                clear hB' hat hnone hsl
                go_wp2_with fail
                go_region_law (refine step_append_at rfl (.tmp 62) (.tmp 66) 27 9 rfl w.heap.size 5 (.int .u8 0) 1 Try.underlying27 Try.infoU8 rfl (by simp [Act.eval, Act.put]) (by simp [Act.eval, Act.put]) (HRD.out (wr.drewN (nn + 1)) ⟨rfl, rfl, rfl, Nat.le_refl _, fun _ _ => rfl⟩).ownB (str_src _ Try.underlying9 s) (by rw [u8s_length]; unfold maxLen; omega) (by rw [u8s_length]; omega) (HRD.out (wr.drewN (nn + 1)) ⟨rfl, rfl, rfl, Nat.le_refl _, fun _ _ => rfl⟩).top ?_; intro v1 w1 ho1 hg1; have HRa : Hid (Rf w w1 w.heap.size w.heap.size (w.heap.size + 1) (.slice ba p.B.length bc) (.slice aa i ac) v1 (.slice aa i ac) (p.B ++ s.data.toList) (ints p.ats)) := (HRD.out (wr.drewN (nn + 1)) ⟨rfl, rfl, rfl, Nat.le_refl _, fun _ _ => rfl⟩).appB hg1 ho1; obtain ⟨⟨a1', c1', e1', -⟩, -⟩ := HRa.out.shapes; obtain ⟨l1', hl1'⟩ : ∃ l, l = (p.B ++ s.data.toList).length := ⟨_, rfl⟩; rw [← hl1'] at e1'; subst e1'; obtain ⟨k0, k1, k2, k3, k4⟩ := HRa.out.cells; have HRb : Hid (Rf w (w1.setCell ⟨w.heap.size + 1, 0, none⟩ (.slice a1' l1' c1')) w.heap.size w.heap.size (w.heap.size + 1) (.slice a1' l1' c1') (.slice aa i ac) (.slice a1' l1' c1') (.slice aa i ac) (p.B ++ s.data.toList) (ints p.ats)) := HRa.out.setB; clear ho1 hg1 hl1')
                all_goals
                  have hlen2 : (p.B ++ s.data.toList).length = p.B.length + s.size := by rw [List.length_append, HSL.out]
                  have HRc : Hid (Rf w ((w1.setCell ⟨w.heap.size + 1, 0, none⟩ (.slice a1' l1' c1')).alloc (Obj.cells #[.int .u8 0] 5)) w.heap.size w.heap.size (w.heap.size + 1) (.slice a1' l1' c1') (.slice aa i ac) (.slice a1' l1' c1') (.slice aa i ac) (p.B ++ s.data.toList) (ints p.ats)) := HRb.out.later ((Below.refl _ _).alloc (Nat.le_refl _) _)
                  obtain ⟨n0, n1, n2, n3, n4⟩ := HRb.out.cells
                  go_wp2_with (at_builtin; go_must (refine wpList_append_at rfl _ _ _ _ rfl w.heap.size 5 (.int .u8 0) 1 Try.underlying27 Try.infoU8 rfl rfl rfl HRc.out.ownB (one_src0 Try.underlying27 _ _ _ _ (by simp) rfl) (by rw [u8s_length]; unfold maxLen; omega) (by rw [u8s_length]; omega) HRc.out.top ?_))
                  intro v2 w2 ho2 hg2 _ _
                  have HRd : Hid (Rf w w2 w.heap.size w.heap.size (w.heap.size + 1) (.slice a1' l1' c1') (.slice aa i ac) v2 (.slice aa i ac) (p.B ++ s.data.toList ++ [0]) (ints p.ats)) := HRc.out.appB (ys := [0]) hg2 ho2
                  obtain ⟨⟨a2, c2, e2, -⟩, -⟩ := HRd.out.shapes
                  obtain ⟨l2, hl2⟩ : ∃ l, l = (p.B ++ s.data.toList ++ [0]).length := ⟨_, rfl⟩
                  rw [← hl2] at e2
                  subst e2
                  obtain ⟨o0, o1, o2, o3, o4⟩ := HRd.out.cells
                  have HRe : Hid (Rf w (w2.setCell ⟨w.heap.size + 1, 0, none⟩ (.slice a2 l2 c2)) w.heap.size w.heap.size (w.heap.size + 1) (.slice a2 l2 c2) (.slice aa i ac) (.slice a2 l2 c2) (.slice aa i ac) (p.B ++ s.data.toList ++ [0]) (ints p.ats)) := HRd.out.setB
                  obtain ⟨r0, r1, r2, r3, r4⟩ := HRe.out.cells
                  have HR1 : Hid (Rf w ((w2.setCell ⟨w.heap.size + 1, 0, none⟩ (.slice a2 l2 c2)).alloc (Obj.cells #[.int .i64 (p.B.length : Int)] 3)) w.heap.size w.heap.size (w.heap.size + 1) (.slice a2 l2 c2) (.slice aa i ac) (.slice a2 l2 c2) (.slice aa i ac) (p.B ++ s.data.toList ++ [0]) (ints p.ats)) := HRe.out.later ((Below.refl _ _).alloc (Nat.le_refl _) _)
                  clear ho2 hg2 hl2 d0 d1 d2 d3 d4 k0 k1 k2 k3 k4 n0 n1 n2 n3 n4
                  go_wp2_with (at_builtin; go_must (refine wpList_append_at rfl _ _ _ _ rfl w.heap.size 3 (.int .i64 0) 8 Try.underlying28 Try.infoInt rfl rfl rfl HR1.out.ownA (one_src0 Try.underlying28 _ _ _ _ (by simp) rfl) (by rw [i64s_length, ints_length, HL.out]; unfold maxLen; omega) (by rw [i64s_length, ints_length, HL.out]; omega) HR1.out.top ?_))
                  intro v3 w3 ho3 hg3 _ _
                  have HR4 : Hid (Rf w w3 w.heap.size w.heap.size (w.heap.size + 1) (.slice a2 l2 c2) (.slice aa i ac) (.slice a2 l2 c2) v3 (p.B ++ s.data.toList ++ [0]) (ints p.ats ++ [((p.B.length : Nat) : Int)])) := HR1.out.appA hg3 ho3
                  obtain ⟨-, ⟨a3, c3, e3, -⟩⟩ := HR4.out.shapes
                  obtain ⟨l3, hl3⟩ : ∃ l, l = (ints p.ats ++ [((p.B.length : Nat) : Int)]).length := ⟨_, rfl⟩
                  rw [← hl3] at e3
                  subst e3
                  have HR5 : Hid (Rf w (w3.setCell ⟨w.heap.size + 1, 1, none⟩ (.slice a3 l3 c3)) w.heap.size w.heap.size (w.heap.size + 1) (.slice a2 l2 c2) (.slice a3 l3 c3) (.slice a2 l2 c2) (.slice a3 l3 c3) (p.B ++ s.data.toList ++ [0]) (ints p.ats ++ [((p.B.length : Nat) : Int)])) := HR4.out.setA
                  obtain ⟨g0, g1, g2, g3, g4⟩ := HR4.out.cells
                  clear ho3 hg3 hl3
                  go_wp2_with fail
                  go_roundw
                  case rel => exact ⟨i + 1, _, _, by omega, by go_num, by rw [HFIN.out.1, HFIN.out.2]; exact HR5.out⟩
                  case measure => simp [intOf]; omega
            · obtain ⟨hB', hat⟩ := HS.out.step_hit hm encN
              have hmz : ((m : Int) == 0) = false := by rw [beq_eq_false_iff_ne]; omega
              have HR1 : Hid (Rf w ((wr.drewN nn).alloc (Obj.cells #[.int .i64 (m : Int)] 3)) w.heap.size w.heap.size (w.heap.size + 1) (.slice ba p.B.length bc) (.slice aa i ac) (.slice ba p.B.length bc) (.slice aa i ac) p.B (ints p.ats)) := (HR.out.drewN nn).later ((Below.refl _ _).alloc (Nat.le_refl _) _)
              have HFIN : Hid ((pall encN ((tls ss).take (i + 1))).B = p.B ∧ ints (pall encN ((tls ss).take (i + 1))).ats = ints p.ats ++ [(m : Int)]) := by
                show _ ∧ _
                rw [HE.out]; exact ⟨hB', by rw [pstep_ats, hat, ints_snoc]⟩
              clear hB' hat
              by_cases hji : jj < i
              · go_wp2_with (at_builtin; go_must (refine wpList_append_at rfl _ _ _ _ rfl w.heap.size 3 (.int .i64 0) 8 Try.underlying28 Try.infoInt rfl rfl rfl HR1.out.ownA (one_src0 Try.underlying28 _ _ _ _ (by simp) rfl) (by rw [i64s_length, ints_length, HL.out]; unfold maxLen; omega) (by rw [i64s_length, ints_length, HL.out]; omega) HR1.out.top ?_))
                intro v3 w3 ho3 hg3 _ _
                have HR4 : Hid (Rf w w3 w.heap.size w.heap.size (w.heap.size + 1) (.slice ba p.B.length bc) (.slice aa i ac) (.slice ba p.B.length bc) v3 p.B (ints p.ats ++ [(m : Int)])) := HR1.out.appA hg3 ho3
                obtain ⟨-, ⟨a3, c3, e3, -⟩⟩ := HR4.out.shapes
                obtain ⟨l3, hl3⟩ : ∃ l, l = (ints p.ats ++ [(m : Int)]).length := ⟨_, rfl⟩
                rw [← hl3] at e3
                subst e3
                have HR5 : Hid (Rf w (w3.setCell ⟨w.heap.size + 1, 1, none⟩ (.slice a3 l3 c3)) w.heap.size w.heap.size (w.heap.size + 1) (.slice ba p.B.length bc) (.slice a3 l3 c3) (.slice ba p.B.length bc) (.slice a3 l3 c3) p.B (ints p.ats ++ [(m : Int)])) := HR4.out.setA
                obtain ⟨g0, g1, g2, g3, g4⟩ := HR4.out.cells
                clear ho3 hg3 hl3
                go_wp2_with fail
                go_roundw
                case rel => exact ⟨i + 1, _, _, by omega, by go_num, by rw [HFIN.out.1, HFIN.out.2]; exact HR5.out⟩
                case measure => simp [intOf]; omega
              · go_wp2_with (at_builtin; go_must (refine wpList_append_at rfl _ _ _ _ rfl w.heap.size 3 (.int .i64 0) 8 Try.underlying28 Try.infoInt rfl rfl rfl HR1.out.ownA (one_src0 Try.underlying28 _ _ _ _ (by simp) rfl) (by rw [i64s_length, ints_length, HL.out]; unfold maxLen; omega) (by rw [i64s_length, ints_length, HL.out]; omega) HR1.out.top ?_))
                intro v3 w3 ho3 hg3 _ _
                have HR4 : Hid (Rf w w3 w.heap.size w.heap.size (w.heap.size + 1) (.slice ba p.B.length bc) (.slice aa i ac) (.slice ba p.B.length bc) v3 p.B (ints p.ats ++ [(m : Int)])) := HR1.out.appA hg3 ho3
                obtain ⟨-, ⟨a3, c3, e3, -⟩⟩ := HR4.out.shapes
                obtain ⟨l3, hl3⟩ : ∃ l, l = (ints p.ats ++ [(m : Int)]).length := ⟨_, rfl⟩
                rw [← hl3] at e3
                subst e3
                have HR5 : Hid (Rf w (w3.setCell ⟨w.heap.size + 1, 1, none⟩ (.slice a3 l3 c3)) w.heap.size w.heap.size (w.heap.size + 1) (.slice ba p.B.length bc) (.slice a3 l3 c3) (.slice ba p.B.length bc) (.slice a3 l3 c3) p.B (ints p.ats ++ [(m : Int)])) := HR4.out.setA
                obtain ⟨g0, g1, g2, g3, g4⟩ := HR4.out.cells
                clear ho3 hg3 hl3
                go_wp2_with fail
                go_roundw
                case rel => exact ⟨i + 1, _, _, by omega, by go_num, by rw [HFIN.out.1, HFIN.out.2]; exact HR5.out⟩
                case measure => simp [intOf]; omega
        · obtain ⟨d0, d1, d2, d3, d4⟩ := HR.out.cells
          obtain ⟨f0, f1, f2, f3, f4, f5⟩ := HR.out.rcells
          have hBl : (pall encN ((tls ss).take i)).B.length ≤ 65536 := HFIT.out i hi
          have HBB : Hid (pall encN ((tls ss).take i) = pall encN (tls ss)) := by show _ = _; rw [List.take_of_length_le (by rw [tls_length]; omega)]
          have HF : Hid (∀ W, W = ((wr.setCell ⟨w.heap.size, 0, none⟩ (.slice ba (pall encN ((tls ss).take i)).B.length bc)).setCell ⟨w.heap.size, 1, none⟩ (.slice aa i ac)).setCell ⟨w.heap.size, 2, none⟩ (.int .i64 0) → Below w.heap.size w W ∧ Bs W (.slice ba (pall encN ((tls ss).take i)).B.length bc) (pall encN (tls ss)).B ∧ Is W (.slice aa i ac) (ints (pall encN (tls ss)).ats) ∧ W.cell? ⟨w.heap.size, 0, none⟩ = some (.slice ba (pall encN ((tls ss).take i)).B.length bc) ∧ W.cell? ⟨w.heap.size, 1, none⟩ = some (.slice aa i ac) ∧ W.cell? ⟨w.heap.size, 2, none⟩ = some (.int .i64 0)) := fun W hW => by
            rw [← HBB.out]; exact HR.out.finish _ _ _ W hW
          clear HFIT
          generalize pall encN ((tls ss).take i) = q at *
          go_wp2_with fail
          obtain ⟨q1, q2, q3, q4, q5, q6⟩ := HF.out _ rfl
          exact bodyPost_ret (v := .agg #[.slice ba q.B.length bc, .slice aa i ac, .int .i64 0]) (by simp [results, Try.results12, go_sem, q4, q5, q6]) rfl ⟨_, _, rfl, q2, q3, q1⟩

end Go.Proofs.Ytlcfbnbbdpgjiaa
