
/- opens, ways, Pass, Leave of the references. -/
import Derived.Test.YtbfcdcdeohikpaaWays9
namespace Go.Proofs.Ytbfcdcdeohikpaa
set_option linter.unusedVariables false
set_option linter.unusedSimpArgs false
open Go.RowKit
attribute [local go_sem ↓] Go.wp_at_zero Go.wp_at_succ

set_option maxHeartbeats 2000000 in
theorem opens_any {r : Sp} {l : List Cl} {lv : Value} {n : Int} {w : World} (hv : ValR l r) (hE : Es clE9 w lv l) :
    Calls Try.prog 74 #[lv, spV9 r, .int .i64 n] w fun e w' => e = .returned (.bool (opB l n r)) ∧ Below w.heap.size w w' := by
  obtain ⟨k, hk, hr, _⟩ := hv
  have hne : l ≠ [] := by intro e; subst e; simp at hk
  have HR : Hid (∀ x : Int, opB l n ((k : Int), x) = (decide (x = 1) && decide (l[k].tf = n))) := fun x => opB_eq (r := ((k : Int), x)) hk rfl
  have hll := hE.len
  unfold maxLen at hll
  obtain ⟨b, off, cap, rfl, _, hcm, hb, hc⟩ := hE.parts hne
  obtain ⟨r1, r2⟩ := r
  simp only at hr
  subst hr
  obtain ⟨w0, hw0⟩ : ∃ W, W = w.alloc (.cells #[.int .i64 (k : Int), .int .i64 r2] 46) := ⟨_, rfl⟩
  have HW0 : Hid (w0 = _) := hw0
  have hb0 : Below w.heap.size w w0 := by rw [hw0]; exact made_below _ _ _
  have HB0 : Hid (Below w.heap.size w w0) := hb0
  have hA : At w0 w.heap.size #[.int .i64 (k : Int), .int .i64 r2] 46 := by rw [hw0]; exact At.made w _ _
  obtain ⟨d0, d1⟩ := hA.box2
  obtain ⟨c0, c1, c2, c3, c4, c5, c6, c7, c8, c9⟩ := ((hc k hk).below hb0 hb).ten
  have z : clE9.size = 10 := rfl
  rw [z] at c1
  have n1 : (k : Int) < (l.length : Int) := by omega
  have n2 : (0 : Int) ≤ (k : Int) := by omega
  clear hw0 hb0 hA hE hc hne z c0 c2 c3 c4 c5 c6 c7 c8 c9
  generalize l[k] = c at *
  unfold spV9
  go_enter Try.func74, Try.ntmps74
  go_wp2_with (rw [← HW0.out])
  all_goals go_ret
  all_goals refine ⟨ret_bool ?_, HB0.out⟩
  all_goals (rw [HR.out, Bool.eq_iff_iff]; simp_all)

/-- What the search goes by. -/
theorem way_no {l : List Cl} {out : Bool} {n : Int} {la lb : List Sp} {i : Nat} (hq : ∀ i0, i0 ≤ i → ∀ k, k ≤ lb.length → (∀ x ∈ lb.take k, opB l n x = true) → la.drop i0 ≠ lb.drop k) (hs : out = false ∨ i = la.length ∨ ∃ h : i < la.length, lvB l la[i] = false) : ¬ WayR l out n la lb := by
  rintro ⟨i', k', h1, h2, h3, h4, h5⟩
  rcases Nat.lt_or_ge i i' with g | g
  · cases out with
    | false => simp at h5; omega
    | true =>
      rw [if_pos rfl] at h5
      rcases hs with hs | hs | ⟨hl, hs⟩
      · exact absurd hs (by decide)
      · omega
      · have := h5 la[i] (List.mem_take_iff_getElem.2 ⟨i, by omega, rfl⟩)
        rw [hs] at this
        exact absurd this (by decide)
  · exact hq i' g k' h2 h4 h3

set_option maxHeartbeats 8000000 in
theorem ways_any {v : Value} {l : List Cl} {w : World} {m : Int} (h : Es clE9 w v l) (hr : RightL m l) (hm : m ≤ 100000) (a b : Int) (out : Bool) :
    Calls Try.prog 51 #[v, .int .i64 a, .int .i64 b, .bool out] w fun e w' => ∃ r : Bool, e = .returned (.bool r) ∧ (r = true ↔ WayR l out b (chR l a) (chR l b)) ∧ Below w.heap.size w w' := by
  have HCa : Hid (Calls Try.prog 15 #[v, .int .i64 a] w fun e w' => ∃ v', e = .returned v' ∧ OwnE spE w' w.heap.size 46 v' (chR l a) ∧ Below w.heap.size w w') := refChain_any h hr hm a
  have HCb : Hid (∀ W, Below w.heap.size w W → Calls Try.prog 15 #[v, .int .i64 b] W fun e w' => ∃ v', e = .returned v' ∧ OwnE spE w' W.heap.size 46 v' (chR l b) ∧ Below W.heap.size W w') := fun W hW => refChain_any (h.later hW) hr hm b
  have hla := chain_len hr a
  have hlb := chain_len hr b
  have HVa : Hid (∀ r ∈ chR l a, ValR l r) := chain_val l a
  have HVb : Hid (∀ r ∈ chR l b, ValR l r) := chain_val l b
  have HRg : Hid (∀ k (hk : k < l.length), 1 ≤ l[k].k) := fun k hk => by
    have h0 := hr.2 k hk
    rw [clAt_eq m l k hk] at h0
    have := (cl_ok h0).1
    rw [rng_iff] at this
    exact this.1
  have HE : Hid (∀ W, Below w.heap.size w W → Es clE9 W v l) := fun W hW => h.later hW
  clear h hr
  generalize chR l a = la at *
  generalize chR l b = lb at *
  go_enter Try.func51, Try.ntmps51
  go_wp2_with fail
  refine Calls.mono HCa.out ?_
  rintro e w1 ⟨v1, rfl, ho1, hb1⟩
  have HO1 : Hid (OwnE spE w1 w.heap.size 46 v1 la) := ho1
  have HB1 : Hid (Below w.heap.size w w1) := hb1
  clear ho1 hb1
  go_wp2_with fail
  refine (HCb.out w1 HB1.out).mono ?_
  rintro e w2 ⟨v2, rfl, ho2, hb2⟩
  have HA2 : Hid (Es spE w2 v1 la) := (HO1.out.later hb2).es
  have HB2' : Hid (Es spE w2 v2 lb) := ho2.es
  have HB2 : Hid (Below w.heap.size w w2) := bstep HB1.out hb2
  obtain ⟨xa, xca, hx1, _, hxa⟩ := HA2.out.shape
  obtain ⟨xb, xcb, hx2, _, hxb⟩ := HB2'.out.shape
  unfold maxLen at hxa hxb
  clear ho2 hb2 HCa HCb HO1
  subst hx1 hx2
  go_wp2_with fail
  go_loopw [11] (fun z wr => ∃ i : Nat, i ≤ la.length ∧ z = .int .i64 (i : Int) ∧ Below w2.heap.size w2 wr ∧ Hid (∀ i0, i0 < i → ∀ k, k ≤ lb.length → (∀ x ∈ lb.take k, opB l b x = true) → la.drop i0 ≠ lb.drop k) ∧ Hid (i ≠ 0 → out = true) ∧ Hid (∀ x ∈ la.take i, lvB l x = true)) (fun z _ => la.length + 1 - (intOf z).toNat)
  case atStart => exact ⟨0, Nat.zero_le _, rfl, Below.refl _ _, fun i0 h => absurd h (Nat.not_lt_zero _), fun h => absurd rfl h, fun x hx => by simp at hx⟩
  case round =>
    obtain ⟨i, hi, rfl, hB, HZ, HOu, HLv⟩ := hrel
    have HBL : Hid (Below w2.heap.size w2 wr) := hB
    have hi' : (i : Int) ≤ (la.length : Int) := by omega
    clear hB
    go_wp2_with fail
    obtain ⟨wo, rfl⟩ : ∃ wo, wo = wr := ⟨_, rfl⟩
    have htail : Hid (∀ (P : Prop), P → P) := fun _ h => h
    go_loopw [12] (fun z wr => ∃ k : Nat, k ≤ lb.length + 1 ∧ z = .int .i64 (k : Int) ∧ Below w2.heap.size w2 wr ∧ Hid (∀ k0, k0 < k → la.drop i ≠ lb.drop k0) ∧ Hid (∀ x ∈ lb.take k, opB l b x = true)) (fun z _ => lb.length + 1 - (intOf z).toNat)
    case atStart => exact ⟨0, Nat.zero_le _, rfl, HBL.out, fun k0 h => absurd h (Nat.not_lt_zero _), fun x hx => by simp at hx⟩
    case round =>
      obtain ⟨k, hk, rfl, hB, HNk, HOp⟩ := hrel
      have HBk : Hid (Below w2.heap.size w2 wr) := hB
      clear hB
      by_cases hkl : k ≤ lb.length
      · have hkl' : (k : Int) ≤ (lb.length : Int) := by omega
        have HSa : Hid (Calls Try.prog 40 #[.slice xa la.length xca, .int .i64 (i : Int), .slice xb lb.length xcb, .int .i64 (k : Int)] wr fun e w' => e = .returned (.bool (decide (la.drop i = lb.drop k))) ∧ Below wr.heap.size wr w') := same9_any (HA2.out.later HBk.out) (HB2'.out.later HBk.out) (by omega) (by omega) i k hi hkl
        go_wp2_with fail
        refine Calls.mono HSa.out ?_
        rintro e w3 ⟨rfl, hb3⟩
        have HB3 : Hid (Below w2.heap.size w2 w3) := bstep HBk.out hb3
        clear hb3 HSa
        by_cases hs : la.drop i = lb.drop k
        · have HW : Hid (WayR l out b la lb) := by
            refine ⟨i, k, hi, hkl, hs, HOp.out, ?_⟩
            cases out with
            | true => rw [if_pos rfl]; exact HLv.out
            | false =>
              rw [if_neg (by decide)]
              rcases Nat.eq_zero_or_pos i with g | g
              · exact g
              · exact absurd (HOu.out (by omega)) (by decide)
          rw [decide_eq_true hs]
          clear hs
          go_wp2_with fail
          go_ret
          exact ⟨true, rfl, ⟨fun _ => HW.out, fun _ => rfl⟩, bstep HB2.out HB3.out⟩
        · rw [decide_eq_false hs]
          have HN2 : Hid (∀ k0, k0 < k + 1 → la.drop i ≠ lb.drop k0) := fun k0 h => by
            rcases Nat.lt_or_ge k0 k with g | g
            · exact HNk.out k0 g
            · obtain rfl : k0 = k := by omega
              exact hs
          clear hs
          by_cases hlt : k < lb.length
          · have hlt' : (k : Int) < (lb.length : Int) := by omega
            have nb : lb ≠ [] := by intro e; subst e; simp at hlt
            obtain ⟨bb, ob, cb', e2, _, _, hbb, hcb⟩ := HB2'.out.parts nb
            simp only [Value.slice.injEq] at e2
            obtain ⟨rfl, _, rfl⟩ := e2
            obtain ⟨d0, d1⟩ := ((hcb k hlt).below HB3.out hbb).two
            have z2 : spE.size = 2 := rfl
            rw [z2] at d0 d1
            have HOn : Hid (Calls Try.prog 74 #[v, .agg #[.int .i64 lb[k].1, .int .i64 lb[k].2], .int .i64 b] w3 fun e w' => e = .returned (.bool (opB l b lb[k])) ∧ Below w3.heap.size w3 w') := opens_any (HVb.out _ (List.getElem_mem hlt)) (HE.out w3 (bstep HB2.out HB3.out))
            have HYo : Hid (opB l b lb[k] = true → ∀ x ∈ lb.take (k + 1), opB l b x = true) := fun ho x hx => by
              rw [List.take_succ_eq_append_getElem hlt, List.mem_append, List.mem_singleton] at hx
              rcases hx with hx | rfl
              · exact HOp.out x hx
              · exact ho
            have HNo : Hid (opB l b lb[k] = false → ∀ k', k' ≤ lb.length → (∀ x ∈ lb.take k', opB l b x = true) → la.drop i ≠ lb.drop k') := fun ho k' hk' hall => by
              rcases Nat.lt_or_ge k' (k + 1) with g | g
              · exact HN2.out k' g
              · have := hall lb[k] (List.mem_take_iff_getElem.2 ⟨k, by omega, rfl⟩)
                rw [ho] at this
                exact absurd this (by decide)
            have n0 : (0 : Int) ≤ (k : Int) := by omega
            clear hcb nb z2
            generalize lb[k] = y at *
            go_wp2_with fail
            refine Calls.mono HOn.out ?_
            rintro e w4 ⟨rfl, hb4⟩
            have HB4 : Hid (Below w2.heap.size w2 w4) := bstep HB3.out hb4
            clear hb4 HOn d0 d1
            cases ho : opB l b y with
            | true =>
              have HO2 : Hid (∀ x ∈ lb.take (k + 1), opB l b x = true) := HYo.out ho
              go_wp2_with fail
              go_roundw
              case rel => exact ⟨k + 1, by omega, by go_num, HB4.out, HN2.out, HO2.out⟩
              case measure => simp [intOf]; omega
            | false =>
              have HN3 : Hid (∀ k', k' ≤ lb.length → (∀ x ∈ lb.take k', opB l b x = true) → la.drop i ≠ lb.drop k') := HNo.out ho
              have HQ : Hid (∀ i0, i0 ≤ i → ∀ k, k ≤ lb.length → (∀ x ∈ lb.take k, opB l b x = true) → la.drop i0 ≠ lb.drop k) := fun i0 h0 => by
                rcases Nat.lt_or_ge i0 i with g | g
                · exact HZ.out i0 g
                · obtain rfl : i0 = i := by omega
                  exact HN3.out
              cases out with
              | false =>
                have HW : Hid (¬ WayR l false b la lb) := way_no HQ.out (.inl rfl)
                go_wp2_with fail
                go_ret
                first | exact ⟨false, rfl, ⟨fun hf => absurd hf (by decide), fun hw => absurd hw HW.out⟩, bstep HB2.out HB4.out⟩ | exact .inl ⟨rfl, HW.out, bstep HB2.out HB4.out⟩
              | true =>
                by_cases hil : i = la.length
                · have HW : Hid (¬ WayR l true b la lb) := way_no HQ.out (.inr (.inl hil))
                  have hil' : ((i : Int) == (la.length : Int)) = true := by rw [beq_iff_eq]; omega
                  have hil2 : (i : Int) = (la.length : Int) := by omega
                  clear hil
                  go_wp2_with fail
                  go_ret
                  first | exact ⟨false, rfl, ⟨fun hf => absurd hf (by decide), fun hw => absurd hw HW.out⟩, bstep HB2.out HB4.out⟩ | exact .inl ⟨rfl, HW.out, bstep HB2.out HB4.out⟩
                · have hil' : ((i : Int) == (la.length : Int)) = false := by rw [beq_eq_false_iff_ne]; omega
                  have hilt : i < la.length := by omega
                  have hilt' : (i : Int) < (la.length : Int) := by omega
                  have na : la ≠ [] := by intro e; subst e; simp at hilt
                  obtain ⟨ba, oa, ca', e2, _, _, hba, hca⟩ := HA2.out.parts na
                  simp only [Value.slice.injEq] at e2
                  obtain ⟨rfl, _, rfl⟩ := e2
                  obtain ⟨d0, d1⟩ := ((hca i hilt).below HB4.out hba).two
                  have z2 : spE.size = 2 := rfl
                  rw [z2] at d0 d1
                  obtain ⟨kc, hkc, hr1, hr2⟩ := HVa.out _ (List.getElem_mem hilt)
                  have nl : l ≠ [] := by intro e; subst e; simp at hkc
                  obtain ⟨bl, ol, cl, hvl, _, hclm, hbl, hcl⟩ := (HE.out _ (bstep HB2.out HB4.out)).parts nl
                  unfold maxLen at hclm
                  subst hvl
                  obtain ⟨c0, _⟩ := (hcl kc hkc).ten
                  have z10 : clE9.size = 10 := rfl
                  rw [z10] at c0
                  have HLe : Hid (lvB l la[i] = (decide (la[i].2 = 1) || (decide (la[i].2 = 2) && (decide (l[kc].k = 1) || decide (l[kc].k = 2))))) := lvB_eq hkc hr1
                  have HYl : Hid (lvB l la[i] = true → ∀ x ∈ la.take (i + 1), lvB l x = true) := fun ho x hx => by
                    rw [List.take_succ_eq_append_getElem hilt, List.mem_append, List.mem_singleton] at hx
                    rcases hx with hx | rfl
                    · exact HLv.out x hx
                    · exact ho
                  have HNl : Hid (lvB l la[i] = false → ¬ WayR l true b la lb) := fun ho => way_no HQ.out (.inr (.inr ⟨hilt, ho⟩))
                  have hk1 := HRg.out kc hkc
                  have m1 : (kc : Int) < (l.length : Int) := by omega
                  have m2 : (0 : Int) ≤ (kc : Int) := by omega
                  have m3 : (0 : Int) ≤ (i : Int) := by omega
                  rw [hr1] at d0
                  clear hca hcl na nl z2 z10 hr1 hil
                  generalize la[i] = y at *
                  generalize l[kc].k = kd at *
                  obtain ⟨y1, y2⟩ := y
                  simp only at hr2 HLe d1
                  have HQ2 : Hid (∀ i0, i0 < i + 1 → ∀ k, k ≤ lb.length → (∀ x ∈ lb.take k, opB l b x = true) → la.drop i0 ≠ lb.drop k) := fun i0 h0 => HQ.out i0 (by omega)
                  rcases hr2 with hr2 | hr2 | hr2
                  · subst hr2
                    have HL2 : Hid (∀ x ∈ la.take (i + 1), lvB l x = true) := HYl.out (by rw [HLe.out]; rfl)
                    go_wp2_with fail
                    go_roundw
                    case rel => exact ⟨i + 1, by omega, by go_num, HB4.out, HQ2.out, fun _ => (by first | rfl | trivial), HL2.out⟩
                    case measure => simp [intOf]; omega
                  · subst hr2
                    by_cases hkd : 2 < kd
                    · have HW : Hid (¬ WayR l true b la lb) := HNl.out (by rw [HLe.out, decide_eq_false (by omega : ¬ kd = 1), decide_eq_false (by omega : ¬ kd = 2)]; rfl)
                      go_wp2_with fail
                      go_ret
                      first | exact ⟨false, rfl, ⟨fun hf => absurd hf (by decide), fun hw => absurd hw HW.out⟩, bstep HB2.out HB4.out⟩ | exact .inl ⟨rfl, HW.out, bstep HB2.out HB4.out⟩
                    · have hkd2 : kd = 1 ∨ kd = 2 := by omega
                      have HL2 : Hid (∀ x ∈ la.take (i + 1), lvB l x = true) := HYl.out (by rw [HLe.out]; rcases hkd2 with g | g <;> rw [decide_eq_true g] <;> simp)
                      clear hkd2
                      go_wp2_with fail
                      go_roundw
                      case rel => exact ⟨i + 1, by omega, by go_num, HB4.out, HQ2.out, fun _ => (by first | rfl | trivial), HL2.out⟩
                      case measure => simp [intOf]; omega
                  · subst hr2
                    have HW : Hid (¬ WayR l true b la lb) := HNl.out (by rw [HLe.out]; rfl)
                    go_wp2_with fail
                    go_ret
                    first | exact ⟨false, rfl, ⟨fun hf => absurd hf (by decide), fun hw => absurd hw HW.out⟩, bstep HB2.out HB4.out⟩ | exact .inl ⟨rfl, HW.out, bstep HB2.out HB4.out⟩
          · have hlt' : ¬ (k : Int) < (lb.length : Int) := by omega
            have HO2 : Hid (∀ x ∈ lb.take (k + 1), opB l b x = true) := fun x hx => HOp.out x (by rw [List.take_of_length_le (by omega)] at hx ⊢; exact hx)
            go_wp2_with fail
            go_roundw
            case rel => exact ⟨k + 1, by omega, by go_num, HB3.out, HN2.out, HO2.out⟩
            case measure => simp [intOf]; omega
      · have hkl' : ¬ (k : Int) ≤ (lb.length : Int) := by omega
        have HN3 : Hid (∀ k', k' ≤ lb.length → (∀ x ∈ lb.take k', opB l b x = true) → la.drop i ≠ lb.drop k') := fun k' hk' _ => HNk.out k' (by omega)
        have HQ : Hid (∀ i0, i0 ≤ i → ∀ k, k ≤ lb.length → (∀ x ∈ lb.take k, opB l b x = true) → la.drop i0 ≠ lb.drop k) := fun i0 h0 => by
          rcases Nat.lt_or_ge i0 i with g | g
          · exact HZ.out i0 g
          · obtain rfl : i0 = i := by omega
            exact HN3.out
        cases out with
        | false =>
          have HW : Hid (¬ WayR l false b la lb) := way_no HQ.out (.inl rfl)
          go_wp2_with fail
          go_ret
          first | exact ⟨false, rfl, ⟨fun hf => absurd hf (by decide), fun hw => absurd hw HW.out⟩, bstep HB2.out HBk.out⟩ | exact .inl ⟨rfl, HW.out, bstep HB2.out HBk.out⟩
        | true =>
          by_cases hil : i = la.length
          · have HW : Hid (¬ WayR l true b la lb) := way_no HQ.out (.inr (.inl hil))
            have hil' : ((i : Int) == (la.length : Int)) = true := by rw [beq_iff_eq]; omega
            have hil2 : (i : Int) = (la.length : Int) := by omega
            clear hil
            go_wp2_with fail
            go_ret
            first | exact ⟨false, rfl, ⟨fun hf => absurd hf (by decide), fun hw => absurd hw HW.out⟩, bstep HB2.out HBk.out⟩ | exact .inl ⟨rfl, HW.out, bstep HB2.out HBk.out⟩
          · have hil' : ((i : Int) == (la.length : Int)) = false := by rw [beq_eq_false_iff_ne]; omega
            have hilt : i < la.length := by omega
            have hilt' : (i : Int) < (la.length : Int) := by omega
            have na : la ≠ [] := by intro e; subst e; simp at hilt
            obtain ⟨ba, oa, ca', e2, _, _, hba, hca⟩ := HA2.out.parts na
            simp only [Value.slice.injEq] at e2
            obtain ⟨rfl, _, rfl⟩ := e2
            obtain ⟨d0, d1⟩ := ((hca i hilt).below HBk.out hba).two
            have z2 : spE.size = 2 := rfl
            rw [z2] at d0 d1
            obtain ⟨kc, hkc, hr1, hr2⟩ := HVa.out _ (List.getElem_mem hilt)
            have nl : l ≠ [] := by intro e; subst e; simp at hkc
            obtain ⟨bl, ol, cl, hvl, _, hclm, hbl, hcl⟩ := (HE.out _ (bstep HB2.out HBk.out)).parts nl
            unfold maxLen at hclm
            subst hvl
            obtain ⟨c0, _⟩ := (hcl kc hkc).ten
            have z10 : clE9.size = 10 := rfl
            rw [z10] at c0
            have HLe : Hid (lvB l la[i] = (decide (la[i].2 = 1) || (decide (la[i].2 = 2) && (decide (l[kc].k = 1) || decide (l[kc].k = 2))))) := lvB_eq hkc hr1
            have HYl : Hid (lvB l la[i] = true → ∀ x ∈ la.take (i + 1), lvB l x = true) := fun ho x hx => by
              rw [List.take_succ_eq_append_getElem hilt, List.mem_append, List.mem_singleton] at hx
              rcases hx with hx | rfl
              · exact HLv.out x hx
              · exact ho
            have HNl : Hid (lvB l la[i] = false → ¬ WayR l true b la lb) := fun ho => way_no HQ.out (.inr (.inr ⟨hilt, ho⟩))
            have hk1 := HRg.out kc hkc
            have m1 : (kc : Int) < (l.length : Int) := by omega
            have m2 : (0 : Int) ≤ (kc : Int) := by omega
            have m3 : (0 : Int) ≤ (i : Int) := by omega
            rw [hr1] at d0
            clear hca hcl na nl z2 z10 hr1 hil
            generalize la[i] = y at *
            generalize l[kc].k = kd at *
            obtain ⟨y1, y2⟩ := y
            simp only at hr2 HLe d1
            have HQ2 : Hid (∀ i0, i0 < i + 1 → ∀ k, k ≤ lb.length → (∀ x ∈ lb.take k, opB l b x = true) → la.drop i0 ≠ lb.drop k) := fun i0 h0 => HQ.out i0 (by omega)
            rcases hr2 with hr2 | hr2 | hr2
            · subst hr2
              have HL2 : Hid (∀ x ∈ la.take (i + 1), lvB l x = true) := HYl.out (by rw [HLe.out]; rfl)
              go_wp2_with fail
              go_roundw
              case rel => exact ⟨i + 1, by omega, by go_num, HBk.out, HQ2.out, fun _ => (by first | rfl | trivial), HL2.out⟩
              case measure => simp [intOf]; omega
            · subst hr2
              by_cases hkd : 2 < kd
              · have HW : Hid (¬ WayR l true b la lb) := HNl.out (by rw [HLe.out, decide_eq_false (by omega : ¬ kd = 1), decide_eq_false (by omega : ¬ kd = 2)]; rfl)
                go_wp2_with fail
                go_ret
                first | exact ⟨false, rfl, ⟨fun hf => absurd hf (by decide), fun hw => absurd hw HW.out⟩, bstep HB2.out HBk.out⟩ | exact .inl ⟨rfl, HW.out, bstep HB2.out HBk.out⟩
              · have hkd2 : kd = 1 ∨ kd = 2 := by omega
                have HL2 : Hid (∀ x ∈ la.take (i + 1), lvB l x = true) := HYl.out (by rw [HLe.out]; rcases hkd2 with g | g <;> rw [decide_eq_true g] <;> simp)
                clear hkd2
                go_wp2_with fail
                go_roundw
                case rel => exact ⟨i + 1, by omega, by go_num, HBk.out, HQ2.out, fun _ => (by first | rfl | trivial), HL2.out⟩
                case measure => simp [intOf]; omega
            · subst hr2
              have HW : Hid (¬ WayR l true b la lb) := HNl.out (by rw [HLe.out]; rfl)
              go_wp2_with fail
              go_ret
              first | exact ⟨false, rfl, ⟨fun hf => absurd hf (by decide), fun hw => absurd hw HW.out⟩, bstep HB2.out HBk.out⟩ | exact .inl ⟨rfl, HW.out, bstep HB2.out HBk.out⟩

theorem refPass_any {v : Value} {l : List Cl} {w : World} {m : Int} (h : Es clE9 w v l) (hr : RightL m l) (hm : m ≤ 100000) (a b : Int) :
    Calls Try.prog 22 #[v, .int .i64 a, .int .i64 b] w fun e w' => ∃ r : Bool, e = .returned (.bool r) ∧ (r = true ↔ WayR l false b (chR l a) (chR l b)) ∧ Below w.heap.size w w' := by
  have HW : Hid (Calls Try.prog 51 #[v, .int .i64 a, .int .i64 b, .bool false] w fun e w' => ∃ r : Bool, e = .returned (.bool r) ∧ (r = true ↔ WayR l false b (chR l a) (chR l b)) ∧ Below w.heap.size w w') := ways_any h hr hm a b false
  clear h hr
  go_enter Try.func22, Try.ntmps22
  go_wp2_with fail
  refine Calls.mono HW.out ?_
  rintro e w1 ⟨r, rfl, hR, hb1⟩
  have HR : Hid (r = true ↔ WayR l false b (chR l a) (chR l b)) := hR
  clear hR
  go_wp2
  go_ret
  exact ⟨r, rfl, HR.out, hb1⟩
theorem refLeave_any {v : Value} {l : List Cl} {w : World} {m : Int} (h : Es clE9 w v l) (hr : RightL m l) (hm : m ≤ 100000) (a b : Int) :
    Calls Try.prog 23 #[v, .int .i64 a, .int .i64 b] w fun e w' => ∃ r : Bool, e = .returned (.bool r) ∧ (r = true ↔ WayR l true b (chR l a) (chR l b)) ∧ Below w.heap.size w w' := by
  have HW : Hid (Calls Try.prog 51 #[v, .int .i64 a, .int .i64 b, .bool true] w fun e w' => ∃ r : Bool, e = .returned (.bool r) ∧ (r = true ↔ WayR l true b (chR l a) (chR l b)) ∧ Below w.heap.size w w') := ways_any h hr hm a b true
  clear h hr
  go_enter Try.func23, Try.ntmps23
  go_wp2_with fail
  refine Calls.mono HW.out ?_
  rintro e w1 ⟨r, rfl, hR, hb1⟩
  have HR : Hid (r = true ↔ WayR l true b (chR l a) (chR l b)) := hR
  clear hR
  go_wp2
  go_ret
  exact ⟨r, rfl, HR.out, hb1⟩

end Go.Proofs.Ytbfcdcdeohikpaa
