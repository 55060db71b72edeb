
/- Chain of the references. -/
import Derived.Test.YtbfcdcdeohikpaaRefBase9
import Derived.Test.YtbfcdcdeohikpaaChainF9
namespace Go.Proofs.Ytbfcdcdeohikpaa
set_option linter.unusedVariables false
set_option linter.unusedSimpArgs false
open Go.RowKit
attribute [local go_sem ↓] Go.wp_at_zero Go.wp_at_succ

/-- What is found so far: the first that is greater. -/
def ScanR (s : Int) (P : List Lk) (best : Sp) (least : Int) : Prop :=
  (least = 0 ∧ ∀ x ∈ P, ¬ s < lkN x) ∨ (∃ A x B, P = A ++ x :: B ∧ (∀ y ∈ A, ¬ s < lkN y) ∧ s < lkN x ∧ best = lkRg x ∧ least = lkN x)
theorem ScanR.take {s least : Int} {P : List Lk} {best : Sp} {y : Lk} (h : ScanR s P best least) (hp : (P ++ [y]).Pairwise Nst) (hs : 0 ≤ s) (h1 : s < lkN y) (h2 : least = 0 ∨ lkN y < least) : ScanR s (P ++ [y]) (lkRg y) (lkN y) := by
  rcases h with ⟨_, h⟩ | ⟨A, x, B, rfl, hA, hx, _, rfl⟩
  · exact .inr ⟨P, y, [], rfl, h, h1, rfl, rfl⟩
  · have := ((List.pairwise_append.1 hp).2.2 x (by simp) y (by simp)).le
    omega
theorem ScanR.skip {s least : Int} {P : List Lk} {best : Sp} {y : Lk} (h : ScanR s P best least) (hn : ¬ (s < lkN y ∧ (least = 0 ∨ lkN y < least))) : ScanR s (P ++ [y]) best least := by
  rcases h with ⟨h0, h⟩ | ⟨A, x, B, rfl, hA, hx, hb, hl⟩
  · refine .inl ⟨h0, fun x hx => ?_⟩
    simp only [List.mem_append, List.mem_singleton] at hx
    rcases hx with hx | rfl
    · exact h x hx
    · intro hlt; exact hn ⟨hlt, .inl h0⟩
  · exact .inr ⟨A, x, B ++ [y], by simp, hA, hx, hb, hl⟩
theorem ScanR.start (s : Int) (best : Sp) : ScanR s [] best 0 := .inl ⟨rfl, fun x hx => absurd hx (by simp)⟩
theorem ScanR.none {s : Int} {L : List Lk} {best : Sp} (h : ScanR s L best 0) (hs : 0 ≤ s) : cmpL s L = [] := by
  rcases h with ⟨_, h⟩ | ⟨A, x, B, _, _, hx, _, hl⟩
  · exact cmp_none h
  · omega
theorem ScanR.some {s least : Int} {L : List Lk} {best : Sp} (h : ScanR s L best least) (hp : L.Pairwise Nst) (hl : least ≠ 0) : (cmpL s L).map lkRg = best :: (cmpL least L).map lkRg ∧ s < least := by
  rcases h with ⟨h0, _⟩ | ⟨A, x, B, rfl, hA, hx, rfl, rfl⟩
  · exact absurd h0 hl
  · rw [cmp_find hp hA hx]
    exact ⟨rfl, hx⟩

/-- Bounds of a right clause are small. -/
theorem bnd_small {m : Int} {c : Cl} (h : rngB m c = true) (hm : m ≤ 100000) (p : Int) : 0 ≤ (bnd c p).1 ∧ (bnd c p).1 ≤ 100000 ∧ 0 ≤ (bnd c p).2 ∧ (bnd c p).2 ≤ 100000 := by
  rw [rng_iff] at h
  unfold bnd
  split
  · show 0 ≤ c.tf ∧ c.tf ≤ 100000 ∧ 0 ≤ c.tt ∧ c.tt ≤ 100000; omega
  · split
    · show 0 ≤ c.hf ∧ c.hf ≤ 100000 ∧ 0 ≤ c.ht ∧ c.ht ≤ 100000; omega
    · split
      · rename_i h2
        have := h.2.2.2.2.2.2.2.2.1 h2
        show 0 ≤ c.fi ∧ c.fi ≤ 100000 ∧ 0 ≤ c.hf ∧ c.hf ≤ 100000; omega
      · show (0 : Int) ≤ 0 ∧ (0 : Int) ≤ 100000 ∧ (0 : Int) ≤ 0 ∧ (0 : Int) ≤ 100000; omega
def PL (c : Cl) : List Sp := [bnd c 1, bnd c 2, bnd c 3]
theorem PL_get (c : Cl) (p : Nat) (h : p < (PL c).length) : (PL c)[p] = bnd c ((p : Int) + 1) := by
  have h3 : p < 3 := h
  obtain rfl | rfl | rfl : p = 0 ∨ p = 1 ∨ p = 2 := by omega
  · rfl
  · rfl
  · rfl
theorem At.set2 {w : World} {g : Nat} {a b : Value} {t : TypeId} (h : At w g #[a, b] t) (x y : Value) : At ((w.setCell ⟨g, 0, none⟩ x).setCell ⟨g, 1, none⟩ y) g #[x, y] t := by
  have := (h.set 0 x).set 1 y
  simpa using this
theorem pairwise_pre {α : Type} {R : α → α → Prop} {a b : List α} (h : (a ++ b).Pairwise R) : a.Pairwise R := (List.pairwise_append.1 h).1

set_option maxHeartbeats 8000000 in
theorem refChain_some {b off cap : Nat} {m n : Int} {l : List Cl} {w : World} (hb : b < w.heap.size) (hc : ∀ i (hi : i < l.length), El clE9 w b (off + i * 10) l[i]) (hr : RightL m l) (hmm : m ≤ 100000) (hcap : l.length ≤ cap) (hm : cap ≤ maxLen) :
    Calls Try.prog 15 #[.slice (some ⟨b, off, none⟩) l.length cap, .int .i64 n] w fun e w' => ∃ v', e = .returned v' ∧ OwnE spE w' w.heap.size 46 v' (chR l n) ∧ Below w.heap.size w w' := by
  unfold maxLen at hm
  have hl6 := hr.1
  have HC : Hid (∀ i (hi : i < l.length), ∀ W, Below w.heap.size w W → Ten W b (off + i * 10) l[i]) := fun i hi W hW => ((hc i hi).below hW hb).ten
  have HP : Hid ((lkL n 0 l).Pairwise Nst) := hr.nested n
  have HRg : Hid (∀ k (hk : k < l.length), rngB m l[k] = true) := fun k hk => by
    have h0 := hr.2 k hk
    rw [clAt_eq m l k hk] at h0
    exact (cl_ok h0).1
  have HLn : Hid ((chR l n).length ≤ 18) := by
    show _ ≤ _
    have h1 := lkL_len n l 0
    unfold chR
    rw [List.length_map]
    have h2 : dd (linkL l n) = chL l n := hr.dd n
    rw [← h2]
    by_cases h0 : 1 ≤ (linkL l n).length
    · have := dd_length_lt (linkL l n) _ h0 (Nat.le_refl _)
      rw [List.take_length] at this
      unfold linkL at this ⊢
      omega
    · have : linkL l n = [] := List.eq_nil_of_length_eq_zero (by omega)
      rw [this]; simp [dd]
  clear hc hr
  go_enter Try.func15, Try.ntmps15
  go_wp2_with fail
  go_loopw [5, 6] (fun ov z wr => ∃ (s : Int) (O : List Sp), 0 ≤ s ∧ s ≤ 100000 ∧ z = .int .i64 s ∧ OwnE spE wr w.heap.size 46 ov O ∧ Below w.heap.size w wr ∧ Hid (O ++ (cmpL s (lkL n 0 l)).map lkRg = chR l n)) (fun _ z _ => 100001 - (intOf z).toNat)
  case atStart => exact ⟨0, [], by omega, by omega, rfl, OwnE.nil _ _ _ _, Below.refl _ _, rfl⟩
  case round =>
    obtain ⟨s, O, hs0, hs1, rfl, ho, hB, HEq⟩ := hrel
    obtain ⟨oa, oc, hsh, _, _⟩ := ho.shape
    obtain ⟨len5, hlen5⟩ : ∃ k, k = O.length := ⟨_, rfl⟩
    have HO18 : Hid (O.length ≤ 18) := by
      show _ ≤ _
      have := congrArg List.length HEq.out
      rw [List.length_append] at this
      have := HLn.out
      omega
    rw [← hlen5] at hsh
    clear hlen5
    subst hsh
    obtain ⟨w0, hw0⟩ : ∃ W, W = wr.alloc (.cells #[.int .i64 0, .int .i64 0] 46) := ⟨_, rfl⟩
    have HW0 : Hid (w0 = _) := hw0
    have hb0 : Below wr.heap.size wr w0 := by rw [hw0]; exact made_below _ _ _
    have HA0 : Hid (At w0 wr.heap.size #[.int .i64 0, .int .i64 0] 46) := by
      show At _ _ _ _
      rw [hw0]; exact At.made wr _ _
    have HB0 : Hid (Below wr.heap.size wr w0) := hb0
    have HOw : Hid (OwnE spE wr w.heap.size 46 (.slice oa len5 oc) O) := ho
    have HBw : Hid (Below w.heap.size w wr) := hB
    clear hw0 hb0 ho hB
    go_wp2_with fail
    rw [← HW0.out]
    obtain ⟨wo, rfl⟩ : ∃ wo, wo = wr := ⟨_, rfl⟩
    go_loopw [8, 9] (fun z8 z9 wr => ∃ (k : Nat) (least : Int) (best : Sp), k ≤ l.length ∧ z9 = .int .i64 (k : Int) ∧ 0 ≤ least ∧ least ≤ 100000 ∧ z8 = .int .i64 least ∧ At wr wo.heap.size #[.int .i64 best.1, .int .i64 best.2] 46 ∧ Below wo.heap.size wo wr ∧ Hid (ScanR s (lkL n 0 (l.take k)) best least)) (fun _ z _ => l.length - (intOf z).toNat)
    case atStart => exact ⟨0, 0, (0, 0), Nat.zero_le _, rfl, by omega, by omega, rfl, HA0.out, HB0.out, ScanR.start s (0, 0)⟩
    case round =>
      obtain ⟨k, least, best, hk, rfl, hl0, hl1, rfl, hA, hB, HSc⟩ := hrel
      have HBk : Hid (Below wo.heap.size wo wr) := hB
      have HAk : Hid (At wr wo.heap.size #[.int .i64 best.1, .int .i64 best.2] 46) := hA
      by_cases hkl : k < l.length
      · have hkl' : (k : Int) < (l.length : Int) := by omega
        have HCk : Hid (∀ W, Below wo.heap.size wo W → Ten W b (off + k * 10) l[k]) := fun W hW => HC.out k hkl W (bstep HBw.out hW)
        have HSm : Hid (rngB m l[k] = true) := HRg.out k hkl
        have HTk : Hid (lkL n 0 (l.take (k + 1)) = lkL n 0 (l.take k) ++ lkS (k : Int) n 1 (PL l[k])) := by show _ = _; rw [lkL_take n l k hkl]; unfold PL; rw [lkS_parts]
        have HPk : Hid ((lkL n 0 (l.take k) ++ lkS (k : Int) n 1 (PL l[k])).Pairwise Nst) := by
          show List.Pairwise _ _
          rw [← HTk.out]
          have h1 := lkL_append n (l.take (k + 1)) (l.drop (k + 1)) 0
          rw [List.take_append_drop] at h1
          have h2 := HP.out
          rw [h1] at h2
          exact pairwise_pre h2
        generalize l[k] = c at *
        generalize lkL n 0 (l.take k) = pre at *
        have HPL : Hid (∀ p, (h : p < (PL c).length) → (PL c)[p] = bnd c ((p : Int) + 1)) := PL_get c
        have HBo : Hid (∀ W p, Calls Try.prog 19 #[.agg #[.int .i64 c.k, .int .i64 c.tf, .int .i64 c.tt, .int .i64 c.hf, .int .i64 c.ht, .int .i64 c.fi, .int .i64 c.t0, .int .i64 c.t1, .int .i64 c.t2, .bool c.t3], .int .i64 p] W fun e w' => e = .returned (.tuple #[.int .i64 (bnd c p).1, .int .i64 (bnd c p).2]) ∧ Below W.heap.size W w') := fun W p => bounds_any c p W
        have HIn : Hid (∀ W p, Calls Try.prog 41 #[.agg #[.int .i64 c.k, .int .i64 c.tf, .int .i64 c.tt, .int .i64 c.hf, .int .i64 c.ht, .int .i64 c.fi, .int .i64 c.t0, .int .i64 c.t1, .int .i64 c.t2, .bool c.t3], .int .i64 p, .int .i64 n] W fun e w' => e = .returned (.bool (hasB (bnd c p) n)) ∧ Below W.heap.size W w') := fun W p => in_any c p n W
        clear hA hB
        go_wp2_with fail
        obtain ⟨wk, rfl⟩ : ∃ wk, wk = wr := ⟨_, rfl⟩
        go_loopw [8, 10] (fun z8 z10 wr => ∃ (p : Nat) (least : Int) (best : Sp), p ≤ 3 ∧ z10 = .int .i64 ((p : Int) + 1) ∧ 0 ≤ least ∧ least ≤ 100000 ∧ z8 = .int .i64 least ∧ At wr wo.heap.size #[.int .i64 best.1, .int .i64 best.2] 46 ∧ Below wo.heap.size wo wr ∧ Hid (ScanR s (pre ++ lkS (k : Int) n 1 ((PL c).take p)) best least)) (fun _ z _ => 4 - (intOf z).toNat)
        case atStart => exact ⟨0, least, best, by omega, rfl, hl0, hl1, rfl, HAk.out, HBk.out, by show ScanR _ _ _ _; simpa [lkS] using HSc.out⟩
        case round =>
          clear HSc HAk HBk hl0 hl1
          obtain ⟨p, least, best, hp, rfl, hl0, hl1, rfl, hA, hB, HSc⟩ := hrel
          have HBk : Hid (Below wo.heap.size wo wr) := hB
          have HAk : Hid (At wr wo.heap.size #[.int .i64 best.1, .int .i64 best.2] 46) := hA
          by_cases hp3 : p < 3
          · have hp3' : (p : Int) + 1 ≤ 3 := by omega
            have hpl : p < (PL c).length := hp3
            have HTp : Hid (pre ++ lkS (k : Int) n 1 ((PL c).take (p + 1)) = (pre ++ lkS (k : Int) n 1 ((PL c).take p)) ++ (if hasB (bnd c ((p : Int) + 1)) n = true then [((k : Int), 1 + (p : Int), (bnd c ((p : Int) + 1)).1, (bnd c ((p : Int) + 1)).2)] else [])) := by
              show _ = _
              rw [lkS_take (k : Int) n (PL c) p hpl, HPL.out p hpl, List.append_assoc]
            have HPp : Hid ((pre ++ lkS (k : Int) n 1 ((PL c).take (p + 1))).Pairwise Nst) := by
              show List.Pairwise _ _
              have h1 := lkS_append (k : Int) n ((PL c).take (p + 1)) ((PL c).drop (p + 1)) 1
              rw [List.take_append_drop] at h1
              have h2 := HPk.out
              rw [h1, ← List.append_assoc] at h2
              exact pairwise_pre h2
            obtain ⟨q1, q2, q3, q4⟩ := bnd_small HSm.out hmm ((p : Int) + 1)
            obtain ⟨c0, c1, c2, c3, c4, c5, c6, c7, c8, c9⟩ := HCk.out wr hB
            clear hA hB hpl
            go_wp2_with fail
            refine (HBo.out _ _).mono ?_
            rintro e w1 ⟨rfl, hb1⟩
            have hB1 := bstep HBk.out hb1
            have HB1 : Hid (Below wr.heap.size wr w1) := hb1
            clear hb1 c0 c1 c2 c3 c4 c5 c6 c7 c8 c9
            obtain ⟨c0, c1, c2, c3, c4, c5, c6, c7, c8, c9⟩ := HCk.out w1 hB1
            clear hB1
            have HIp : Hid (Calls Try.prog 41 #[.agg #[.int .i64 c.k, .int .i64 c.tf, .int .i64 c.tt, .int .i64 c.hf, .int .i64 c.ht, .int .i64 c.fi, .int .i64 c.t0, .int .i64 c.t1, .int .i64 c.t2, .bool c.t3], .int .i64 ((p : Int) + 1), .int .i64 n] w1 fun e w' => e = .returned (.bool (hasB (bnd c ((p : Int) + 1)) n)) ∧ Below w1.heap.size w1 w') := HIn.out w1 _
            generalize hbd : bnd c ((p : Int) + 1) = bd at *
            obtain ⟨x, y⟩ := bd
            simp only at q1 q2 q3 q4
            go_wp2_with fail
            refine Calls.mono HIp.out ?_
            rintro e w2 ⟨rfl, hb2⟩
            have HB2 : Hid (Below wr.heap.size wr w2) := bstep HB1.out hb2
            have HA2 : Hid (At w2 wo.heap.size #[.int .i64 best.1, .int .i64 best.2] 46) := HAk.out.later HB2.out
            have HB3 : Hid (Below wo.heap.size wo w2) := bstep HBk.out HB2.out
            clear hb2 HIp c0 c1 c2 c3 c4 c5 c6 c7 c8 c9 hbd
            cases hh : hasB (x, y) n with
            | false =>
              have HS' : Hid (ScanR s (pre ++ lkS (k : Int) n 1 ((PL c).take (p + 1))) best least) := by
                show ScanR _ _ _ _
                rw [HTp.out, if_neg (by rw [hh]; decide), List.append_nil]; exact HSc.out
              go_wp2_with fail
              go_roundw
              case rel => exact ⟨p + 1, least, best, by omega, by go_num, hl0, hl1, rfl, HA2.out, HB3.out, HS'.out⟩
              case measure => simp [intOf]; omega
            | true =>
              have hxy : x < y := by rw [has_iff] at hh; simp only at hh; omega
              have HTq : Hid (pre ++ lkS (k : Int) n 1 ((PL c).take (p + 1)) = (pre ++ lkS (k : Int) n 1 ((PL c).take p)) ++ [((k : Int), 1 + (p : Int), x, y)]) := by show _ = _; rw [HTp.out, if_pos hh]
              have HSk : Hid (¬ (s < y - x ∧ (least = 0 ∨ y - x < least)) → ScanR s (pre ++ lkS (k : Int) n 1 ((PL c).take (p + 1))) best least) := fun hn => by
                rw [HTq.out]; exact HSc.out.skip hn
              have HTa : Hid (s < y - x → (least = 0 ∨ y - x < least) → ScanR s (pre ++ lkS (k : Int) n 1 ((PL c).take (p + 1))) ((k : Int), (p : Int) + 1) (y - x)) := fun h1 h2 => by
                have hpw := HPp.out
                rw [HTq.out] at hpw ⊢
                have := HSc.out.take hpw hs0 h1 h2
                have e1 : lkRg ((k : Int), 1 + (p : Int), x, y) = ((k : Int), (p : Int) + 1) := by unfold lkRg; simp only; rw [Int.add_comm]
                rw [e1] at this
                exact this
              clear hh
              obtain ⟨d, hd⟩ : ∃ d, d = y - x := ⟨_, rfl⟩
              by_cases hsn : s < y - x
              · by_cases hle : least = 0
                · subst hle
                  have HS' := HTa.out hsn (.inl rfl)
                  have HS2 : Hid (ScanR s (pre ++ lkS (k : Int) n 1 ((PL c).take (p + 1))) ((k : Int), (p : Int) + 1) (y - x)) := HS'
                  have hcell := HA2.out.box2
                  obtain ⟨g0, g1⟩ := hcell
                  have hmelt := HA2.out.melt
                  have HA3 : Hid (At ((w2.setCell ⟨wo.heap.size, 0, none⟩ (.int .i64 (k : Int))).setCell ⟨wo.heap.size, 1, none⟩ (.int .i64 ((p : Int) + 1))) wo.heap.size #[.int .i64 (k : Int), .int .i64 ((p : Int) + 1)] 46) := HA2.out.set2 _ _
                  have HB4 : Hid (Below wo.heap.size wo ((w2.setCell ⟨wo.heap.size, 0, none⟩ (.int .i64 (k : Int))).setCell ⟨wo.heap.size, 1, none⟩ (.int .i64 ((p : Int) + 1)))) := (HB3.out.setCell (Nat.le_refl _) _).setCell (Nat.le_refl _) _
                  clear HS'
                  go_wp2_with fail
                  go_roundw
                  case rel => exact ⟨p + 1, y - x, ((k : Int), (p : Int) + 1), by omega, by go_num, by omega, by omega, rfl, HA3.out, HB4.out, HS2.out⟩
                  case measure => simp [intOf]; omega
                · have hle' : (least == 0) = false := by rw [beq_eq_false_iff_ne]; exact hle
                  by_cases hlt : y - x < least
                  · have HS' := HTa.out hsn (.inr hlt)
                    have HS2 : Hid (ScanR s (pre ++ lkS (k : Int) n 1 ((PL c).take (p + 1))) ((k : Int), (p : Int) + 1) (y - x)) := HS'
                    obtain ⟨g0, g1⟩ := HA2.out.box2
                    have hmelt := HA2.out.melt
                    have HA3 : Hid (At ((w2.setCell ⟨wo.heap.size, 0, none⟩ (.int .i64 (k : Int))).setCell ⟨wo.heap.size, 1, none⟩ (.int .i64 ((p : Int) + 1))) wo.heap.size #[.int .i64 (k : Int), .int .i64 ((p : Int) + 1)] 46) := HA2.out.set2 _ _
                    have HB4 : Hid (Below wo.heap.size wo ((w2.setCell ⟨wo.heap.size, 0, none⟩ (.int .i64 (k : Int))).setCell ⟨wo.heap.size, 1, none⟩ (.int .i64 ((p : Int) + 1)))) := (HB3.out.setCell (Nat.le_refl _) _).setCell (Nat.le_refl _) _
                    clear HS' hle
                    go_wp2_with fail
                    go_roundw
                    case rel => exact ⟨p + 1, y - x, ((k : Int), (p : Int) + 1), by omega, by go_num, by omega, by omega, rfl, HA3.out, HB4.out, HS2.out⟩
                    case measure => simp [intOf]; omega
                  · have HS2 : Hid (ScanR s (pre ++ lkS (k : Int) n 1 ((PL c).take (p + 1))) best least) := HSk.out (by omega)
                    clear hle
                    go_wp2_with fail
                    go_roundw
                    case rel => exact ⟨p + 1, least, best, by omega, by go_num, hl0, hl1, rfl, HA2.out, HB3.out, HS2.out⟩
                    case measure => simp [intOf]; omega
              · have HS2 : Hid (ScanR s (pre ++ lkS (k : Int) n 1 ((PL c).take (p + 1))) best least) := HSk.out (by omega)
                go_wp2_with fail
                go_roundw
                case rel => exact ⟨p + 1, least, best, by omega, by go_num, hl0, hl1, rfl, HA2.out, HB3.out, HS2.out⟩
                case measure => simp [intOf]; omega
          · have hp3' : ¬ (p : Int) + 1 ≤ 3 := by omega
            have HS2 : Hid (ScanR s (lkL n 0 (l.take (k + 1))) best least) := by
              show ScanR _ _ _ _
              rw [HTk.out]
              have := HSc.out
              rw [List.take_of_length_le (by show 3 ≤ p; omega)] at this
              exact this
            clear hA hB
            go_wp2_with fail
            go_roundw
            case rel => exact ⟨k + 1, least, best, by omega, by go_num, hl0, hl1, rfl, HAk.out, HBk.out, HS2.out⟩
            case measure => simp [intOf]; omega
      · have hkl' : ¬ (k : Int) < (l.length : Int) := by omega
        have HS2 : Hid (ScanR s (lkL n 0 l) best least) := by
          show ScanR _ _ _ _
          have := HSc.out
          rw [List.take_of_length_le (by omega)] at this
          exact this
        clear hA hB
        by_cases hle : least = 0
        · subst hle
          have HF : Hid (O = chR l n) := by
            show _ = _
            have := HEq.out
            rw [HS2.out.none hs0] at this
            simpa using this
          go_wp2_with fail
          go_ret
          exact ⟨_, rfl, by rw [← HF.out]; exact HOw.out.later HBk.out, bstep HBw.out HBk.out⟩
        · have hle' : (least == 0) = false := by rw [beq_eq_false_iff_ne]; exact hle
          obtain ⟨k1, k2⟩ := HS2.out.some HP.out hle
          have HE2 : Hid ((O ++ [best]) ++ (cmpL least (lkL n 0 l)).map lkRg = chR l n) := by
            show _ = _
            rw [← HEq.out, k1, List.append_assoc]; rfl
          obtain ⟨g0, g1⟩ := HAk.out.box2
          obtain ⟨w4, hw4⟩ : ∃ W, W = wr.alloc (.cells #[.int .i64 best.1, .int .i64 best.2] 46) := ⟨_, rfl⟩
          have HW4 : Hid (w4 = _) := hw4
          have hb4 : Below wr.heap.size wr w4 := by rw [hw4]; exact made_below _ _ _
          have HO4 : Hid (OwnE spE w4 w.heap.size 46 (.slice oa len5 oc) O) := (HOw.out.later HBk.out).later hb4
          have HB4 : Hid (Below w.heap.size w w4) := bstep (bstep HBw.out HBk.out) hb4
          have HV4 : Hid (Es spE w4 (.slice (some ⟨wr.heap.size, 0, none⟩) 1 1) [best]) := by
            show Es _ _ _ _
            rw [hw4]
            exact (OwnE.lit spE wr 0 46 [best] #[.int .i64 best.1, .int .i64 best.2] 1 (Nat.zero_le _) rfl rfl (by simp [maxLen])).es
          have HL1 : Hid (O.length + [best].length ≤ maxLen) := by show _ ≤ _; have := HO18.out; simp only [List.length_cons, List.length_nil]; unfold maxLen; omega
          have HL2 : Hid (((O.length + [best].length) + (O.length + [best].length) / 4 + 192) * 16 ≤ 281474976710656) := by show _ ≤ _; have := HO18.out; simp only [List.length_cons, List.length_nil]; omega
          clear hw4 hb4 hle k1
          go_wp2_with (at_builtin; go_must (rw [← HW4.out]; refine wpList_append_es spE rfl (.tmp 65) (.tmp 67) 34 rfl w.heap.size 46 _ 16 Try.underlying34 Try.infoRegion rfl rfl rfl HO4.out HV4.out HL1.out HL2.out HB4.out.size ?_; intro v5 w5 ho5 hg5))
          go_roundw
          case rel => exact ⟨least, O ++ [best], hl0, hl1, rfl, ho5, HB4.out.trans (grown_belowE HO4.out hg5 (Nat.le_refl _) HB4.out.size), HE2.out⟩
          case measure => simp [intOf]; omega

end Go.Proofs.Ytbfcdcdeohikpaa
