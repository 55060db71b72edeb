
/- pick, Tries, Finals; Tries and Finals of the references. -/
import Derived.Test.YtbfcdcdeohikpaaRefBase9
import Derived.Test.YtbfcdcdeohikpaaInts7
namespace Go.Proofs.Ytbfcdcdeohikpaa
set_option linter.unusedVariables false
set_option linter.unusedSimpArgs false
open Go.RowKit
attribute [local go_sem ↓] Go.wp_at_zero Go.wp_at_succ

/-- The numbers of the clauses of which it holds. -/
def pkL (p : Cl → Bool) : Int → List Cl → List Int
  | _, [] => []
  | i, c :: r => (if p c = true then [i] else []) ++ pkL p (i + 1) r
theorem pkL_append (p : Cl → Bool) : ∀ (a b : List Cl) (i : Int), pkL p i (a ++ b) = pkL p i a ++ pkL p (i + (a.length : Int)) b
  | [], b, i => by simp [pkL]
  | c :: r, b, i => by
    simp only [List.cons_append, pkL, pkL_append p r b (i + 1), List.append_assoc, List.length_cons]
    rw [show i + 1 + (r.length : Int) = i + ((r.length + 1 : Nat) : Int) by omega]
theorem pkL_take (p : Cl → Bool) (l : List Cl) (q : Nat) (h : q < l.length) : pkL p 0 (l.take (q + 1)) = pkL p 0 (l.take q) ++ (if p l[q] = true then [(q : Int)] else []) := by
  rw [List.take_succ_eq_append_getElem h, pkL_append, List.length_take, Nat.min_eq_left (by omega)]
  simp [pkL]
theorem pkL_len (p : Cl → Bool) : ∀ (l : List Cl) (i : Int), (pkL p i l).length ≤ l.length
  | [], _ => by simp [pkL]
  | c :: r, i => by
    have := pkL_len p r (i + 1)
    simp only [pkL, List.length_append, List.length_cons]
    split <;> simp <;> omega
def triB (n : Int) (c : Cl) : Bool := hasB (triS c) n
def finB (a b : Int) (c : Cl) : Bool := decide (c.k = 3) && hasB (triS c) a && !hasB (triS c) b

/-- Nothing below the row has turned. -/
theorem grown_belowI {w w' : World} {base B : Nat} {v : Value} {l : List Int} (ho : OwnI w base v l) (hg : w.grownBy w' v.ownBlock) (hB : B ≤ base) (hs : B ≤ w.heap.size) : Below B w w' :=
  ⟨hg.os, hg.tape, hg.output, hg.size, fun k hk => hg.block k (by omega) (fun e => by have := ho.block k e.symm; omega)⟩
theorem OwnI.shape {w : World} {base : Nat} {v : Value} {l : List Int} (h : OwnI w base v l) : ∃ a c, v = .slice a l.length c := by
  obtain ⟨a, c, e, _⟩ := h.is
  rw [i64s_length] at e
  exact ⟨a, c, e⟩

theorem ownI_mono {w : World} {base base' : Nat} {v : Value} {l : List Int} (h : OwnI w base v l) (hb : base' ≤ base) : OwnI w base' v l := by
  obtain ⟨h1, h2⟩ := h
  refine ⟨h1, ?_⟩
  rcases h2 with h2 | ⟨g, cap, cur, rfl, hg, r⟩
  · exact Or.inl h2
  · exact Or.inr ⟨g, cap, cur, rfl, Nat.le_trans hb hg, r⟩

theorem pick_none (a : Option Addr) (cap : Nat) (f : Value) (w : World) :
    Calls Try.prog 43 #[.slice a 0 cap, f] w fun e w' => e = .returned (.slice none 0 0) ∧ w' = w := by
  go_enter Try.func43, Try.ntmps43
  go_wp2
  refine wp_loop_rounds 1 ?_; rw [rounds_succ]
  go_wp2
  go_ret
  exact ⟨rfl, rfl⟩

set_option maxHeartbeats 4000000 in
theorem pick_some {b off cap : Nat} {l : List Cl} {w : World} {f : FuncId} {bs cs : Array Value} {p : Cl → Bool} (hb : b < w.heap.size) (hc : ∀ i (hi : i < l.length), El clE9 w b (off + i * 10) l[i]) (hl : l.length ≤ 1000) (hf : Tells Try.prog clV w f bs cs p l) :
    Calls Try.prog 43 #[.slice (some ⟨b, off, none⟩) l.length cap, .func (.func f) bs cs] w fun e w' => ∃ v, e = .returned v ∧ OwnI w' w.heap.size v (pkL p 0 l) ∧ Below w.heap.size w w' := by
  have HC : Hid (∀ i (hi : i < l.length), ∀ W, Below w.heap.size w W → Ten W b (off + i * 10) l[i]) := fun i hi W hW => ((hc i hi).below hW hb).ten
  have HF : Hid (Tells Try.prog clV w f bs cs p l) := hf
  have hen := hf.enter
  clear hc hf
  go_enter Try.func43, Try.ntmps43
  go_wp2_with fail
  go_loopw [5, 10] (fun lv z wr => ∃ q : Nat, q ≤ l.length ∧ z = .int .i64 q ∧ OwnI wr w.heap.size lv (pkL p 0 (l.take q)) ∧ Below w.heap.size w wr) (fun _ z _ => l.length - (intOf z).toNat)
  case atStart => exact ⟨0, Nat.zero_le _, rfl, OwnI.nil _ _, Below.refl _ _⟩
  case round =>
    obtain ⟨q, hq, rfl, ho, hB⟩ := hrel
    have HBL : Hid (Below w.heap.size w wr) := hB
    obtain ⟨la, lc, hlv⟩ := ho.shape
    have HLn : Hid ((pkL p 0 (l.take q)).length ≤ 1000) := by
      show _ ≤ _
      have := pkL_len p (l.take q) 0
      rw [List.length_take] at this
      omega
    obtain ⟨len5, hlen5⟩ : ∃ m, m = (pkL p 0 (l.take q)).length := ⟨_, rfl⟩
    rw [← hlen5] at hlv
    clear hlen5
    subst hlv
    have HO : Hid (OwnI wr w.heap.size (.slice la len5 lc) (pkL p 0 (l.take q))) := ho
    by_cases hql : q < l.length
    · obtain ⟨c0, c1, c2, c3, c4, c5, c6, c7, c8, c9⟩ := HC.out q hql wr hB
      have HT : Hid (pkL p 0 (l.take (q + 1)) = pkL p 0 (l.take q) ++ (if p l[q] = true then [(q : Int)] else [])) := pkL_take p l q hql
      obtain ⟨wA, hwA⟩ : ∃ W, W = wr.alloc (.cells #[.int .i64 l[q].k, .int .i64 l[q].tf, .int .i64 l[q].tt, .int .i64 l[q].hf, .int .i64 l[q].ht, .int .i64 l[q].fi, .int .i64 l[q].t0, .int .i64 l[q].t1, .int .i64 l[q].t2, .bool l[q].t3] 44) := ⟨_, rfl⟩
      have HWA : Hid (wA = _) := hwA
      have hbA : Below wr.heap.size wr wA := by rw [hwA]; exact made_below _ _ _
      have hAA : At wA wr.heap.size (clC l[q]).toArray 44 := by rw [hwA]; exact At.made wr (clC l[q]).toArray _
      have HBA : Hid (Below wr.heap.size wr wA) := hbA
      have HCl : Hid (Calls Try.prog f (bs.push (.agg #[.int .i64 l[q].k, .int .i64 l[q].tf, .int .i64 l[q].tt, .int .i64 l[q].hf, .int .i64 l[q].ht, .int .i64 l[q].fi, .int .i64 l[q].t0, .int .i64 l[q].t1, .int .i64 l[q].t2, .bool l[q].t3]) ++ cs) wA fun e w' => e = .returned (.bool (p l[q])) ∧ Below wA.heap.size wA w') := HF.out.tells wA (bstep hB hbA) _ (List.getElem_mem hql)
      obtain ⟨a0, a1, a2, a3, a4, a5, a6, a7, a8, a9⟩ := hAA.ten
      clear hwA hbA hAA hB ho
      generalize l[q] = c at *
      go_wp2_with (rw [← HWA.out])
      refine Calls.mono HCl.out ?_
      rintro e w1 ⟨rfl, hb1⟩
      have HB1 : Hid (Below wr.heap.size wr w1) := bstep HBA.out hb1
      clear hb1 HCl a0 a1 a2 a3 a4 a5 a6 a7 a8 a9 c0 c1 c2 c3 c4 c5 c6 c7 c8 c9
      cases hp : p c with
      | true =>
        have HT2 : Hid (pkL p 0 (l.take (q + 1)) = pkL p 0 (l.take q) ++ [(q : Int)]) := by show _ = _; rw [HT.out, if_pos hp]
        obtain ⟨w4, hw4⟩ : ∃ W, W = w1.alloc (.cells #[.int .i64 (q : Int)] 3) := ⟨_, rfl⟩
        have HW4 : Hid (w4 = _) := hw4
        have HO4 : Hid (OwnI w4 w.heap.size (.slice la len5 lc) (pkL p 0 (l.take q))) := by show OwnI _ _ _ _; rw [hw4]; exact HO.out.later (bbox HB1.out _)
        have HB4 : Hid (Below w.heap.size w w4) := by show Below _ _ _; rw [hw4]; exact bstep HBL.out (bbox HB1.out _)
        have HV4 : Hid (Src Try.prog 1 38 (.slice (some ⟨w1.heap.size, 0, none⟩) 1 1) 1 [.int .i64 (q : Int)] w4) := by show Src _ _ _ _ _ _ _; rw [hw4]; exact one_int w1 _ _ rfl
        clear hw4
        go_wp2_with (at_builtin; go_must (rw [← HW4.out]; refine wpList_append_int rfl (.tmp 18) (.tmp 20) rfl w.heap.size rfl rfl HO4.out HV4.out (by have := HLn.out; omega) HB4.out.size ?_; intro v5 w5 ho5 hg5))
        go_roundw
        case rel => exact ⟨q + 1, by omega, by go_num, by rw [HT2.out]; exact ho5, HB4.out.trans (grown_belowI HO4.out hg5 (Nat.le_refl _) HB4.out.size)⟩
        case measure => simp [intOf]; omega
      | false =>
        have HT2 : Hid (pkL p 0 (l.take (q + 1)) = pkL p 0 (l.take q)) := by show _ = _; rw [HT.out, if_neg (by rw [hp]; decide), List.append_nil]
        go_wp2_with fail
        go_roundw
        case rel => exact ⟨q + 1, by omega, by go_num, by rw [HT2.out]; exact HO.out.later HB1.out, bstep HBL.out HB1.out⟩
        case measure => simp [intOf]; omega
    · have HE : Hid (pkL p 0 (l.take q) = pkL p 0 l) := by show _ = _; rw [List.take_of_length_le (by omega)]
      clear ho hB
      go_wp2
      go_ret
      exact ⟨_, rfl, by rw [← HE.out]; exact HO.out, HBL.out⟩

theorem pick_any {v : Value} {l : List Cl} {w : World} (h : Es clE9 w v l) (hl : l.length ≤ 1000) {f : FuncId} {bs cs : Array Value} {p : Cl → Bool} (hf : Tells Try.prog clV w f bs cs p l) :
    Calls Try.prog 43 #[v, .func (.func f) bs cs] w fun e w' => ∃ v, e = .returned v ∧ OwnI w' w.heap.size v (pkL p 0 l) ∧ Below w.heap.size w w' := by
  by_cases hne : l = []
  · subst hne
    obtain ⟨a, c, rfl, _, _⟩ := h.shape
    refine (pick_none a c _ w).mono ?_
    rintro e w' ⟨rfl, rfl⟩
    exact ⟨_, rfl, OwnI.nil _ _, Below.refl _ _⟩
  · obtain ⟨b, off, cap, rfl, h1, h2, hb, hc⟩ := h.parts hne
    exact pick_some hb hc hl hf

set_option maxHeartbeats 2000000 in
theorem tries1_any {c : Cl} {g : Nat} {n : Int} {w : World} (hg : w.cell? ⟨g, 0, none⟩ = some (.int .i64 n)) (hlt : g < w.heap.size) :
    Calls Try.prog 44 #[clV c, .pointer (some ⟨g, 0, none⟩)] w fun e w' => e = .returned (.bool (triB n c)) ∧ Below w.heap.size w w' := by
  obtain ⟨w0, hw0⟩ : ∃ W, W = w.alloc (.cells #[.int .i64 c.k, .int .i64 c.tf, .int .i64 c.tt, .int .i64 c.hf, .int .i64 c.ht, .int .i64 c.fi, .int .i64 c.t0, .int .i64 c.t1, .int .i64 c.t2, .bool c.t3] 44) := ⟨_, rfl⟩
  have HW0 : Hid (w0 = _) := hw0
  have hb0 : Below w.heap.size w w0 := by rw [hw0]; exact made_below _ _ _
  have HB0 : Hid (Below w.heap.size w w0) := hb0
  have hA : At w0 w.heap.size (clC c).toArray 44 := by rw [hw0]; exact At.made w (clC c).toArray _
  have HK : Hid (∀ w', Below w0.heap.size w0 w' → w'.cell? ⟨g, 0, none⟩ = some (.int .i64 n) ∧ Ten w' w.heap.size 0 c) := fun w' h => ⟨by rw [← hg]; exact (bstep hb0 h).cell (p := ⟨g, 0, none⟩) hlt, (hA.later h).ten⟩
  have HTR : Hid (∀ W, Calls Try.prog 45 #[.agg #[.int .i64 c.k, .int .i64 c.tf, .int .i64 c.tt, .int .i64 c.hf, .int .i64 c.ht, .int .i64 c.fi, .int .i64 c.t0, .int .i64 c.t1, .int .i64 c.t2, .bool c.t3]] W fun e w' => e = .returned (.agg #[.int .i64 c.tf, .int .i64 c.tt]) ∧ Below W.heap.size W w') := fun W => triedBy_any c W
  have HHa : Hid (∀ W x, Calls Try.prog 46 #[.agg #[.int .i64 c.tf, .int .i64 c.tt], .int .i64 x] W fun e w' => e = .returned (.bool (hasB (triS c) x)) ∧ Below W.heap.size W w') := fun W x => has_any (triS c) x W
  obtain ⟨kg, c0, c1, c2, c3, c4, c5, c6, c7, c8, c9⟩ := HK.out w0 (Below.refl _ _)
  clear hg hw0 hb0 hA
  unfold clV
  go_enter Try.func44, Try.ntmps44
  go_wp2_with (rw [← HW0.out])
  go_region_held3 (fun w' => w'.cell? ⟨g, 0, none⟩ = some (.int .i64 n) ∧ w'.cell? ⟨w.heap.size, 0, none⟩ = some (.int .i64 c.k) ∧ w'.cell? ⟨w.heap.size, 1, none⟩ = some (.int .i64 c.tf) ∧ w'.cell? ⟨w.heap.size, 2, none⟩ = some (.int .i64 c.tt) ∧ w'.cell? ⟨w.heap.size, 3, none⟩ = some (.int .i64 c.hf) ∧ w'.cell? ⟨w.heap.size, 4, none⟩ = some (.int .i64 c.ht) ∧ w'.cell? ⟨w.heap.size, 5, none⟩ = some (.int .i64 c.fi) ∧ w'.cell? ⟨w.heap.size, 6, none⟩ = some (.int .i64 c.t0) ∧ w'.cell? ⟨w.heap.size, 7, none⟩ = some (.int .i64 c.t1) ∧ w'.cell? ⟨w.heap.size, 8, none⟩ = some (.int .i64 c.t2) ∧ w'.cell? ⟨w.heap.size, 9, none⟩ = some (.bool c.t3))
    (first | (exact HK.out _ (bdrew _)) | (exact HK.out _ hBc))
    (first | (go_at_call 45; refine (HTR.out _).mono ?_; rintro e w1 ⟨rfl, hb1⟩; have hBc : Below w0.heap.size w0 w1 := bstep (bdrew _) hb1) | (go_at_call 46; refine (HHa.out _ _).mono ?_; rintro e w2 ⟨rfl, hb2⟩; have hBc : Below w0.heap.size w0 w2 := bstep hBc hb2))
  rename_i hheld
  clear hheld
  have HB2 : Hid (Below w.heap.size w w2) := bstep HB0.out hBc
  clear hb1 hb2 hBc c0 c1 c2 c3 c4 c5 c6 c7 c8 c9 kg
  go_wp2_with fail
  go_ret
  exact ⟨rfl, HB2.out⟩

set_option maxHeartbeats 4000000 in
theorem finals1_any {c : Cl} {g g2 : Nat} {n k : Int} {w : World} (hg : w.cell? ⟨g, 0, none⟩ = some (.int .i64 n)) (hlt : g < w.heap.size) (hg2 : w.cell? ⟨g2, 0, none⟩ = some (.int .i64 k)) (hlt2 : g2 < w.heap.size) :
    Calls Try.prog 52 #[clV c, .pointer (some ⟨g, 0, none⟩), .pointer (some ⟨g2, 0, none⟩)] w fun e w' => e = .returned (.bool (finB n k c)) ∧ Below w.heap.size w w' := by
  obtain ⟨w0, hw0⟩ : ∃ W, W = w.alloc (.cells #[.int .i64 c.k, .int .i64 c.tf, .int .i64 c.tt, .int .i64 c.hf, .int .i64 c.ht, .int .i64 c.fi, .int .i64 c.t0, .int .i64 c.t1, .int .i64 c.t2, .bool c.t3] 44) := ⟨_, rfl⟩
  have HW0 : Hid (w0 = _) := hw0
  have hb0 : Below w.heap.size w w0 := by rw [hw0]; exact made_below _ _ _
  have HB0 : Hid (Below w.heap.size w w0) := hb0
  have hA : At w0 w.heap.size (clC c).toArray 44 := by rw [hw0]; exact At.made w (clC c).toArray _
  have HK : Hid (∀ w', Below w0.heap.size w0 w' → (w'.cell? ⟨g, 0, none⟩ = some (.int .i64 n) ∧ w'.cell? ⟨g2, 0, none⟩ = some (.int .i64 k)) ∧ Ten w' w.heap.size 0 c) := fun w' h => ⟨⟨by rw [← hg]; exact (bstep hb0 h).cell (p := ⟨g, 0, none⟩) hlt, by rw [← hg2]; exact (bstep hb0 h).cell (p := ⟨g2, 0, none⟩) hlt2⟩, (hA.later h).ten⟩
  have HTR : Hid (∀ W, Calls Try.prog 45 #[.agg #[.int .i64 c.k, .int .i64 c.tf, .int .i64 c.tt, .int .i64 c.hf, .int .i64 c.ht, .int .i64 c.fi, .int .i64 c.t0, .int .i64 c.t1, .int .i64 c.t2, .bool c.t3]] W fun e w' => e = .returned (.agg #[.int .i64 c.tf, .int .i64 c.tt]) ∧ Below W.heap.size W w') := fun W => triedBy_any c W
  have HHa : Hid (∀ W x, Calls Try.prog 46 #[.agg #[.int .i64 c.tf, .int .i64 c.tt], .int .i64 x] W fun e w' => e = .returned (.bool (hasB (triS c) x)) ∧ Below W.heap.size W w') := fun W x => has_any (triS c) x W
  have HR : Hid (finB n k c = (decide (c.k = 3) && hasB (triS c) n && !hasB (triS c) k)) := rfl
  obtain ⟨⟨kg, kg2⟩, c0, c1, c2, c3, c4, c5, c6, c7, c8, c9⟩ := HK.out w0 (Below.refl _ _)
  clear hg hg2 hw0 hb0 hA
  unfold clV
  go_enter Try.func52, Try.ntmps52
  go_wp2_with (rw [← HW0.out])
  by_cases hk : c.k = 3
  · have hk' : (c.k == 3) = true := by rw [hk]; rfl
    cases hh : hasB (triS c) n with
    | true =>
      have HR2 : Hid (finB n k c = !hasB (triS c) k) := by show _ = _; rw [HR.out, decide_eq_true hk, hh]; simp
      have HHn : Hid (∀ W, Calls Try.prog 46 #[.agg #[.int .i64 c.tf, .int .i64 c.tt], .int .i64 n] W fun e w' => e = .returned (.bool true) ∧ Below W.heap.size W w') := fun W => by
        have := HHa.out W n
        rwa [hh] at this
      have HHk : Hid (∀ W, Hid True → Calls Try.prog 46 #[.agg #[.int .i64 c.tf, .int .i64 c.tt], .int .i64 k] W fun e w' => e = .returned (.bool (hasB (triS c) k)) ∧ Below W.heap.size W w') := fun W _ => HHa.out W k
      clear hk hh
      go_region_held3 (fun w' => (w'.cell? ⟨g, 0, none⟩ = some (.int .i64 n) ∧ w'.cell? ⟨g2, 0, none⟩ = some (.int .i64 k)) ∧ w'.cell? ⟨w.heap.size, 0, none⟩ = some (.int .i64 c.k) ∧ w'.cell? ⟨w.heap.size, 1, none⟩ = some (.int .i64 c.tf) ∧ w'.cell? ⟨w.heap.size, 2, none⟩ = some (.int .i64 c.tt) ∧ w'.cell? ⟨w.heap.size, 3, none⟩ = some (.int .i64 c.hf) ∧ w'.cell? ⟨w.heap.size, 4, none⟩ = some (.int .i64 c.ht) ∧ w'.cell? ⟨w.heap.size, 5, none⟩ = some (.int .i64 c.fi) ∧ w'.cell? ⟨w.heap.size, 6, none⟩ = some (.int .i64 c.t0) ∧ w'.cell? ⟨w.heap.size, 7, none⟩ = some (.int .i64 c.t1) ∧ w'.cell? ⟨w.heap.size, 8, none⟩ = some (.int .i64 c.t2) ∧ w'.cell? ⟨w.heap.size, 9, none⟩ = some (.bool c.t3))
        (first | (exact HK.out _ (bdrew _)) | (exact HK.out _ hBc))
        (first
          | (go_at_call 45; refine (HTR.out _).mono ?_; rintro e w1 ⟨rfl, hb1⟩; have hBc : Below w0.heap.size w0 w1 := (by first | exact bstep hBc hb1 | exact bstep (bdrew _) hb1))
          | (go_at_call 46; first | (refine (HHk.out _ hBh).mono ?_; rintro e w4 ⟨rfl, hb4⟩; have hBc : Below w0.heap.size w0 w4 := bstep hBc hb4) | (refine (HHn.out _).mono ?_; rintro e w2 ⟨rfl, hb2⟩; have hBc : Below w0.heap.size w0 w2 := bstep hBc hb2; have hBh : Hid True := trivial)))
      rename_i hheld
      clear hheld
      have HB2 : Hid (Below w.heap.size w w4) := bstep HB0.out hBc
      clear hBc
      go_wp2_with fail
      go_ret
      exact ⟨ret_bool HR2.out.symm, HB2.out⟩
    | false =>
      have HR2 : Hid (finB n k c = false) := by show _ = _; rw [HR.out, hh]; simp
      have HHn : Hid (∀ W, Calls Try.prog 46 #[.agg #[.int .i64 c.tf, .int .i64 c.tt], .int .i64 n] W fun e w' => e = .returned (.bool false) ∧ Below W.heap.size W w') := fun W => by
        have := HHa.out W n
        rwa [hh] at this
      clear hk hh
      go_region_with (first
        | (go_at_call 45; refine (HTR.out _).mono ?_; rintro e w1 ⟨rfl, hb1⟩; have hBc : Below w0.heap.size w0 w1 := bstep (bdrew _) hb1; obtain ⟨⟨kg', kg2'⟩, c0', c1', c2', c3', c4', c5', c6', c7', c8', c9'⟩ := HK.out w1 hBc)
        | (go_at_call 46; refine (HHn.out _).mono ?_; rintro e w2 ⟨rfl, hb2⟩; have hBc : Below w0.heap.size w0 w2 := bstep hBc hb2))
      all_goals
        have HB2 : Hid (Below w.heap.size w w2) := bstep HB0.out hBc
        clear hBc
        go_wp2_with fail
        go_ret
        exact ⟨ret_bool HR2.out.symm, HB2.out⟩
  · have hk' : (c.k == 3) = false := by rw [beq_eq_false_iff_ne]; exact hk
    have HR2 : Hid (finB n k c = false) := by show _ = _; rw [HR.out, decide_eq_false hk]; simp
    clear hk
    go_quiet (fail)
    go_wp2_with fail
    go_ret
    exact ⟨ret_bool HR2.out.symm, bstep HB0.out (Below.drewN (Below.refl _ _) _)⟩

theorem tries_any {v : Value} {l : List Cl} {w : World} (h : Es clE9 w v l) (hl : l.length ≤ 1000) (n : Int) :
    Calls Try.prog 17 #[v, .int .i64 n] w fun e w' => ∃ v, e = .returned v ∧ OwnI w' w.heap.size v (pkL (triB n) 0 l) ∧ Below w.heap.size w w' := by
  obtain ⟨w0, hw0⟩ : ∃ W, W = w.alloc (.cells #[.int .i64 n] 3) := ⟨_, rfl⟩
  have HW0 : Hid (w0 = _) := hw0
  have hb0 : Below w.heap.size w w0 := by rw [hw0]; exact made_below _ _ _
  have HB0 : Hid (Below w.heap.size w w0) := hb0
  have hA : At w0 w.heap.size #[.int .i64 n] 3 := by rw [hw0]; exact At.made w _ _
  have HPk : Hid (Calls Try.prog 43 #[v, .func (.func 44) #[] #[.pointer (some ⟨w.heap.size, 0, none⟩)]] w0 fun e w' => ∃ v, e = .returned v ∧ OwnI w' w0.heap.size v (pkL (triB n) 0 l) ∧ Below w0.heap.size w0 w') := by
    refine pick_any (h.later hb0) hl ⟨run_enter9 Try.func44 (by kernel_rfl) rfl, fun W hW x hx => ?_⟩
    have hA1 := hA.later hW
    have := tries1_any (c := x) (w := W) hA1.cell0 hA1.lt
    simpa using this
  obtain ⟨a, c, rfl, _, _⟩ := h.shape
  clear h hw0 hb0 hA
  go_enter Try.func17, Try.ntmps17
  go_wp2_with (rw [← HW0.out])
  refine Calls.mono HPk.out ?_
  rintro e w1 ⟨v1, rfl, ho1, hb1⟩
  have HO1 : Hid (OwnI w1 w0.heap.size v1 (pkL (triB n) 0 l)) := ho1
  have HB1 : Hid (Below w0.heap.size w0 w1) := hb1
  clear ho1 hb1
  go_wp2
  go_ret
  exact ⟨_, rfl, ownI_mono HO1.out HB0.out.size, bstep HB0.out HB1.out⟩

theorem finals_any {v : Value} {l : List Cl} {w : World} (h : Es clE9 w v l) (hl : l.length ≤ 1000) (n k : Int) :
    Calls Try.prog 24 #[v, .int .i64 n, .int .i64 k] w fun e w' => ∃ v, e = .returned v ∧ OwnI w' w.heap.size v (pkL (finB n k) 0 l) ∧ Below w.heap.size w w' := by
  obtain ⟨w0, hw0⟩ : ∃ W, W = (w.alloc (.cells #[.int .i64 n] 3)).alloc (.cells #[.int .i64 k] 3) := ⟨_, rfl⟩
  have HW0 : Hid (w0 = _) := hw0
  have hb0 : Below w.heap.size w w0 := by rw [hw0]; exact bbox (made_below _ _ _) _
  have HB0 : Hid (Below w.heap.size w w0) := hb0
  have hA : At w0 w.heap.size #[.int .i64 n] 3 := by rw [hw0]; exact (At.made w _ _).next _
  have hA2 : At w0 (w.heap.size + 1) #[.int .i64 k] 3 := by rw [hw0]; exact At.made2 w _ _ _
  have HPk : Hid (Calls Try.prog 43 #[v, .func (.func 52) #[] #[.pointer (some ⟨w.heap.size, 0, none⟩), .pointer (some ⟨w.heap.size + 1, 0, none⟩)]] w0 fun e w' => ∃ v, e = .returned v ∧ OwnI w' w0.heap.size v (pkL (finB n k) 0 l) ∧ Below w0.heap.size w0 w') := by
    refine pick_any (h.later hb0) hl ⟨run_enter9 Try.func52 (by kernel_rfl) rfl, fun W hW x hx => ?_⟩
    have hA1 := hA.later hW
    have hA3 := hA2.later hW
    have := finals1_any (c := x) (w := W) hA1.cell0 hA1.lt hA3.cell0 hA3.lt
    simpa using this
  obtain ⟨a, c, rfl, _, _⟩ := h.shape
  clear h hw0 hb0 hA hA2
  go_enter Try.func24, Try.ntmps24
  go_wp2_with (rw [← HW0.out])
  refine Calls.mono HPk.out ?_
  rintro e w1 ⟨v1, rfl, ho1, hb1⟩
  have HO1 : Hid (OwnI w1 w0.heap.size v1 (pkL (finB n k) 0 l)) := ho1
  have HB1 : Hid (Below w0.heap.size w0 w1) := hb1
  clear ho1 hb1
  go_wp2
  go_ret
  exact ⟨_, rfl, ownI_mono HO1.out HB0.out.size, bstep HB0.out HB1.out⟩

end Go.Proofs.Ytbfcdcdeohikpaa
