
/- Split of the program. -/
import Derived.Test.YtbehcdpjpjklfaaRows
import Derived.Test.YtbehcdpjpjklfaaTake3
namespace Go.Proofs.Ytbehcdpjpjklfaa
set_option linter.unusedVariables false
set_option linter.unusedSimpArgs false
open Go.RowKit Go.Maps
attribute [local go_sem ↓] Go.wp_at_zero Go.wp_at_succ

/-- 'v[:n]' of a slice of bytes. -/
theorem slice_to {P : Program} {w : World} {a : Option Addr} {cap : Nat} {bs : List UInt8} (hv : Bs w (.slice a bs.length cap) bs) (n : Nat) (h : n ≤ bs.length) (t e : TypeId) (ht : P.underlying t = some (.slice e)) (hs : (P.info? e).map (·.size) = some 1) :
    ∃ a' cap', (∀ (W : World) (k1 : IntKind), (Instr.slice t (.slice a bs.length cap) none (some (.int k1 (n : Int))) none).run P W = .ok (.slice a' n cap') W) ∧ Bs w (.slice a' n cap') (seg bs 0 n) ∧
      (∀ k, (Value.slice a' n cap').ownBlock = some k → (Value.slice a bs.length cap).ownBlock = some k) := by
  obtain ⟨a', cap', h1, h2, h3⟩ := slice_bs (P := P) hv 0 n (by omega) t e ht hs
  refine ⟨a', cap', fun W k1 => ?_, h2, h3⟩
  have := h1 W .i64 k1
  rw [show ((0 : Nat) : Int) + (n : Int) = (n : Int) by simp] at this
  rw [← this]
  have hcap : bs.length ≤ cap := by obtain ⟨_, _, he, g1, _⟩ := hv; simp only [Value.slice.injEq] at he; omega
  have b1 : (Instr.sliceBound (.int k1 (n : Int)) cap .sliceAcap).run P W = .ok n W := by rw [run_sliceBound _ _ _ _ _ (by omega) (by omega)]; simp
  have b2 : (Instr.sliceBound (.int .i64 0) n .sliceB).run P W = .ok 0 W := by rw [run_sliceBound _ _ _ _ _ (by omega) (by omega)]; simp
  simp [Instr.slice, run_underlying ht, Instr.sliceBounds, b1, b2]

theorem seg_head (bs : List UInt8) (at_ n : Nat) (h : at_ + n ≤ 56) : seg (seg bs 0 56) at_ n = seg bs at_ n := by
  have : seg bs 0 56 = bs.take 56 := by simp [seg]
  rw [this]; exact seg_take bs at_ n 56 h
theorem num_head (bs : List UInt8) (at_ n : Nat) (h : at_ + n ≤ 56) : numAt (seg bs 0 56) at_ n = numAt bs at_ n := by unfold numAt; rw [seg_head bs at_ n h]
theorem begin_head (bs : List UInt8) : beginR (seg bs 0 56) = beginR bs := by
  unfold beginR; rw [seg_head bs 0 4 (by omega), num_head bs 4 2 (by omega), num_head bs 6 2 (by omega)]

theorem split_begin {bs : List UInt8} (h1 : ¬ 65536 < bs.length) (h2 : ¬ bs.length < 56) (h3 : (beginR bs).2 ≠ 0) : splitR bs = (Strm.nil, (beginR bs).1, (beginR bs).2) := by
  unfold splitR
  rw [if_neg h1, if_neg h2]
  unfold beginR at *
  by_cases g1 : seg bs 0 4 ≠ magic
  · simp [g1]
  · simp only [g1, if_false] at *
    by_cases g2 : numAt bs 4 2 ≠ 1
    · simp [g2]
    · simp only [g2, if_false] at *
      by_cases g3 : numAt bs 6 2 ≠ 4
      · simp [g3]
      · simp [g3] at h3
theorem split_runs {bs : List UInt8} (h1 : ¬ 65536 < bs.length) (h2 : ¬ bs.length < 56) (h3 : (beginR bs).2 = 0) : splitR bs = match runE bs 4 with
    | .inl st => (st.s, 0, 0)
    | .inr e => (Strm.nil, e.1, e.2) := by
  unfold splitR
  rw [if_neg h1, if_neg h2]
  unfold beginR at h3
  by_cases g1 : seg bs 0 4 ≠ magic
  · simp [g1] at h3
  · simp only [g1, if_false] at *
    by_cases g2 : numAt bs 4 2 ≠ 1
    · simp [g2] at h3
    · simp only [g2, if_false] at *
      by_cases g3 : numAt bs 6 2 ≠ 4
      · simp [g3] at h3
      · simp only [g3, if_false]
        cases runE bs 4 <;> rfl

theorem Spl.rebase {w0 w : World} {base sb kb : Nat} {iv lv ac p0 p1 p2 p3 av : Value} {s : Strm} {ks : List Nat} {ivs : List (Nat × Nat)} (h : Spl w0 w base sb kb iv lv ac p0 p1 p2 p3 av s ks ivs) : Spl w w base sb kb iv lv ac p0 p1 p2 p3 av s ks ivs := { h with below := Below.refl _ _ }
/-- Nothing but a block below has turned. -/
theorem Spl.low {w0 w w' : World} {base sb kb rb : Nat} {iv lv ac p0 p1 p2 p3 av : Value} {s : Strm} {ks : List Nat} {ivs : List (Nat × Nat)} (h : Spl w0 w base sb kb iv lv ac p0 p1 p2 p3 av s ks ivs) (ho : Only rb w w') (hr : rb < base) : Spl w' w' base sb kb iv lv ac p0 p1 p2 p3 av s ks ivs := by
  have key : ∀ k, base ≤ k → k < w.heap.size → w'.heap[k]? = w.heap[k]? := fun k hk hl => ho.block k hl (by omega)
  have u8 : ∀ {v : Value} {xs : List UInt8}, Own w base 5 v xs → Own w' base 5 v xs := fun hv => own_of_block hv fun k hk => key k (hv.block k hk).1 (hv.block k hk).2
  exact ⟨(key sb h.slo h.lt).trans h.blk, h.tab.of_block (key kb h.klo h.tab.lt), row_of_block h.row fun k hk => key k (World.ownsRow.lt h.row k hk).1 (World.ownsRow.lt h.row k hk).2, u8 h.o0, u8 h.o1, u8 h.o2, u8 h.o3, Below.refl _ _, h.slo, h.klo, Nat.le_trans h.top ho.size⟩

/-- What a round keeps of the entries so far. -/
structure Ent (bs : List UInt8) (i : Nat) (st : SSt) : Prop where
  run : runE bs i = .inl st
  len : st.ivs.length = i
  fit : ∀ p ∈ st.ivs, p.1 + p.2 < 18446744073709551616
theorem numAt_lt (bs : List UInt8) (at_ n : Nat) : numAt bs at_ n < 256 ^ n := by
  unfold numAt
  have h := leN_lt (seg bs at_ n)
  have : (seg bs at_ n).length ≤ n := by simp [seg]; omega
  exact Nat.lt_of_lt_of_le h (Nat.pow_le_pow_right (by omega) this)
theorem Ent.next {bs : List UInt8} {i : Nat} {st st' : SSt} (h : Ent bs i st) (hs : stepT bs st (eTag bs i) (eAt bs i) (eLen bs i) = .inr st') : Ent bs (i + 1) st' := by
  have he : entry bs i st = .inr st' := hs
  refine ⟨by rw [runE, h.run]; simp only [he], ?_, ?_⟩
  all_goals
    unfold stepT at hs
    split at hs
    · cases hs
    · split at hs
      · cases hs
      · split at hs
        · cases hs
        · split at hs
          · cases hs
          · cases hs
            first
              | (show (st.ivs ++ [(eAt bs i, eLen bs i)]).length = i + 1; rw [List.length_append, h.len]; rfl)
              | (intro p hp
                 simp only [List.mem_append, List.mem_singleton] at hp
                 rcases hp with hp | rfl
                 · exact h.fit p hp
                 · have h1 := numAt_lt bs (ePlace i) 4
                   have h2 := numAt_lt bs (ePlace i + 4) 4
                   simp only [eAt, eLen]
                   omega)
theorem Ent.fault {bs : List UInt8} {i c : Nat} {st : SSt} (h : Ent bs i st) (hi : i < 4) (hs : stepT bs st (eTag bs i) (eAt bs i) (eLen bs i) = .inl c) : runE bs 4 = .inr (ePlace i, c) := by
  have he : entry bs i st = .inl c := hs
  exact run_err (k := i + 1) (by rw [runE, h.run]; simp only [he]) (by omega)

set_option maxRecDepth 100000 in
set_option maxHeartbeats 1000000 in
theorem split_far {v : Value} {bs : List UInt8} {w : World} (hv : Bs w v bs) (h : 65536 < bs.length ∨ bs.length < 56) :
    Calls Try.prog 10 #[v] w fun e w' => ∃ sv, e = .returned (.tuple #[sv, .int .i64 ((splitR bs).2.1 : Int), .int .i64 ((splitR bs).2.2 : Int)]) ∧ Sv w' sv (splitR bs).1 ∧ Below w.heap.size w w' := by
  obtain ⟨a, c, rfl, h1, h2, -⟩ := hv
  unfold maxLen at h2
  rcases h with h | h
  · have HR : Hid (splitR bs = (Strm.nil, 0, 4)) := by show _ = _; unfold splitR; rw [if_pos h]
    go_enter Try.func10, Try.ntmps10
    go_wp2_with fail
    exact bodyPost_ret (v := .tuple #[.agg #[.slice none 0 0, .slice none 0 0, .slice none 0 0, .slice none 0 0], .int .i64 0, .int .i64 4]) (by simp [results, Try.results10, go_sem]) rfl ⟨_, by rw [HR.out]; rfl, by rw [HR.out]; exact Sv.nil _, (Below.refl _ _).alloc (Nat.le_refl _) _⟩
  · have HR : Hid (splitR bs = (Strm.nil, bs.length, 1)) := by show _ = _; unfold splitR; rw [if_neg (by omega), if_pos h]
    go_enter Try.func10, Try.ntmps10
    go_wp2_with fail
    exact bodyPost_ret (v := .tuple #[.agg #[.slice none 0 0, .slice none 0 0, .slice none 0 0, .slice none 0 0], .int .i64 (bs.length : Int), .int .i64 1]) (by simp [results, Try.results10, go_sem]) rfl ⟨_, by rw [HR.out]; rfl, by rw [HR.out]; exact Sv.nil _, (Below.refl _ _).alloc (Nat.le_refl _) _⟩

/-- Four cells are laid anew. -/
theorem res4 {W : World} {g : Nat} {x0 x1 x2 x3 : Value} {t : TypeId} (h : W.heap[g]? = some (Obj.cells #[x0, x1, x2, x3] t (0, 0))) (y0 y1 y2 y3 : Value) (W' : World) (hW : W' = (((W.setCell ⟨g, 0, none⟩ y0).setCell ⟨g, 1, none⟩ y1).setCell ⟨g, 2, none⟩ y2).setCell ⟨g, 3, none⟩ y3) :
    Only g W W' ∧ W'.cell? ⟨g, 0, none⟩ = some y0 ∧ W'.cell? ⟨g, 1, none⟩ = some y1 ∧ W'.cell? ⟨g, 2, none⟩ = some y2 ∧ W'.cell? ⟨g, 3, none⟩ = some y3 := by
  have e1 : W.setCell ⟨g, 0, none⟩ y0 = W.setRow g #[y0, x1, x2, x3] := by rw [setCell_eq_setRow W g 0 _ _ _ _ h]; simp
  have h1 := setRow_heap W g _ #[y0, x1, x2, x3] _ _ h
  rw [← e1] at h1
  have e2 : (W.setCell ⟨g, 0, none⟩ y0).setCell ⟨g, 1, none⟩ y1 = (W.setCell ⟨g, 0, none⟩ y0).setRow g #[y0, y1, x2, x3] := by rw [setCell_eq_setRow _ g 1 _ _ _ _ h1]; simp
  have h2 := setRow_heap (W.setCell ⟨g, 0, none⟩ y0) g _ #[y0, y1, x2, x3] _ _ h1
  rw [← e2] at h2
  have e3 : ((W.setCell ⟨g, 0, none⟩ y0).setCell ⟨g, 1, none⟩ y1).setCell ⟨g, 2, none⟩ y2 = ((W.setCell ⟨g, 0, none⟩ y0).setCell ⟨g, 1, none⟩ y1).setRow g #[y0, y1, y2, x3] := by rw [setCell_eq_setRow _ g 2 _ _ _ _ h2]; simp
  have h3 := setRow_heap ((W.setCell ⟨g, 0, none⟩ y0).setCell ⟨g, 1, none⟩ y1) g _ #[y0, y1, y2, x3] _ _ h2
  rw [← e3] at h3
  have e4 : W' = (((W.setCell ⟨g, 0, none⟩ y0).setCell ⟨g, 1, none⟩ y1).setCell ⟨g, 2, none⟩ y2).setRow g #[y0, y1, y2, y3] := by rw [hW, setCell_eq_setRow _ g 3 _ _ _ _ h3]; simp
  have h4 : W'.heap[g]? = some (Obj.cells #[y0, y1, y2, y3] t (0, 0)) := by rw [e4]; exact setRow_heap _ g _ _ _ _ h3
  refine ⟨by rw [hW]; exact Only.setCell (Only.setCell (Only.setCell (Only.setCell (Only.refl _ _) 0 _) 1 _) 2 _) 3 _, ?_, ?_, ?_, ?_⟩ <;> simp [World.cell?, h4]

theorem stepT_pos {bs : List UInt8} {st : SSt} {t : List UInt8} {a n c : Nat} (h : stepT bs st t a n = .inl c) : c ≠ 0 := by
  unfold stepT at h
  split at h
  · cases h; omega
  · split at h
    · cases h; omega
    · split at h
      · cases h; omega
      · split at h
        · cases h; omega
        · cases h

theorem spl_start (w : World) (iv : Value) : Spl ((w.alloc (Obj.cells #[.string (tagS 0), pickF 0, .string (tagS 1), pickF 1, .string (tagS 2), pickF 2, .string (tagS 3), pickF 3] 71)).alloc (Obj.cells #[iv, .slice (some ⟨w.heap.size, 0, none⟩) 4 4, .slice none 0 0, .slice none 0 0, .slice none 0 0, .slice none 0 0, .slice none 0 0] 54))
    ((w.alloc (Obj.cells #[.string (tagS 0), pickF 0, .string (tagS 1), pickF 1, .string (tagS 2), pickF 2, .string (tagS 3), pickF 3] 71)).alloc (Obj.cells #[iv, .slice (some ⟨w.heap.size, 0, none⟩) 4 4, .slice none 0 0, .slice none 0 0, .slice none 0 0, .slice none 0 0, .slice none 0 0] 54))
    w.heap.size (w.heap.size + 1) w.heap.size iv (.slice (some ⟨w.heap.size, 0, none⟩) (leftOf []).length 4) (.slice none 0 0) (.slice none 0 0) (.slice none 0 0) (.slice none 0 0) (.slice none 0 0) (.slice none 0 0) Strm.nil (leftOf []) [] := by
  have h1 := heap_alloc_new (w.alloc (Obj.cells #[.string (tagS 0), pickF 0, .string (tagS 1), pickF 1, .string (tagS 2), pickF 2, .string (tagS 3), pickF 3] 71)) (Obj.cells #[iv, .slice (some ⟨w.heap.size, 0, none⟩) 4 4, .slice none 0 0, .slice none 0 0, .slice none 0 0, .slice none 0 0, .slice none 0 0] 54)
  have h2 := heap_alloc_old (w.alloc (Obj.cells #[.string (tagS 0), pickF 0, .string (tagS 1), pickF 1, .string (tagS 2), pickF 2, .string (tagS 3), pickF 3] 71)) (Obj.cells #[iv, .slice (some ⟨w.heap.size, 0, none⟩) 4 4, .slice none 0 0, .slice none 0 0, .slice none 0 0, .slice none 0 0, .slice none 0 0] 54) (r := w.heap.size) (by simp)
  simp only [World.size_alloc] at h1
  have hl : leftOf [] = [0, 1, 2, 3] := rfl
  refine ⟨h1, ⟨by decide, _, h2.trans (heap_alloc_new w _), rfl, rfl⟩, World.ownsRow_nil _ _ _ _, Own.nil _ _ _, Own.nil _ _ _, Own.nil _ _ _, Own.nil _ _ _, Below.refl _ _, by omega, Nat.le_refl _, by simp; omega⟩

set_option maxRecDepth 100000 in
set_option maxHeartbeats 2000000 in
theorem split_near {v : Value} {bs : List UInt8} {w : World} (hv : Bs w v bs) (h1 : ¬ 65536 < bs.length) (h2 : ¬ bs.length < 56) :
    Calls Try.prog 10 #[v] w fun e w' => ∃ sv, e = .returned (.tuple #[sv, .int .i64 ((splitR bs).2.1 : Int), .int .i64 ((splitR bs).2.2 : Int)]) ∧ Sv w' sv (splitR bs).1 ∧ Below w.heap.size w w' := by
  have HV : Hid (∀ W, Below w.heap.size w W → Bs W v bs) := fun W hW => hv.later hW
  have hv0 := hv
  obtain ⟨a, c, rfl, hc1, hc2, hc3⟩ := hv
  obtain ⟨b, off, rfl, hbl, -⟩ := hc3 (by intro e; subst e; simp at h2)
  unfold maxLen at hc2
  have hb1 : Below w.heap.size w (w.alloc (Obj.cells #[.slice none 0 0, .slice none 0 0, .slice none 0 0, .slice none 0 0] 25)) := (Below.refl _ _).alloc (Nat.le_refl _) _
  have hbsl : Bs (w.alloc (Obj.cells #[.slice none 0 0, .slice none 0 0, .slice none 0 0, .slice none 0 0] 25)) (.slice (some ⟨b, off, none⟩) 56 c) (seg bs 0 56) := by
    have := bs_take 56 (by omega) (HV.out _ hb1)
    exact this
  have hhl : (seg bs 0 56).length = 56 := seg_length bs 0 56 (by omega)
  have HNW : Hid (Calls Try.prog 18 #[.slice (some ⟨b, off, none⟩) 56 c] (w.alloc (Obj.cells #[.slice none 0 0, .slice none 0 0, .slice none 0 0, .slice none 0 0] 25)) fun e w' => e = .returned (.pointer (some ⟨w.heap.size + 2, 0, none⟩)) ∧ RdAt w' (w.heap.size + 2) (seg bs 0 56) 0 ∧ Below (w.heap.size + 1) (w.alloc (Obj.cells #[.slice none 0 0, .slice none 0 0, .slice none 0 0, .slice none 0 0] 25)) w') := by
    have := new_any hbsl (by omega)
    simp only [World.size_alloc] at this
    exact this
  have hg1 := heap_alloc_new w (Obj.cells #[.slice none 0 0, .slice none 0 0, .slice none 0 0, .slice none 0 0] 25)
  have HSG : Hid _ := hg1
  clear hg1 hv0 hbsl hc3
  go_enter Try.func10, Try.ntmps10
  go_wp2_with fail
  refine Calls.mono HNW.out ?_
  rintro e w2 ⟨rfl, hr2, hb2⟩
  have HR2 : Hid _ := hr2
  have HB2 : Hid (Below w.heap.size w w2) := hb1.trans (hb2.mono (by omega))
  have HG2 : Hid (w2.heap[w.heap.size]? = some (Obj.cells #[.slice none 0 0, .slice none 0 0, .slice none 0 0, .slice none 0 0] 25 (0, 0))) := (hb2.block _ (by omega)).trans HSG.out
  have hrl := hr2.lt
  clear hr2 hb2 hb1 HNW HSG
  go_wp2_with fail
  refine (begin_any HR2.out (by omega)).mono ?_
  rw [begin_head]
  rintro e w3 ⟨rfl, hr3, ho3⟩
  have HR3 : Hid _ := hr3
  have HB3 : Hid (Below w.heap.size w w3) := HB2.out.trans (ho3.below (by omega) (by omega))
  have HG3 : Hid (w3.heap[w.heap.size]? = some (Obj.cells #[.slice none 0 0, .slice none 0 0, .slice none 0 0, .slice none 0 0] 25 (0, 0))) := (ho3.block _ (by omega) (by omega)).trans HG2.out
  have hsz3 := ho3.size
  clear hr3 ho3 HR2 HB2 HG2
  by_cases hbe : (beginR bs).2 = 0
  · have HR : Hid _ := split_runs h1 h2 hbe
    rw [hbe]
    generalize (beginR bs).1 = bp at *
    clear hbe
    have HS4 : Hid _ := spl_start w3 (.slice (some ⟨b, off, none⟩) bs.length c)
    have hb4 : Below w3.heap.size w3 ((w3.alloc (Obj.cells #[.string (tagS 0), pickF 0, .string (tagS 1), pickF 1, .string (tagS 2), pickF 2, .string (tagS 3), pickF 3] 71)).alloc (Obj.cells #[.slice (some ⟨b, off, none⟩) bs.length c, .slice (some ⟨w3.heap.size, 0, none⟩) 4 4, .slice none 0 0, .slice none 0 0, .slice none 0 0, .slice none 0 0, .slice none 0 0] 54)) := ((Below.refl _ _).alloc (Nat.le_refl _) _).alloc (by simp) _
    have HB4 : Hid _ := hb4
    clear hb4
    go_wp2_with fail
    refine (kinds_any w3).mono ?_
    rintro e w4 ⟨rfl, hz4⟩
    subst w4
    go_wp2_with fail
    go_loopw [37] (fun i wr => ∃ (k : Nat) (st : SSt) (p0 p1 p2 p3 av : Value), k ≤ 4 ∧ i = .int .i64 k ∧ Ent bs k st ∧ Spl wr wr w3.heap.size (w3.heap.size + 1) w3.heap.size (.slice (some ⟨b, off, none⟩) bs.length c) (.slice (some ⟨w3.heap.size, 0, none⟩) (leftOf st.met).length 4) av p0 p1 p2 p3 av st.s (leftOf st.met) st.ivs ∧ RdAt wr (w.heap.size + 2) (seg bs 0 56) (8 + 12 * k) ∧ Below w.heap.size w wr ∧ wr.heap[w.heap.size]? = some (Obj.cells #[.slice none 0 0, .slice none 0 0, .slice none 0 0, .slice none 0 0] 25 (0, 0))) (fun i _ => 4 - (intOf i).toNat)
    case atStart => exact ⟨0, sst0, _, _, _, _, _, by omega, rfl, ⟨rfl, rfl, by simp [sst0]⟩, HS4.out, HR3.out.only HB4.out, HB3.out.trans (HB4.out.mono HB3.out.size), (HB4.out.block _ (by omega)).trans HG3.out⟩
    case round =>
      obtain ⟨k, st, p0, p1, p2, p3, av, hk, rfl, hen, hsp, hrd, hbel, hg⟩ := hrel
      have HEN : Hid (Ent bs k st) := hen
      have HSP : Hid _ := hsp
      have HRD : Hid _ := hrd
      have HBL : Hid (Below w.heap.size w wr) := hbel
      have HG : Hid (wr.heap[w.heap.size]? = some (Obj.cells #[.slice none 0 0, .slice none 0 0, .slice none 0 0, .slice none 0 0] 25 (0, 0))) := hg
      have hszr := hbel.size
      have htop := hsp.top
      clear hen hsp hrd hbel hg HS4 HB4 HR3 HG3 HB3
      by_cases hlt : k < 4
      · have HE1 : Hid (Calls Try.prog 23 #[.pointer (some ⟨w.heap.size + 2, 0, none⟩)] wr fun e w' => e = .returned (.tuple #[.agg #[.int .u64 (eAt bs k : Int), .int .u64 (eLen bs k : Int)], .string ⟨(eTag bs k).toArray⟩]) ∧ RdAt w' (w.heap.size + 2) (seg bs 0 56) (8 + 12 * (k + 1)) ∧ Only (w.heap.size + 2) wr w') := by
          have := entry_any HRD.out (by omega)
          rw [num_head bs _ _ (by omega), num_head bs _ _ (by omega), seg_head bs _ _ (by omega)] at this
          exact this
        have HA1 : Hid _ := at_any HRD.out
        have HLT : Hid (eAt bs k < 4294967296 ∧ eLen bs k < 4294967296) := ⟨numAt_lt bs _ 4, numAt_lt bs _ 4⟩
        go_wp2_with fail
        refine Calls.mono HA1.out ?_
        rintro e wz ⟨rfl, hz⟩
        subst wz
        go_wp2_with fail
        refine Calls.mono HE1.out ?_
        rintro e w6 ⟨rfl, hr6, ho6⟩
        have HR6 : Hid _ := hr6
        have HS6 : Hid _ := HSP.out.low ho6 (by omega)
        have HB6 : Hid (Below w.heap.size w w6) := HBL.out.trans (ho6.below (by omega) hszr)
        have HG6 : Hid (w6.heap[w.heap.size]? = some (Obj.cells #[.slice none 0 0, .slice none 0 0, .slice none 0 0, .slice none 0 0] 25 (0, 0))) := (ho6.block _ (by omega) (by omega)).trans HG.out
        have hsz6 := ho6.size
        have HT6 : Hid (Calls Try.prog 22 #[.pointer (some ⟨w3.heap.size + 1, 0, none⟩), .agg #[.int .u64 (eAt bs k : Int), .int .u64 (eLen bs k : Int)], .string ⟨(eTag bs k).toArray⟩] w6 (TakeR w6 w3.heap.size (w3.heap.size + 1) w3.heap.size (.slice (some ⟨b, off, none⟩) bs.length c) bs st (eTag bs k) (eAt bs k) (eLen bs k))) :=
          take3_any HS6.out (HV.out w6 HB6.out) (fun j hj => by simp [Value.ownBlock] at hj; omega) (by omega) ⟨(eTag bs k).toArray⟩ (eAt bs k) (eLen bs k) HLT.out.1 HLT.out.2 (by rw [HEN.out.len]; omega) HEN.out.fit
        clear hr6 ho6 HE1 HA1 HSP HRD HBL HG
        go_wp2_with fail
        refine Calls.mono HT6.out ?_
        intro e w7 htr
        cases hst : stepT bs st (eTag bs k) (eAt bs k) (eLen bs k) with
        | inl cc =>
          obtain ⟨rfl, hb7⟩ := htr.1 cc hst
          have HG7 : Hid (w7.heap[w.heap.size]? = some (Obj.cells #[.slice none 0 0, .slice none 0 0, .slice none 0 0, .slice none 0 0] 25 (0, 0))) := (hb7.block _ (by omega)).trans HG6.out
          have HB7 : Hid (Below w.heap.size w w7) := HB6.out.trans (hb7.mono (by omega))
          have HF : Hid (splitR bs = (Strm.nil, ePlace k, cc)) := by
            show _ = _
            rw [HR.out, HEN.out.fault hlt hst]
          have hcc : ((cc : Int) != 0) = true := by rw [bne_iff_ne]; have := stepT_pos hst; omega
          have f0 : w7.cell? ⟨w.heap.size, 0, none⟩ = some (.slice none 0 0) := by simp [World.cell?, HG7.out]
          have f1 : w7.cell? ⟨w.heap.size, 1, none⟩ = some (.slice none 0 0) := by simp [World.cell?, HG7.out]
          have f2 : w7.cell? ⟨w.heap.size, 2, none⟩ = some (.slice none 0 0) := by simp [World.cell?, HG7.out]
          have f3 : w7.cell? ⟨w.heap.size, 3, none⟩ = some (.slice none 0 0) := by simp [World.cell?, HG7.out]
          have z0 : w7.frozen? ⟨w.heap.size, 0, none⟩ = false := by simp [World.frozen?, HG7.out]
          have z1 : w7.frozen? ⟨w.heap.size, 1, none⟩ = false := by simp [World.frozen?, HG7.out]
          have z2 : w7.frozen? ⟨w.heap.size, 2, none⟩ = false := by simp [World.frozen?, HG7.out]
          have z3 : w7.frozen? ⟨w.heap.size, 3, none⟩ = false := by simp [World.frozen?, HG7.out]
          have hsz7 := hb7.size
          clear htr hb7 HS6 HR6 HT6
          go_wp2_with fail
          obtain ⟨q0, q1, q2, q3, q4⟩ := res4 HG7.out (.slice none 0 0) (.slice none 0 0) (.slice none 0 0) (.slice none 0 0) _ rfl
          exact bodyPost_ret (v := .tuple #[.agg #[.slice none 0 0, .slice none 0 0, .slice none 0 0, .slice none 0 0], .int .i64 ((8 + 12 * k : Nat) : Int), .int .i64 (cc : Int)]) (by simp [results, Try.results10, go_sem, q1, q2, q3, q4]) rfl ⟨_, by rw [HF.out]; rfl, by rw [HF.out]; exact Sv.nil _, HB7.out.trans (q0.below (Nat.le_refl _) (by omega))⟩
        | inr st' =>
          obtain ⟨rfl, p0', p1', p2', p3', av', hs7⟩ := htr.2 st' hst
          have HE7 : Hid (Ent bs (k + 1) st') := HEN.out.next hst
          have HS7 : Hid _ := hs7.rebase
          have HR7 : Hid _ := HR6.out.below hs7.below (by omega)
          have HB7 : Hid (Below w.heap.size w w7) := HB6.out.trans (hs7.below.mono (by omega))
          have HG7 : Hid (w7.heap[w.heap.size]? = some (Obj.cells #[.slice none 0 0, .slice none 0 0, .slice none 0 0, .slice none 0 0] 25 (0, 0))) := (hs7.below.block _ (by omega)).trans HG6.out
          clear htr hs7 HS6 HR6 HT6
          go_wp2_with fail
          go_roundw
          case rel => exact ⟨k + 1, st', p0', p1', p2', p3', av', by omega, by go_num, HE7.out, HS7.out, HR7.out, HB7.out, HG7.out⟩
          case measure => simp [intOf]; omega
      · have hk4 : k = 4 := by omega
        subst hk4
        have HF : Hid (splitR bs = (st.s, 0, 0)) := by show _ = _; rw [HR.out, HEN.out.run]
        obtain ⟨x0, y0, e0, -⟩ := HSP.out.o0.bs
        obtain ⟨x1, y1, e1, -⟩ := HSP.out.o1.bs
        obtain ⟨x2, y2, e2, -⟩ := HSP.out.o2.bs
        obtain ⟨x3, y3, e3, -⟩ := HSP.out.o3.bs
        subst e0 e1 e2 e3
        obtain ⟨_, _, _, c3, c4, c5, c6⟩ := HSP.out.cells
        have f0 : wr.cell? ⟨w.heap.size, 0, none⟩ = some (.slice none 0 0) := by simp [World.cell?, HG.out]
        have f1 : wr.cell? ⟨w.heap.size, 1, none⟩ = some (.slice none 0 0) := by simp [World.cell?, HG.out]
        have f2 : wr.cell? ⟨w.heap.size, 2, none⟩ = some (.slice none 0 0) := by simp [World.cell?, HG.out]
        have f3 : wr.cell? ⟨w.heap.size, 3, none⟩ = some (.slice none 0 0) := by simp [World.cell?, HG.out]
        have z0 : wr.frozen? ⟨w.heap.size, 0, none⟩ = false := by simp [World.frozen?, HG.out]
        have z1 : wr.frozen? ⟨w.heap.size, 1, none⟩ = false := by simp [World.frozen?, HG.out]
        have z2 : wr.frozen? ⟨w.heap.size, 2, none⟩ = false := by simp [World.frozen?, HG.out]
        have z3 : wr.frozen? ⟨w.heap.size, 3, none⟩ = false := by simp [World.frozen?, HG.out]
        have HX : Hid (∀ W, Only w.heap.size wr W → Sv W (.agg #[.slice x0 st.s.r.length y0, .slice x1 st.s.n.length y1, .slice x2 st.s.b.length y2, .slice x3 st.s.c.length y3]) st.s) := fun W hW => by
          have u8 : ∀ {v : Value} {xs : List UInt8}, Own wr w3.heap.size 5 v xs → Bs W v xs := fun hv => hv.bs.only hW fun _ e => by have := (hv.block _ e).1; omega
          exact ⟨_, _, _, _, rfl, u8 HSP.out.o0, u8 HSP.out.o1, u8 HSP.out.o2, u8 HSP.out.o3⟩
        generalize st.s.r.length = l0 at *
        generalize st.s.n.length = l1 at *
        generalize st.s.b.length = l2 at *
        generalize st.s.c.length = l3 at *
        go_wp2_with fail
        obtain ⟨q0, q1, q2, q3, q4⟩ := res4 HG.out (.slice x0 l0 y0) (.slice x1 l1 y1) (.slice x2 l2 y2) (.slice x3 l3 y3) _ rfl
        exact bodyPost_ret (v := .tuple #[.agg #[.slice x0 l0 y0, .slice x1 l1 y1, .slice x2 l2 y2, .slice x3 l3 y3], .int .i64 0, .int .i64 0]) (by simp [results, Try.results10, go_sem, q1, q2, q3, q4]) rfl ⟨_, by rw [HF.out]; rfl, by rw [HF.out]; exact HX.out _ q0, HBL.out.trans (q0.below (Nat.le_refl _) (by omega))⟩
  · have HR : Hid (splitR bs = (Strm.nil, (beginR bs).1, (beginR bs).2)) := split_begin h1 h2 hbe
    have hbe' : (((beginR bs).2 : Int) != 0) = true := by rw [bne_iff_ne]; omega
    have f0 : w3.cell? ⟨w.heap.size, 0, none⟩ = some (.slice none 0 0) := by simp [World.cell?, HG3.out]
    have f1 : w3.cell? ⟨w.heap.size, 1, none⟩ = some (.slice none 0 0) := by simp [World.cell?, HG3.out]
    have f2 : w3.cell? ⟨w.heap.size, 2, none⟩ = some (.slice none 0 0) := by simp [World.cell?, HG3.out]
    have f3 : w3.cell? ⟨w.heap.size, 3, none⟩ = some (.slice none 0 0) := by simp [World.cell?, HG3.out]
    have z0 : w3.frozen? ⟨w.heap.size, 0, none⟩ = false := by simp [World.frozen?, HG3.out]
    have z1 : w3.frozen? ⟨w.heap.size, 1, none⟩ = false := by simp [World.frozen?, HG3.out]
    have z2 : w3.frozen? ⟨w.heap.size, 2, none⟩ = false := by simp [World.frozen?, HG3.out]
    have z3 : w3.frozen? ⟨w.heap.size, 3, none⟩ = false := by simp [World.frozen?, HG3.out]
    generalize beginR bs = br at *
    go_wp2_with fail
    obtain ⟨q0, q1, q2, q3, q4⟩ := res4 HG3.out (.slice none 0 0) (.slice none 0 0) (.slice none 0 0) (.slice none 0 0) _ rfl
    exact bodyPost_ret (v := .tuple #[.agg #[.slice none 0 0, .slice none 0 0, .slice none 0 0, .slice none 0 0], .int .i64 (br.1 : Int), .int .i64 (br.2 : Int)]) (by simp [results, Try.results10, go_sem, q1, q2, q3, q4]) rfl ⟨_, by rw [HR.out], by rw [HR.out]; exact Sv.nil _, HB3.out.trans (q0.below (Nat.le_refl _) (by omega))⟩

end Go.Proofs.Ytbehcdpjpjklfaa
