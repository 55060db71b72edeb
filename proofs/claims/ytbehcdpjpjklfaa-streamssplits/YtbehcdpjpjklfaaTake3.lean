
/- take of the splitter. -/
import Derived.Test.YtbehcdpjpjklfaaRows
import Derived.Test.YtbehcdpjpjklfaaSplitter
namespace Go.Proofs.Ytbehcdpjpjklfaa
set_option linter.unusedVariables false
set_option linter.unusedSimpArgs false
open Go.RowKit Go.Maps
attribute [local go_sem ↓] Go.wp_at_zero Go.wp_at_succ

/-- What take answers, and how the splitter stands. -/
def TakeR (w0 : World) (base sb kb : Nat) (iv : Value) (bs : List UInt8) (st : SSt) (t : List UInt8) (a n : Nat) (e : Ending) (w' : World) : Prop :=
  (∀ c, stepT bs st t a n = .inl c → e = .returned (.int .i64 (c : Int)) ∧ Below base w0 w') ∧
  (∀ st', stepT bs st t a n = .inr st' → e = .returned (.int .i64 0) ∧ ∃ p0 p1 p2 p3 av, Spl w0 w' base sb kb iv (.slice (some ⟨kb, 0, none⟩) (leftOf st'.met).length 4) av p0 p1 p2 p3 av st'.s (leftOf st'.met) st'.ivs)

theorem TakeR.err {w0 : World} {base sb kb : Nat} {iv : Value} {bs : List UInt8} {st : SSt} {t : List UInt8} {a n : Nat} {w' : World} {c : Nat} (h : stepT bs st t a n = .inl c) (hb : Below base w0 w') (x : Int) (hx : x = c) : TakeR w0 base sb kb iv bs st t a n (.returned (.int .i64 x)) w' :=
  ⟨fun c' hc => by rw [h] at hc; cases hc; exact ⟨by rw [hx], hb⟩, fun st' hs => by rw [h] at hs; cases hs⟩

set_option maxRecDepth 100000 in
set_option maxHeartbeats 2000000 in
theorem take3_any {w0 w : World} {base sb kb : Nat} {iv p0 p1 p2 p3 av : Value} {st : SSt} {bs : List UInt8} (h : Spl w0 w base sb kb iv (.slice (some ⟨kb, 0, none⟩) (leftOf st.met).length 4) av p0 p1 p2 p3 av st.s (leftOf st.met) st.ivs)
    (hiv : Bs w0 iv bs) (hbase : ∀ k, iv.ownBlock = some k → k < base) (hbs : bs.length ≤ 65536) (t : ByteArray) (a n : Nat) (ha : a < 4294967296) (hn : n < 4294967296) (hlen : st.ivs.length ≤ 3) (hps : ∀ p ∈ st.ivs, p.1 + p.2 < 18446744073709551616) :
    Calls Try.prog 22 #[.pointer (some ⟨sb, 0, none⟩), .agg #[.int .u64 (a : Int), .int .u64 (n : Int)], .string t] w (TakeR w0 base sb kb iv bs st t.data.toList a n) := by
  have HS : Hid (Spl w0 w base sb kb iv (.slice (some ⟨kb, 0, none⟩) (leftOf st.met).length 4) av p0 p1 p2 p3 av st.s (leftOf st.met) st.ivs) := h
  have HV : Hid (∀ W, Below base w0 W → Bs W iv bs) := fun W hW => hiv.below hW hbase
  have HAV : Hid (∀ k, av.ownBlock = some k → k < w.heap.size) := fun k hk => (World.ownsRow.lt h.row k hk).2
  obtain ⟨ia, ic, rfl, hic, hic2, -⟩ := hiv
  unfold maxLen at hic2
  -- the two boxes
  obtain ⟨W1, hW1⟩ : ∃ W1, W1 = (w.alloc (Obj.cells #[.int .u64 (a : Int), .int .u64 (n : Int)] 59)).alloc (Obj.cells #[.string t] 9) := ⟨_, rfl⟩
  have hb1 : Below w.heap.size w W1 := by rw [hW1]; exact ((Below.refl _ _).alloc (Nat.le_refl _) _).alloc (by simp) _
  have g1 : W1.heap[w.heap.size]? = some (Obj.cells #[.int .u64 (a : Int), .int .u64 (n : Int)] 59 (0, 0)) := by
    rw [hW1, heap_alloc_old _ _ (by simp)]; exact heap_alloc_new w _
  have g2 : W1.heap[w.heap.size + 1]? = some (Obj.cells #[.string t] 9 (0, 0)) := by
    rw [hW1]
    have := heap_alloc_new (w.alloc (Obj.cells #[.int .u64 (a : Int), .int .u64 (n : Int)] 59)) (Obj.cells #[.string t] 9)
    simpa using this
  have hsz1 : W1.heap.size = w.heap.size + 2 := by rw [hW1]; simp
  have HS1 : Hid (Spl w0 W1 base sb kb (.slice ia bs.length ic) (.slice (some ⟨kb, 0, none⟩) (leftOf st.met).length 4) av p0 p1 p2 p3 av st.s (leftOf st.met) st.ivs) := HS.out.later hb1
  have HIX : Hid (Calls Try.prog 38 #[.slice (some ⟨kb, 0, none⟩) (leftOf st.met).length 4, .func (.func 39) #[] #[.pointer (some ⟨w.heap.size + 1, 0, none⟩)]] W1 fun e w' =>
      e = .returned (.int .i64 (idxI t.data.toList (leftOf st.met))) ∧ Below W1.heap.size W1 w') :=
    index_kind kb (w.heap.size + 1) (leftOf st.met) 4 t W1 (leftOf_le _) HS1.out.tab.lt (by omega) HS1.out.tab.tab (by simp [World.cell?, g2])
  -- behind the search
  have HK : Hid (∀ W, Below W1.heap.size W1 W → Spl w0 W base sb kb (.slice ia bs.length ic) (.slice (some ⟨kb, 0, none⟩) (leftOf st.met).length 4) av p0 p1 p2 p3 av st.s (leftOf st.met) st.ivs ∧ W.heap[w.heap.size]? = some (Obj.cells #[.int .u64 (a : Int), .int .u64 (n : Int)] 59 (0, 0))) := fun W hW =>
    ⟨HS1.out.later hW, (hW.block _ (by omega)).trans g1⟩
  obtain ⟨j0, j1, j2, -⟩ := HS1.out.cells
  have HPS : Hid (∀ p ∈ st.ivs, p.1 + p.2 < 18446744073709551616) := hps
  clear g1 g2 h hb1 HS hbase hps
  subst hW1
  go_enter Try.func22, Try.ntmps22
  go_wp2_with fail
  refine Calls.mono HIX.out ?_
  rintro e w2 ⟨rfl, hb2⟩
  obtain ⟨hS2, g2⟩ := HK.out w2 hb2
  have HS2 : Hid _ := hS2
  have hsz2 := hb2.size
  rw [hsz1] at hsz2
  obtain ⟨k0, k1, k2, -⟩ := hS2.cells
  have b0 : w2.cell? ⟨w.heap.size, 0, none⟩ = some (.int .u64 (a : Int)) := by simp [World.cell?, g2]
  have b1 : w2.cell? ⟨w.heap.size, 1, none⟩ = some (.int .u64 (n : Int)) := by simp [World.cell?, g2]
  have hsb := hS2.lt
  have hkb := hS2.tab.lt
  clear HIX HK HS1 hsz1 hb2 hS2 j0 j1 j2
  by_cases hix : idxT t.data.toList (leftOf st.met) < (leftOf st.met).length
  · have HST := stepT_some (bs := bs) (a := a) (n := n) hix
    rw [idxI_yes hix]
    have HKI : Hid ((leftOf st.met)[idxT t.data.toList (leftOf st.met)] < 4) := leftOf_lt (List.getElem_mem _)
    by_cases hr1 : a < 56
    · have HE : Hid (stepT bs st t.data.toList a n = .inl 3) := by show _ = _; rw [HST, if_pos (.inl hr1)]
      clear HST
      generalize idxT t.data.toList (leftOf st.met) = ix at *
      go_wp2_with fail
      go_ret
      exact TakeR.err HE.out HS2.out.below 3 rfl
    · by_cases hr2 : a % 4 ≠ 0
      · have HE : Hid (stepT bs st t.data.toList a n = .inl 3) := by show _ = _; rw [HST, if_pos (.inr hr2)]
        have hr3 : ((a : Int) % 4 != 0) = true := by rw [bne_iff_ne]; omega
        clear HST hr2
        generalize idxT t.data.toList (leftOf st.met) = ix at *
        go_wp2_with fail
        go_ret
        exact TakeR.err HE.out HS2.out.below 3 rfl
      · have hr3 : ((a : Int) % 4 != 0) = false := by rw [bne_eq_false_iff_eq]; omega
        rw [if_neg (by omega)] at HST
        have HST' : Hid (stepT bs st t.data.toList a n = if bs.length < a + n then .inl 1 else if shares st.ivs a n = true then .inl 2
          else .inr ⟨st.s.put (leftOf st.met)[idxT t.data.toList (leftOf st.met)] (seg bs a n), st.met ++ [(leftOf st.met)[idxT t.data.toList (leftOf st.met)]], st.ivs ++ [(a, n)]⟩) := HST
        clear HST
        have hne0 := World.new_ne w2 ⟨w.heap.size, 0, none⟩ b0
        have hne1 := World.new_ne w2 ⟨sb, 0, none⟩ k0
        generalize hixx : idxT t.data.toList (leftOf st.met) = ix at *
        clear hixx
        have hwr : IntKind.u64.wrap (bs.length : Int) = (bs.length : Int) := by simp [IntKind.wrap, IntKind.signed, IntKind.bits]; omega
        go_wp2_with fail
        go_region_held3 (fun w' => w'.cell? ⟨w.heap.size, 0, none⟩ = some (.int .u64 (a : Int)) ∧ w'.cell? ⟨w.heap.size, 1, none⟩ = some (.int .u64 (n : Int)) ∧ w'.cell? ⟨sb, 0, none⟩ = some (.slice ia bs.length ic)) (go_keep)
          (first | (go_at_call 40; refine (end_any a n (by omega) _).mono ?_; rintro e w' ⟨rfl, rfl⟩))
        have hb3 : Below w2.heap.size w2 (w2.alloc (Obj.cells #[.int .u64 (a : Int), .int .u64 (n : Int)] 59)).drew := Below.drewN ((Below.refl _ _).alloc (Nat.le_refl _) _) 1
        rename_i hheld
        clear hheld
        generalize (w2.alloc (Obj.cells #[.int .u64 (a : Int), .int .u64 (n : Int)] 59)).drew = w3 at *
        have HS3 : Hid _ := HS2.out.later hb3
        have hsz3 := hb3.size
        replace b0 : w3.cell? ⟨w.heap.size, 0, none⟩ = some (.int .u64 (a : Int)) := by rw [← b0]; exact World.cell?_of_block (hb3.block _ (by show w.heap.size < _; omega))
        replace b1 : w3.cell? ⟨w.heap.size, 1, none⟩ = some (.int .u64 (n : Int)) := by rw [← b1]; exact World.cell?_of_block (hb3.block _ (by show w.heap.size < _; omega))
        replace g2 : w3.heap[w.heap.size]? = some (Obj.cells #[.int .u64 (a : Int), .int .u64 (n : Int)] 59 (0, 0)) := (hb3.block _ (by omega)).trans g2
        replace k0 := HS3.out.cells.1
        replace k1 := HS3.out.cells.2.1
        replace k2 := HS3.out.cells.2.2.1
        clear HS2 hb3 hne0 hne1
        by_cases hr5 : bs.length < a + n
        · have HE : Hid (stepT bs st t.data.toList a n = .inl 1) := by show _ = _; rw [HST'.out, if_pos hr5]
          go_wp2_with fail
          go_ret
          exact TakeR.err HE.out HS3.out.below 1 rfl
        · have HST2 : Hid (stepT bs st t.data.toList a n = if shares st.ivs a n = true then .inl 2
            else .inr ⟨st.s.put (leftOf st.met)[ix] (seg bs a n), st.met ++ [(leftOf st.met)[ix]], st.ivs ++ [(a, n)]⟩) := by show _ = _; rw [HST'.out, if_neg hr5]
          clear HST'
          have HCT : Hid (∀ W, Below w3.heap.size w3 W → Calls Try.prog 41 #[av, .func (.func 42) #[.agg #[.int .u64 (a : Int), .int .u64 (n : Int)]] #[]] W fun e w' => e = .returned (.bool (shares st.ivs a n)) ∧ Below W.heap.size W w') := fun W hW =>
            contains_any av st.ivs a n W base (HS3.out.later hW).row (by omega) (by omega) HPS.out
          have hne0 := World.new_ne w3 ⟨w.heap.size, 0, none⟩ b0
          have hne1 := World.new_ne w3 ⟨sb, 0, none⟩ k0
          have HKP : Hid (∀ W, Below w3.heap.size w3 W → W.cell? ⟨w.heap.size, 0, none⟩ = some (.int .u64 (a : Int)) ∧ W.cell? ⟨w.heap.size, 1, none⟩ = some (.int .u64 (n : Int)) ∧ W.cell? ⟨sb, 2, none⟩ = some av) := fun W hW =>
            ⟨by rw [← b0]; exact World.cell?_of_block (hW.block _ (by show w.heap.size < _; omega)), by rw [← b1]; exact World.cell?_of_block (hW.block _ (by show w.heap.size < _; omega)), (HS3.out.later hW).cells.2.2.1⟩
          go_wp2_with fail
          go_region_held3 (fun w' => w'.cell? ⟨w.heap.size, 0, none⟩ = some (.int .u64 (a : Int)) ∧ w'.cell? ⟨w.heap.size, 1, none⟩ = some (.int .u64 (n : Int)) ∧ w'.cell? ⟨sb, 2, none⟩ = some av) (first | go_keep | (exact HKP.out _ (Below.trans (Below.drewN (Below.refl _ _) 1) hb4)))
            (first | (go_at_call 41; refine (HCT.out _ (Below.drewN (Below.refl _ _) 1)).mono ?_; rintro e w4 ⟨rfl, hb4⟩))
          rename_i hheld
          clear hheld
          have hb34 : Below w3.heap.size w3 w4 := (Below.drewN (Below.refl _ _) 1).trans hb4
          have HS4 : Hid _ := HS3.out.later hb34
          have hsz4 := hb34.size
          replace b0 : w4.cell? ⟨w.heap.size, 0, none⟩ = some (.int .u64 (a : Int)) := (HKP.out w4 hb34).1
          replace b1 : w4.cell? ⟨w.heap.size, 1, none⟩ = some (.int .u64 (n : Int)) := (HKP.out w4 hb34).2.1
          replace g2 : w4.heap[w.heap.size]? = some (Obj.cells #[.int .u64 (a : Int), .int .u64 (n : Int)] 59 (0, 0)) := (hb34.block _ (by omega)).trans g2
          replace k0 := HS4.out.cells.1
          replace k1 := HS4.out.cells.2.1
          replace k2 := HS4.out.cells.2.2.1
          clear HS3 hb34 hb4 hne0 hne1 HKP HCT
          cases hsh : shares st.ivs a n with
          | true =>
            have HE : Hid (stepT bs st t.data.toList a n = .inl 2) := by show _ = _; rw [HST2.out, if_pos hsh]
            go_wp2_with fail
            go_ret
            exact TakeR.err HE.out HS4.out.below 2 rfl
          | false =>
            have HE : Hid (stepT bs st t.data.toList a n = .inr ⟨st.s.put (leftOf st.met)[ix] (seg bs a n), st.met ++ [(leftOf st.met)[ix]], st.ivs ++ [(a, n)]⟩) := by show _ = _; rw [HST2.out, if_neg (by rw [hsh]; simp)]
            have HLF : Hid (leftOf (st.met ++ [(leftOf st.met)[ix]]) = (leftOf st.met).eraseIdx ix) := leftOf_snoc st.met ix hix
            clear HST2
            obtain ⟨sa, sc, hsl, hbsl, -⟩ := slice_bs (P := Try.prog) (HV.out w4 HS4.out.below) a n (by omega) 22 5 Try.underlying22 sizeU8
            have hsn : (seg bs a n).length = n := seg_length bs a n (by omega)
            have HCL : Hid (∀ W, Below w4.heap.size w4 W → Calls Try.prog 43 #[.slice sa n sc] W fun e w' => ∃ x c, e = .returned (.slice x n c) ∧ Own w' W.heap.size 5 (.slice x n c) (seg bs a n) ∧ Below W.heap.size W w') := fun W hW =>
              (clone_any (hbsl.later hW) (by omega)).mono fun e w' ⟨v', h1, h2, h3⟩ => by
                obtain ⟨x, c, e1, _⟩ := h2.bs
                rw [hsn] at e1
                subst e1
                exact ⟨x, c, h1, h2, h3⟩
            have hki := HKI.out
            have HTK := (HS4.out.tab.tab ix hix).2
            rw [Nat.mul_comm] at HTK
            have hbk : w.heap.size ≠ sb := ne_typed g2 HS4.out.blk (by decide)
            obtain ⟨CK, hCK, -⟩ := HS4.out.tab.blk
            have hks : kb ≠ sb := ne_typed hCK HS4.out.blk (by decide)
            have htk : w4.cell? ⟨kb, ix * 2 + 1, none⟩ = some (.func (.func (pickN (leftOf st.met)[ix])) #[] #[]) := HTK
            have HPK : Hid (∀ W, Calls Try.prog (pickN (leftOf st.met)[ix]) #[.pointer (some ⟨sb, 3, none⟩)] W fun e w' => e = .returned (.pointer (some ⟨sb, 3 + (leftOf st.met)[ix], none⟩)) ∧ w' = W) := fun W => pick_any _ hki sb 3 W
            have HKP : Hid (∀ W, Below w4.heap.size w4 W → W.cell? ⟨w.heap.size, 0, none⟩ = some (.int .u64 (a : Int)) ∧ W.cell? ⟨w.heap.size, 1, none⟩ = some (.int .u64 (n : Int)) ∧ W.cell? ⟨sb, 0, none⟩ = some (.slice ia bs.length ic) ∧ W.cell? ⟨sb, 1, none⟩ = some (.slice (some ⟨kb, 0, none⟩) (leftOf st.met).length 4) ∧ W.cell? ⟨kb, ix * 2 + 1, none⟩ = some (.func (.func (pickN (leftOf st.met)[ix])) #[] #[])) := fun W hW =>
              ⟨by rw [← b0]; exact World.cell?_of_block (hW.block _ (by show w.heap.size < _; omega)), by rw [← b1]; exact World.cell?_of_block (hW.block _ (by show w.heap.size < _; omega)), (HS4.out.later hW).cells.1, (HS4.out.later hW).cells.2.1, by rw [← htk]; exact World.cell?_of_block (hW.block _ (by show kb < _; have := HS4.out.tab.lt; omega))⟩
            have HKQ : Hid (∀ W x c, Below w4.heap.size w4 W → Own W w4.heap.size 5 (.slice x n c) (seg bs a n) → (W.setCell ⟨sb, 3 + (leftOf st.met)[ix], none⟩ (.slice x n c)).cell? ⟨w.heap.size, 0, none⟩ = some (.int .u64 (a : Int)) ∧ (W.setCell ⟨sb, 3 + (leftOf st.met)[ix], none⟩ (.slice x n c)).cell? ⟨w.heap.size, 1, none⟩ = some (.int .u64 (n : Int)) ∧ (W.setCell ⟨sb, 3 + (leftOf st.met)[ix], none⟩ (.slice x n c)).cell? ⟨sb, 0, none⟩ = some (.slice ia bs.length ic) ∧ (W.setCell ⟨sb, 3 + (leftOf st.met)[ix], none⟩ (.slice x n c)).cell? ⟨sb, 1, none⟩ = some (.slice (some ⟨kb, 0, none⟩) (leftOf st.met).length 4) ∧ (W.setCell ⟨sb, 3 + (leftOf st.met)[ix], none⟩ (.slice x n c)).cell? ⟨kb, ix * 2 + 1, none⟩ = some (.func (.func (pickN (leftOf st.met)[ix])) #[] #[])) := fun W x c hW hx => by
              obtain ⟨q1, q2, q3, q4, q5⟩ := HKP.out W hW
              have hT := HS4.out.top
              obtain ⟨_, _, _, _, hsp⟩ := (HS4.out.later hW).setP _ hki (.slice x n c) (seg bs a n) ⟨hx.1, by
                rcases hx.2 with h | ⟨g, cap, cur, e1, e2, r⟩
                · exact .inl h
                · exact .inr ⟨g, cap, cur, e1, by omega, r⟩⟩
              exact ⟨by rw [← q1]; exact World.cell?_of_block (Below.heap_setCell _ _ _ _ hbk), by rw [← q2]; exact World.cell?_of_block (Below.heap_setCell _ _ _ _ hbk), hsp.cells.1, hsp.cells.2.1, by rw [← q5]; exact World.cell?_of_block (Below.heap_setCell _ _ _ _ hks)⟩
            have HCE : Hid (∀ W, Below w4.heap.size w4 W → (∃ p, W.cell? ⟨sb, 3 + (leftOf st.met)[ix], none⟩ = some p) ∧ W.frozen? ⟨sb, 3 + (leftOf st.met)[ix], none⟩ = false) := fun W hW => by
              refine ⟨?_, (HS4.out.later hW).melt _⟩
              obtain ⟨c0, c1, c2, c3, c4, c5, c6⟩ := (HS4.out.later hW).cells
              rcases four_cases hki with e | e | e | e <;> rw [e]
              · exact ⟨_, c3⟩
              · exact ⟨_, c4⟩
              · exact ⟨_, c5⟩
              · exact ⟨_, c6⟩
            clear hCK HTK hbsl
            have hixi : (ix : Int) < ((leftOf st.met).length : Int) := by omega
            have HKK : Hid ((leftOf st.met)[ix] < 4) := hki
            clear HKI hki
            generalize (leftOf st.met)[ix] = kk at *
            rcases four_cases HKK.out with rfl | rfl | rfl | rfl
            all_goals simp only [pickN, Nat.reduceAdd] at HPK HKP HKQ HCE htk
            · have hL4 := leftOf_le st.met
              have hne0 := World.new_ne w4 ⟨w.heap.size, 0, none⟩ b0
              have hne1 := World.new_ne w4 ⟨sb, 0, none⟩ k0
              have hne2 := World.new_ne w4 ⟨kb, ix * 2 + 1, none⟩ htk
              go_wp2_with fail
              go_region_held3 (fun w' => w'.cell? ⟨w.heap.size, 0, none⟩ = some (.int .u64 (a : Int)) ∧ w'.cell? ⟨w.heap.size, 1, none⟩ = some (.int .u64 (n : Int)) ∧ w'.cell? ⟨sb, 0, none⟩ = some (.slice ia bs.length ic) ∧ w'.cell? ⟨sb, 1, none⟩ = some (.slice (some ⟨kb, 0, none⟩) (leftOf st.met).length 4) ∧ w'.cell? ⟨kb, ix * 2 + 1, none⟩ = some (.func (.func 34) #[] #[]))
                (first | go_keep | (exact HKP.out _ hB7) | (exact HKQ.out _ _ _ hB7 ho7'))
                (first
                  | (go_at_call 40; refine (end_any a n (by omega) _).mono ?_; rintro e w6 ⟨rfl, rfl⟩)
                  | (go_at_call 43; refine (HCL.out _ (Below.drewN (Below.alloc (Below.refl _ _) (Nat.le_refl _) _) 1)).mono ?_; rintro e w7 ⟨x7, c7, rfl, ho7, hb7⟩; have hB7 : Below w4.heap.size w4 w7 := (Below.drewN (Below.alloc (Below.refl _ _) (Nat.le_refl _) (Obj.cells #[.int .u64 (a : Int), .int .u64 (n : Int)] 59)) 1).trans (hb7.mono (by simp)); have ho7' := own_mono ho7 (show w4.heap.size ≤ _ by simp); obtain ⟨⟨pp, hpp⟩, hpf⟩ := HCE.out w7 hB7)
                  | (refine (HPK.out _).mono ?_; rintro e w5 ⟨rfl, hz5⟩; subst w5))
              rename_i hheld
              clear hheld
              obtain ⟨q0, q1, q2, q3, hsp⟩ := (HS4.out.later hB7).setP 0 (by omega) (.slice x7 n c7) (seg bs a n) (own_mono ho7' HS4.out.top)
              have HS8 : Hid _ := hsp
              have hg8 : (w7.setCell ⟨sb, 3, none⟩ (.slice x7 n c7)).heap[w.heap.size]? = some (Obj.cells #[.int .u64 (a : Int), .int .u64 (n : Int)] 59 (0, 0)) := (Below.heap_setCell _ _ _ _ hbk).trans ((hB7.block _ (by omega)).trans g2)
              clear hsp hpp hpf ho7 ho7' hb7 hB7 HCE HKP HKQ HPK HCL hsl htk hne0 hne1 hne2 HS4 b0 b1 k0 k1 k2
              generalize w7.setCell ⟨sb, 3, none⟩ (.slice x7 n c7) = w8 at *
              have k1 := HS8.out.cells.2.1
              have HDL : Hid (Calls Try.prog 44 #[.slice (some ⟨kb, 0, none⟩) (leftOf st.met).length 4, .int .i64 (ix : Int), .int .i64 ((ix : Int) + 1)] w8 fun e w' => e = .returned (.slice (some ⟨kb, 0, none⟩) ((leftOf st.met).length - 1) 4) ∧ TabAt w' kb ((leftOf st.met).eraseIdx ix) ∧ Only kb w8 w') := delete_any HS8.out.tab ix hix
              go_wp2_with fail
              refine Calls.mono HDL.out ?_
              rintro e w9 ⟨rfl, ht9, ho9⟩
              have HS9 : Hid _ := HS8.out.onlyTab ho9 ht9
              have hg9 : w9.heap[w.heap.size]? = some (Obj.cells #[.int .u64 (a : Int), .int .u64 (n : Int)] 59 (0, 0)) := (ho9.block _ (Array.getElem?_eq_some_iff.1 hg8).1 (by
                obtain ⟨C, hC, _⟩ := HS8.out.tab.blk
                exact ne_typed hg8 hC (by decide))).trans hg8
              replace k1 := HS9.out.cells.2.1
              have f1 := HS9.out.melt 1
              have HS10 : Hid _ := HS9.out.setL (.slice (some ⟨kb, 0, none⟩) ((leftOf st.met).length - 1) 4)
              have hg10 : (w9.setCell ⟨sb, 1, none⟩ (.slice (some ⟨kb, 0, none⟩) ((leftOf st.met).length - 1) 4)).heap[w.heap.size]? = some (Obj.cells #[.int .u64 (a : Int), .int .u64 (n : Int)] 59 (0, 0)) := (Below.heap_setCell _ _ _ _ hbk).trans hg9
              clear ht9 ho9 hg8 HS8 HDL
              go_wp2_with fail
              generalize w9.setCell ⟨sb, 1, none⟩ (.slice (some ⟨kb, 0, none⟩) ((leftOf st.met).length - 1) 4) = w10 at *
              clear HS9 hg9 f1 k1
              have k2 := HS10.out.cells.2.2.1
              have b0 : w10.cell? ⟨w.heap.size, 0, none⟩ = some (.int .u64 (a : Int)) := by simp [World.cell?, hg10]
              have b1 : w10.cell? ⟨w.heap.size, 1, none⟩ = some (.int .u64 (n : Int)) := by simp [World.cell?, hg10]
              have hne0 := World.new_ne w10 ⟨w.heap.size, 0, none⟩ b0
              have hne1 := World.new_ne w10 ⟨sb, 2, none⟩ k2
              have k2' : (w10.alloc (Obj.cells #[.int .u64 (a : Int), .int .u64 (n : Int)] 59)).cell? ⟨sb, 2, none⟩ = some av := (HS10.out.later ((Below.refl _ _).alloc (Nat.le_refl _) _)).cells.2.2.1
              have HB10 : Hid (Below w10.heap.size w10 (w10.alloc (Obj.cells #[.int .u64 (a : Int), .int .u64 (n : Int)] 59)).drew) := Below.drewN ((Below.refl _ _).alloc (Nat.le_refl _) _) 1
              have hsz10 := (Array.getElem?_eq_some_iff.1 hg10).1
              have HKP : Hid (∀ W, (w10.alloc (Obj.cells #[.int .u64 (a : Int), .int .u64 (n : Int)] 59)).drew.grownBy W av.ownBlock → W.cell? ⟨w.heap.size, 0, none⟩ = some (.int .u64 (a : Int)) ∧ W.cell? ⟨w.heap.size, 1, none⟩ = some (.int .u64 (n : Int))) := fun W hW => by
                have hb : W.heap[w.heap.size]? = w10.heap[w.heap.size]? := (hW.block _ (Nat.lt_of_lt_of_le hsz10 HB10.out.size) fun e => by have := HAV.out _ e.symm; omega).trans (HB10.out.block _ hsz10)
                exact ⟨by rw [← b0]; exact World.cell?_of_block hb, by rw [← b1]; exact World.cell?_of_block hb⟩
              have HFI : Hid (∀ W g cap, (w10.alloc (Obj.cells #[.int .u64 (a : Int), .int .u64 (n : Int)] 59)).drew.grownBy W av.ownBlock → W.ownsRow base 59 2 (.slice (some ⟨g, 0, none⟩) (st.ivs.length + 1) cap) (st.ivs.length + 1) (spanC st.ivs ++ [.int .u64 (a : Int), .int .u64 (n : Int)]) → Spl w0 W base sb kb (.slice ia bs.length ic) (.slice (some ⟨kb, 0, none⟩) ((leftOf st.met).length - 1) 4) av q0 q1 q2 q3 (.slice (some ⟨g, 0, none⟩) (st.ivs.length + 1) cap) (st.s.put 0 (seg bs a n)) ((leftOf st.met).eraseIdx ix) (st.ivs ++ [(a, n)])) := fun W g cap hW ho =>
                (HS10.out.later HB10.out).app hW (by rw [spanC_snoc, List.length_append]; exact ho)
              go_region_law (refine step_append2 rfl (.tmp 83) (.tmp 85) 51 rfl base 59 (.agg #[.int .u64 0, .int .u64 0]) 16 Try.underlying51 Try.infoSpan rfl (by simp [Act.eval, Act.put]) (by simp [Act.eval, Act.put]) (HS10.out.later HB10.out).row (heap_alloc_new w10 _) rfl rfl (by unfold maxLen; omega) (by omega) (HS10.out.later HB10.out).top ?_; intro g11 c11 w11 ho11 hg11; have hk11 := (HFI.out _ _ _ hg11 ho11).cells.2.2.1; have hf11 := (HFI.out _ _ _ hg11 ho11).melt 2)
              all_goals go_wp2_with fail
              all_goals
                go_ret
                refine ⟨fun c hc => (by rw [HE.out] at hc; cases hc), fun st' hs' => ?_⟩
                rw [HE.out] at hs'
                cases hs'
                refine ⟨rfl, q0, q1, q2, q3, .slice (some ⟨g11, 0, none⟩) (st.ivs.length + 1) c11, ?_⟩
                have hl9 : (leftOf (st.met ++ [0])).length = (leftOf st.met).length - 1 := by rw [HLF.out, List.length_eraseIdx, if_pos hix]
                simp only [HLF.out] at hl9 ⊢
                rw [hl9]
                exact (HFI.out _ _ _ hg11 ho11).setA _
            · have hL4 := leftOf_le st.met
              have hne0 := World.new_ne w4 ⟨w.heap.size, 0, none⟩ b0
              have hne1 := World.new_ne w4 ⟨sb, 0, none⟩ k0
              have hne2 := World.new_ne w4 ⟨kb, ix * 2 + 1, none⟩ htk
              go_wp2_with fail
              go_region_held3 (fun w' => w'.cell? ⟨w.heap.size, 0, none⟩ = some (.int .u64 (a : Int)) ∧ w'.cell? ⟨w.heap.size, 1, none⟩ = some (.int .u64 (n : Int)) ∧ w'.cell? ⟨sb, 0, none⟩ = some (.slice ia bs.length ic) ∧ w'.cell? ⟨sb, 1, none⟩ = some (.slice (some ⟨kb, 0, none⟩) (leftOf st.met).length 4) ∧ w'.cell? ⟨kb, ix * 2 + 1, none⟩ = some (.func (.func 35) #[] #[]))
                (first | go_keep | (exact HKP.out _ hB7) | (exact HKQ.out _ _ _ hB7 ho7'))
                (first
                  | (go_at_call 40; refine (end_any a n (by omega) _).mono ?_; rintro e w6 ⟨rfl, rfl⟩)
                  | (go_at_call 43; refine (HCL.out _ (Below.drewN (Below.alloc (Below.refl _ _) (Nat.le_refl _) _) 1)).mono ?_; rintro e w7 ⟨x7, c7, rfl, ho7, hb7⟩; have hB7 : Below w4.heap.size w4 w7 := (Below.drewN (Below.alloc (Below.refl _ _) (Nat.le_refl _) (Obj.cells #[.int .u64 (a : Int), .int .u64 (n : Int)] 59)) 1).trans (hb7.mono (by simp)); have ho7' := own_mono ho7 (show w4.heap.size ≤ _ by simp); obtain ⟨⟨pp, hpp⟩, hpf⟩ := HCE.out w7 hB7)
                  | (refine (HPK.out _).mono ?_; rintro e w5 ⟨rfl, hz5⟩; subst w5))
              rename_i hheld
              clear hheld
              obtain ⟨q0, q1, q2, q3, hsp⟩ := (HS4.out.later hB7).setP 1 (by omega) (.slice x7 n c7) (seg bs a n) (own_mono ho7' HS4.out.top)
              have HS8 : Hid _ := hsp
              have hg8 : (w7.setCell ⟨sb, 4, none⟩ (.slice x7 n c7)).heap[w.heap.size]? = some (Obj.cells #[.int .u64 (a : Int), .int .u64 (n : Int)] 59 (0, 0)) := (Below.heap_setCell _ _ _ _ hbk).trans ((hB7.block _ (by omega)).trans g2)
              clear hsp hpp hpf ho7 ho7' hb7 hB7 HCE HKP HKQ HPK HCL hsl htk hne0 hne1 hne2 HS4 b0 b1 k0 k1 k2
              generalize w7.setCell ⟨sb, 4, none⟩ (.slice x7 n c7) = w8 at *
              have k1 := HS8.out.cells.2.1
              have HDL : Hid (Calls Try.prog 44 #[.slice (some ⟨kb, 0, none⟩) (leftOf st.met).length 4, .int .i64 (ix : Int), .int .i64 ((ix : Int) + 1)] w8 fun e w' => e = .returned (.slice (some ⟨kb, 0, none⟩) ((leftOf st.met).length - 1) 4) ∧ TabAt w' kb ((leftOf st.met).eraseIdx ix) ∧ Only kb w8 w') := delete_any HS8.out.tab ix hix
              go_wp2_with fail
              refine Calls.mono HDL.out ?_
              rintro e w9 ⟨rfl, ht9, ho9⟩
              have HS9 : Hid _ := HS8.out.onlyTab ho9 ht9
              have hg9 : w9.heap[w.heap.size]? = some (Obj.cells #[.int .u64 (a : Int), .int .u64 (n : Int)] 59 (0, 0)) := (ho9.block _ (Array.getElem?_eq_some_iff.1 hg8).1 (by
                obtain ⟨C, hC, _⟩ := HS8.out.tab.blk
                exact ne_typed hg8 hC (by decide))).trans hg8
              replace k1 := HS9.out.cells.2.1
              have f1 := HS9.out.melt 1
              have HS10 : Hid _ := HS9.out.setL (.slice (some ⟨kb, 0, none⟩) ((leftOf st.met).length - 1) 4)
              have hg10 : (w9.setCell ⟨sb, 1, none⟩ (.slice (some ⟨kb, 0, none⟩) ((leftOf st.met).length - 1) 4)).heap[w.heap.size]? = some (Obj.cells #[.int .u64 (a : Int), .int .u64 (n : Int)] 59 (0, 0)) := (Below.heap_setCell _ _ _ _ hbk).trans hg9
              clear ht9 ho9 hg8 HS8 HDL
              go_wp2_with fail
              generalize w9.setCell ⟨sb, 1, none⟩ (.slice (some ⟨kb, 0, none⟩) ((leftOf st.met).length - 1) 4) = w10 at *
              clear HS9 hg9 f1 k1
              have k2 := HS10.out.cells.2.2.1
              have b0 : w10.cell? ⟨w.heap.size, 0, none⟩ = some (.int .u64 (a : Int)) := by simp [World.cell?, hg10]
              have b1 : w10.cell? ⟨w.heap.size, 1, none⟩ = some (.int .u64 (n : Int)) := by simp [World.cell?, hg10]
              have hne0 := World.new_ne w10 ⟨w.heap.size, 0, none⟩ b0
              have hne1 := World.new_ne w10 ⟨sb, 2, none⟩ k2
              have k2' : (w10.alloc (Obj.cells #[.int .u64 (a : Int), .int .u64 (n : Int)] 59)).cell? ⟨sb, 2, none⟩ = some av := (HS10.out.later ((Below.refl _ _).alloc (Nat.le_refl _) _)).cells.2.2.1
              have HB10 : Hid (Below w10.heap.size w10 (w10.alloc (Obj.cells #[.int .u64 (a : Int), .int .u64 (n : Int)] 59)).drew) := Below.drewN ((Below.refl _ _).alloc (Nat.le_refl _) _) 1
              have hsz10 := (Array.getElem?_eq_some_iff.1 hg10).1
              have HKP : Hid (∀ W, (w10.alloc (Obj.cells #[.int .u64 (a : Int), .int .u64 (n : Int)] 59)).drew.grownBy W av.ownBlock → W.cell? ⟨w.heap.size, 0, none⟩ = some (.int .u64 (a : Int)) ∧ W.cell? ⟨w.heap.size, 1, none⟩ = some (.int .u64 (n : Int))) := fun W hW => by
                have hb : W.heap[w.heap.size]? = w10.heap[w.heap.size]? := (hW.block _ (Nat.lt_of_lt_of_le hsz10 HB10.out.size) fun e => by have := HAV.out _ e.symm; omega).trans (HB10.out.block _ hsz10)
                exact ⟨by rw [← b0]; exact World.cell?_of_block hb, by rw [← b1]; exact World.cell?_of_block hb⟩
              have HFI : Hid (∀ W g cap, (w10.alloc (Obj.cells #[.int .u64 (a : Int), .int .u64 (n : Int)] 59)).drew.grownBy W av.ownBlock → W.ownsRow base 59 2 (.slice (some ⟨g, 0, none⟩) (st.ivs.length + 1) cap) (st.ivs.length + 1) (spanC st.ivs ++ [.int .u64 (a : Int), .int .u64 (n : Int)]) → Spl w0 W base sb kb (.slice ia bs.length ic) (.slice (some ⟨kb, 0, none⟩) ((leftOf st.met).length - 1) 4) av q0 q1 q2 q3 (.slice (some ⟨g, 0, none⟩) (st.ivs.length + 1) cap) (st.s.put 1 (seg bs a n)) ((leftOf st.met).eraseIdx ix) (st.ivs ++ [(a, n)])) := fun W g cap hW ho =>
                (HS10.out.later HB10.out).app hW (by rw [spanC_snoc, List.length_append]; exact ho)
              go_region_law (refine step_append2 rfl (.tmp 83) (.tmp 85) 51 rfl base 59 (.agg #[.int .u64 0, .int .u64 0]) 16 Try.underlying51 Try.infoSpan rfl (by simp [Act.eval, Act.put]) (by simp [Act.eval, Act.put]) (HS10.out.later HB10.out).row (heap_alloc_new w10 _) rfl rfl (by unfold maxLen; omega) (by omega) (HS10.out.later HB10.out).top ?_; intro g11 c11 w11 ho11 hg11; have hk11 := (HFI.out _ _ _ hg11 ho11).cells.2.2.1; have hf11 := (HFI.out _ _ _ hg11 ho11).melt 2)
              all_goals go_wp2_with fail
              all_goals
                go_ret
                refine ⟨fun c hc => (by rw [HE.out] at hc; cases hc), fun st' hs' => ?_⟩
                rw [HE.out] at hs'
                cases hs'
                refine ⟨rfl, q0, q1, q2, q3, .slice (some ⟨g11, 0, none⟩) (st.ivs.length + 1) c11, ?_⟩
                have hl9 : (leftOf (st.met ++ [1])).length = (leftOf st.met).length - 1 := by rw [HLF.out, List.length_eraseIdx, if_pos hix]
                simp only [HLF.out] at hl9 ⊢
                rw [hl9]
                exact (HFI.out _ _ _ hg11 ho11).setA _
            · have hL4 := leftOf_le st.met
              have hne0 := World.new_ne w4 ⟨w.heap.size, 0, none⟩ b0
              have hne1 := World.new_ne w4 ⟨sb, 0, none⟩ k0
              have hne2 := World.new_ne w4 ⟨kb, ix * 2 + 1, none⟩ htk
              go_wp2_with fail
              go_region_held3 (fun w' => w'.cell? ⟨w.heap.size, 0, none⟩ = some (.int .u64 (a : Int)) ∧ w'.cell? ⟨w.heap.size, 1, none⟩ = some (.int .u64 (n : Int)) ∧ w'.cell? ⟨sb, 0, none⟩ = some (.slice ia bs.length ic) ∧ w'.cell? ⟨sb, 1, none⟩ = some (.slice (some ⟨kb, 0, none⟩) (leftOf st.met).length 4) ∧ w'.cell? ⟨kb, ix * 2 + 1, none⟩ = some (.func (.func 36) #[] #[]))
                (first | go_keep | (exact HKP.out _ hB7) | (exact HKQ.out _ _ _ hB7 ho7'))
                (first
                  | (go_at_call 40; refine (end_any a n (by omega) _).mono ?_; rintro e w6 ⟨rfl, rfl⟩)
                  | (go_at_call 43; refine (HCL.out _ (Below.drewN (Below.alloc (Below.refl _ _) (Nat.le_refl _) _) 1)).mono ?_; rintro e w7 ⟨x7, c7, rfl, ho7, hb7⟩; have hB7 : Below w4.heap.size w4 w7 := (Below.drewN (Below.alloc (Below.refl _ _) (Nat.le_refl _) (Obj.cells #[.int .u64 (a : Int), .int .u64 (n : Int)] 59)) 1).trans (hb7.mono (by simp)); have ho7' := own_mono ho7 (show w4.heap.size ≤ _ by simp); obtain ⟨⟨pp, hpp⟩, hpf⟩ := HCE.out w7 hB7)
                  | (refine (HPK.out _).mono ?_; rintro e w5 ⟨rfl, hz5⟩; subst w5))
              rename_i hheld
              clear hheld
              obtain ⟨q0, q1, q2, q3, hsp⟩ := (HS4.out.later hB7).setP 2 (by omega) (.slice x7 n c7) (seg bs a n) (own_mono ho7' HS4.out.top)
              have HS8 : Hid _ := hsp
              have hg8 : (w7.setCell ⟨sb, 5, none⟩ (.slice x7 n c7)).heap[w.heap.size]? = some (Obj.cells #[.int .u64 (a : Int), .int .u64 (n : Int)] 59 (0, 0)) := (Below.heap_setCell _ _ _ _ hbk).trans ((hB7.block _ (by omega)).trans g2)
              clear hsp hpp hpf ho7 ho7' hb7 hB7 HCE HKP HKQ HPK HCL hsl htk hne0 hne1 hne2 HS4 b0 b1 k0 k1 k2
              generalize w7.setCell ⟨sb, 5, none⟩ (.slice x7 n c7) = w8 at *
              have k1 := HS8.out.cells.2.1
              have HDL : Hid (Calls Try.prog 44 #[.slice (some ⟨kb, 0, none⟩) (leftOf st.met).length 4, .int .i64 (ix : Int), .int .i64 ((ix : Int) + 1)] w8 fun e w' => e = .returned (.slice (some ⟨kb, 0, none⟩) ((leftOf st.met).length - 1) 4) ∧ TabAt w' kb ((leftOf st.met).eraseIdx ix) ∧ Only kb w8 w') := delete_any HS8.out.tab ix hix
              go_wp2_with fail
              refine Calls.mono HDL.out ?_
              rintro e w9 ⟨rfl, ht9, ho9⟩
              have HS9 : Hid _ := HS8.out.onlyTab ho9 ht9
              have hg9 : w9.heap[w.heap.size]? = some (Obj.cells #[.int .u64 (a : Int), .int .u64 (n : Int)] 59 (0, 0)) := (ho9.block _ (Array.getElem?_eq_some_iff.1 hg8).1 (by
                obtain ⟨C, hC, _⟩ := HS8.out.tab.blk
                exact ne_typed hg8 hC (by decide))).trans hg8
              replace k1 := HS9.out.cells.2.1
              have f1 := HS9.out.melt 1
              have HS10 : Hid _ := HS9.out.setL (.slice (some ⟨kb, 0, none⟩) ((leftOf st.met).length - 1) 4)
              have hg10 : (w9.setCell ⟨sb, 1, none⟩ (.slice (some ⟨kb, 0, none⟩) ((leftOf st.met).length - 1) 4)).heap[w.heap.size]? = some (Obj.cells #[.int .u64 (a : Int), .int .u64 (n : Int)] 59 (0, 0)) := (Below.heap_setCell _ _ _ _ hbk).trans hg9
              clear ht9 ho9 hg8 HS8 HDL
              go_wp2_with fail
              generalize w9.setCell ⟨sb, 1, none⟩ (.slice (some ⟨kb, 0, none⟩) ((leftOf st.met).length - 1) 4) = w10 at *
              clear HS9 hg9 f1 k1
              have k2 := HS10.out.cells.2.2.1
              have b0 : w10.cell? ⟨w.heap.size, 0, none⟩ = some (.int .u64 (a : Int)) := by simp [World.cell?, hg10]
              have b1 : w10.cell? ⟨w.heap.size, 1, none⟩ = some (.int .u64 (n : Int)) := by simp [World.cell?, hg10]
              have hne0 := World.new_ne w10 ⟨w.heap.size, 0, none⟩ b0
              have hne1 := World.new_ne w10 ⟨sb, 2, none⟩ k2
              have k2' : (w10.alloc (Obj.cells #[.int .u64 (a : Int), .int .u64 (n : Int)] 59)).cell? ⟨sb, 2, none⟩ = some av := (HS10.out.later ((Below.refl _ _).alloc (Nat.le_refl _) _)).cells.2.2.1
              have HB10 : Hid (Below w10.heap.size w10 (w10.alloc (Obj.cells #[.int .u64 (a : Int), .int .u64 (n : Int)] 59)).drew) := Below.drewN ((Below.refl _ _).alloc (Nat.le_refl _) _) 1
              have hsz10 := (Array.getElem?_eq_some_iff.1 hg10).1
              have HKP : Hid (∀ W, (w10.alloc (Obj.cells #[.int .u64 (a : Int), .int .u64 (n : Int)] 59)).drew.grownBy W av.ownBlock → W.cell? ⟨w.heap.size, 0, none⟩ = some (.int .u64 (a : Int)) ∧ W.cell? ⟨w.heap.size, 1, none⟩ = some (.int .u64 (n : Int))) := fun W hW => by
                have hb : W.heap[w.heap.size]? = w10.heap[w.heap.size]? := (hW.block _ (Nat.lt_of_lt_of_le hsz10 HB10.out.size) fun e => by have := HAV.out _ e.symm; omega).trans (HB10.out.block _ hsz10)
                exact ⟨by rw [← b0]; exact World.cell?_of_block hb, by rw [← b1]; exact World.cell?_of_block hb⟩
              have HFI : Hid (∀ W g cap, (w10.alloc (Obj.cells #[.int .u64 (a : Int), .int .u64 (n : Int)] 59)).drew.grownBy W av.ownBlock → W.ownsRow base 59 2 (.slice (some ⟨g, 0, none⟩) (st.ivs.length + 1) cap) (st.ivs.length + 1) (spanC st.ivs ++ [.int .u64 (a : Int), .int .u64 (n : Int)]) → Spl w0 W base sb kb (.slice ia bs.length ic) (.slice (some ⟨kb, 0, none⟩) ((leftOf st.met).length - 1) 4) av q0 q1 q2 q3 (.slice (some ⟨g, 0, none⟩) (st.ivs.length + 1) cap) (st.s.put 2 (seg bs a n)) ((leftOf st.met).eraseIdx ix) (st.ivs ++ [(a, n)])) := fun W g cap hW ho =>
                (HS10.out.later HB10.out).app hW (by rw [spanC_snoc, List.length_append]; exact ho)
              go_region_law (refine step_append2 rfl (.tmp 83) (.tmp 85) 51 rfl base 59 (.agg #[.int .u64 0, .int .u64 0]) 16 Try.underlying51 Try.infoSpan rfl (by simp [Act.eval, Act.put]) (by simp [Act.eval, Act.put]) (HS10.out.later HB10.out).row (heap_alloc_new w10 _) rfl rfl (by unfold maxLen; omega) (by omega) (HS10.out.later HB10.out).top ?_; intro g11 c11 w11 ho11 hg11; have hk11 := (HFI.out _ _ _ hg11 ho11).cells.2.2.1; have hf11 := (HFI.out _ _ _ hg11 ho11).melt 2)
              all_goals go_wp2_with fail
              all_goals
                go_ret
                refine ⟨fun c hc => (by rw [HE.out] at hc; cases hc), fun st' hs' => ?_⟩
                rw [HE.out] at hs'
                cases hs'
                refine ⟨rfl, q0, q1, q2, q3, .slice (some ⟨g11, 0, none⟩) (st.ivs.length + 1) c11, ?_⟩
                have hl9 : (leftOf (st.met ++ [2])).length = (leftOf st.met).length - 1 := by rw [HLF.out, List.length_eraseIdx, if_pos hix]
                simp only [HLF.out] at hl9 ⊢
                rw [hl9]
                exact (HFI.out _ _ _ hg11 ho11).setA _
            · have hL4 := leftOf_le st.met
              have hne0 := World.new_ne w4 ⟨w.heap.size, 0, none⟩ b0
              have hne1 := World.new_ne w4 ⟨sb, 0, none⟩ k0
              have hne2 := World.new_ne w4 ⟨kb, ix * 2 + 1, none⟩ htk
              go_wp2_with fail
              go_region_held3 (fun w' => w'.cell? ⟨w.heap.size, 0, none⟩ = some (.int .u64 (a : Int)) ∧ w'.cell? ⟨w.heap.size, 1, none⟩ = some (.int .u64 (n : Int)) ∧ w'.cell? ⟨sb, 0, none⟩ = some (.slice ia bs.length ic) ∧ w'.cell? ⟨sb, 1, none⟩ = some (.slice (some ⟨kb, 0, none⟩) (leftOf st.met).length 4) ∧ w'.cell? ⟨kb, ix * 2 + 1, none⟩ = some (.func (.func 37) #[] #[]))
                (first | go_keep | (exact HKP.out _ hB7) | (exact HKQ.out _ _ _ hB7 ho7'))
                (first
                  | (go_at_call 40; refine (end_any a n (by omega) _).mono ?_; rintro e w6 ⟨rfl, rfl⟩)
                  | (go_at_call 43; refine (HCL.out _ (Below.drewN (Below.alloc (Below.refl _ _) (Nat.le_refl _) _) 1)).mono ?_; rintro e w7 ⟨x7, c7, rfl, ho7, hb7⟩; have hB7 : Below w4.heap.size w4 w7 := (Below.drewN (Below.alloc (Below.refl _ _) (Nat.le_refl _) (Obj.cells #[.int .u64 (a : Int), .int .u64 (n : Int)] 59)) 1).trans (hb7.mono (by simp)); have ho7' := own_mono ho7 (show w4.heap.size ≤ _ by simp); obtain ⟨⟨pp, hpp⟩, hpf⟩ := HCE.out w7 hB7)
                  | (refine (HPK.out _).mono ?_; rintro e w5 ⟨rfl, hz5⟩; subst w5))
              rename_i hheld
              clear hheld
              obtain ⟨q0, q1, q2, q3, hsp⟩ := (HS4.out.later hB7).setP 3 (by omega) (.slice x7 n c7) (seg bs a n) (own_mono ho7' HS4.out.top)
              have HS8 : Hid _ := hsp
              have hg8 : (w7.setCell ⟨sb, 6, none⟩ (.slice x7 n c7)).heap[w.heap.size]? = some (Obj.cells #[.int .u64 (a : Int), .int .u64 (n : Int)] 59 (0, 0)) := (Below.heap_setCell _ _ _ _ hbk).trans ((hB7.block _ (by omega)).trans g2)
              clear hsp hpp hpf ho7 ho7' hb7 hB7 HCE HKP HKQ HPK HCL hsl htk hne0 hne1 hne2 HS4 b0 b1 k0 k1 k2
              generalize w7.setCell ⟨sb, 6, none⟩ (.slice x7 n c7) = w8 at *
              have k1 := HS8.out.cells.2.1
              have HDL : Hid (Calls Try.prog 44 #[.slice (some ⟨kb, 0, none⟩) (leftOf st.met).length 4, .int .i64 (ix : Int), .int .i64 ((ix : Int) + 1)] w8 fun e w' => e = .returned (.slice (some ⟨kb, 0, none⟩) ((leftOf st.met).length - 1) 4) ∧ TabAt w' kb ((leftOf st.met).eraseIdx ix) ∧ Only kb w8 w') := delete_any HS8.out.tab ix hix
              go_wp2_with fail
              refine Calls.mono HDL.out ?_
              rintro e w9 ⟨rfl, ht9, ho9⟩
              have HS9 : Hid _ := HS8.out.onlyTab ho9 ht9
              have hg9 : w9.heap[w.heap.size]? = some (Obj.cells #[.int .u64 (a : Int), .int .u64 (n : Int)] 59 (0, 0)) := (ho9.block _ (Array.getElem?_eq_some_iff.1 hg8).1 (by
                obtain ⟨C, hC, _⟩ := HS8.out.tab.blk
                exact ne_typed hg8 hC (by decide))).trans hg8
              replace k1 := HS9.out.cells.2.1
              have f1 := HS9.out.melt 1
              have HS10 : Hid _ := HS9.out.setL (.slice (some ⟨kb, 0, none⟩) ((leftOf st.met).length - 1) 4)
              have hg10 : (w9.setCell ⟨sb, 1, none⟩ (.slice (some ⟨kb, 0, none⟩) ((leftOf st.met).length - 1) 4)).heap[w.heap.size]? = some (Obj.cells #[.int .u64 (a : Int), .int .u64 (n : Int)] 59 (0, 0)) := (Below.heap_setCell _ _ _ _ hbk).trans hg9
              clear ht9 ho9 hg8 HS8 HDL
              go_wp2_with fail
              generalize w9.setCell ⟨sb, 1, none⟩ (.slice (some ⟨kb, 0, none⟩) ((leftOf st.met).length - 1) 4) = w10 at *
              clear HS9 hg9 f1 k1
              have k2 := HS10.out.cells.2.2.1
              have b0 : w10.cell? ⟨w.heap.size, 0, none⟩ = some (.int .u64 (a : Int)) := by simp [World.cell?, hg10]
              have b1 : w10.cell? ⟨w.heap.size, 1, none⟩ = some (.int .u64 (n : Int)) := by simp [World.cell?, hg10]
              have hne0 := World.new_ne w10 ⟨w.heap.size, 0, none⟩ b0
              have hne1 := World.new_ne w10 ⟨sb, 2, none⟩ k2
              have k2' : (w10.alloc (Obj.cells #[.int .u64 (a : Int), .int .u64 (n : Int)] 59)).cell? ⟨sb, 2, none⟩ = some av := (HS10.out.later ((Below.refl _ _).alloc (Nat.le_refl _) _)).cells.2.2.1
              have HB10 : Hid (Below w10.heap.size w10 (w10.alloc (Obj.cells #[.int .u64 (a : Int), .int .u64 (n : Int)] 59)).drew) := Below.drewN ((Below.refl _ _).alloc (Nat.le_refl _) _) 1
              have hsz10 := (Array.getElem?_eq_some_iff.1 hg10).1
              have HKP : Hid (∀ W, (w10.alloc (Obj.cells #[.int .u64 (a : Int), .int .u64 (n : Int)] 59)).drew.grownBy W av.ownBlock → W.cell? ⟨w.heap.size, 0, none⟩ = some (.int .u64 (a : Int)) ∧ W.cell? ⟨w.heap.size, 1, none⟩ = some (.int .u64 (n : Int))) := fun W hW => by
                have hb : W.heap[w.heap.size]? = w10.heap[w.heap.size]? := (hW.block _ (Nat.lt_of_lt_of_le hsz10 HB10.out.size) fun e => by have := HAV.out _ e.symm; omega).trans (HB10.out.block _ hsz10)
                exact ⟨by rw [← b0]; exact World.cell?_of_block hb, by rw [← b1]; exact World.cell?_of_block hb⟩
              have HFI : Hid (∀ W g cap, (w10.alloc (Obj.cells #[.int .u64 (a : Int), .int .u64 (n : Int)] 59)).drew.grownBy W av.ownBlock → W.ownsRow base 59 2 (.slice (some ⟨g, 0, none⟩) (st.ivs.length + 1) cap) (st.ivs.length + 1) (spanC st.ivs ++ [.int .u64 (a : Int), .int .u64 (n : Int)]) → Spl w0 W base sb kb (.slice ia bs.length ic) (.slice (some ⟨kb, 0, none⟩) ((leftOf st.met).length - 1) 4) av q0 q1 q2 q3 (.slice (some ⟨g, 0, none⟩) (st.ivs.length + 1) cap) (st.s.put 3 (seg bs a n)) ((leftOf st.met).eraseIdx ix) (st.ivs ++ [(a, n)])) := fun W g cap hW ho =>
                (HS10.out.later HB10.out).app hW (by rw [spanC_snoc, List.length_append]; exact ho)
              go_region_law (refine step_append2 rfl (.tmp 83) (.tmp 85) 51 rfl base 59 (.agg #[.int .u64 0, .int .u64 0]) 16 Try.underlying51 Try.infoSpan rfl (by simp [Act.eval, Act.put]) (by simp [Act.eval, Act.put]) (HS10.out.later HB10.out).row (heap_alloc_new w10 _) rfl rfl (by unfold maxLen; omega) (by omega) (HS10.out.later HB10.out).top ?_; intro g11 c11 w11 ho11 hg11; have hk11 := (HFI.out _ _ _ hg11 ho11).cells.2.2.1; have hf11 := (HFI.out _ _ _ hg11 ho11).melt 2)
              all_goals go_wp2_with fail
              all_goals
                go_ret
                refine ⟨fun c hc => (by rw [HE.out] at hc; cases hc), fun st' hs' => ?_⟩
                rw [HE.out] at hs'
                cases hs'
                refine ⟨rfl, q0, q1, q2, q3, .slice (some ⟨g11, 0, none⟩) (st.ivs.length + 1) c11, ?_⟩
                have hl9 : (leftOf (st.met ++ [3])).length = (leftOf st.met).length - 1 := by rw [HLF.out, List.length_eraseIdx, if_pos hix]
                simp only [HLF.out] at hl9 ⊢
                rw [hl9]
                exact (HFI.out _ _ _ hg11 ho11).setA _
  · have HE : Hid (stepT bs st t.data.toList a n = .inl 2) := stepT_none hix
    rw [idxI_no hix]
    go_wp2_with fail
    go_ret
    exact TakeR.err HE.out HS2.out.below 2 rfl

end Go.Proofs.Ytbehcdpjpjklfaa
