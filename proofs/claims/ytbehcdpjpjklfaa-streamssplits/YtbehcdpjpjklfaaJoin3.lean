
/- Join of the program. -/
import Derived.Test.YtbehcdpjpjklfaaRows
import Derived.Test.YtbehcdpjpjklfaaSplitter
import Derived.Lib.SmallJoins
import Derived.Laws.EntriesVeiled
namespace Go.Proofs.Ytbehcdpjpjklfaa
set_option linter.unusedVariables false
set_option linter.unusedSimpArgs false
open Go.RowKit Go.Maps
attribute [local go_sem ↓] Go.wp_at_zero Go.wp_at_succ

/-- What Join holds while it goes on: the head so far, the body so far, the table, the parts. -/
structure Jn (w0 w : World) (tb pb : Nat) (p0 p1 p2 p3 hv bv : Value) (H B : List UInt8) : Prop where
  hd : Own w w0.heap.size 5 hv H
  bd : Own w w0.heap.size 5 bv B
  ne : ∀ j, hv.ownBlock = some j → bv.ownBlock ≠ some j
  below : Below w0.heap.size w0 w
  tab : TabAt w tb [0, 1, 2, 3]
  prt : w.heap[pb]? = some (Obj.cells #[p0, p1, p2, p3] 52 (0, 0))

theorem Jn.later {w0 w w' : World} {tb pb : Nat} {p0 p1 p2 p3 hv bv : Value} {H B : List UInt8} (h : Jn w0 w tb pb p0 p1 p2 p3 hv bv H B) (hb : Below w.heap.size w w') : Jn w0 w' tb pb p0 p1 p2 p3 hv bv H B :=
  ⟨h.hd.later hb, h.bd.later hb, h.ne, h.below.trans (hb.mono h.below.size), h.tab.of_block (hb.block _ h.tab.lt), (hb.block _ (Array.getElem?_eq_some_iff.1 h.prt).1).trans h.prt⟩

theorem Jn.keep {w0 w w' : World} {tb pb : Nat} {p0 p1 p2 p3 hv bv v : Value} {H B X : List UInt8} (h : Jn w0 w tb pb p0 p1 p2 p3 hv bv H B) (hv' : Own w w0.heap.size 5 v X) (hg : w.grownBy w' v.ownBlock) :
    Below w0.heap.size w0 w' ∧ TabAt w' tb [0, 1, 2, 3] ∧ w'.heap[pb]? = some (Obj.cells #[p0, p1, p2, p3] 52 (0, 0)) := by
  have key : ∀ (k : Nat) C t, w.heap[k]? = some (Obj.cells C t (0, 0)) → t ≠ 5 → w'.heap[k]? = w.heap[k]? := fun k C t hk ht => by
    refine hg.block k (Array.getElem?_eq_some_iff.1 hk).1 fun e => ?_
    obtain ⟨C', hC'⟩ := row_typed hv' k e.symm
    exact ne_typed hk hC' ht rfl
  obtain ⟨C, hC, _⟩ := h.tab.blk
  refine ⟨h.below.trans ⟨hg.os, hg.tape, hg.output, hg.size, fun k hk => hg.block k (by have := h.below.size; omega) fun e => ?_⟩, h.tab.of_block (key _ _ _ hC (by decide)), (key _ _ _ h.prt (by decide)).trans h.prt⟩
  have := (hv'.block k e.symm).1
  omega

theorem Jn.body {w0 w w' : World} {tb pb : Nat} {p0 p1 p2 p3 hv bv bv' : Value} {H B B' : List UInt8} (h : Jn w0 w tb pb p0 p1 p2 p3 hv bv H B) (ha : Ap w w' w0.heap.size bv bv' B') : Jn w0 w' tb pb p0 p1 p2 p3 hv bv' H B' := by
  obtain ⟨k1, k2, k3⟩ := h.keep h.bd ha.grown
  refine ⟨own_of_block h.hd fun k hk => ha.grown.block k (h.hd.block k hk).2 fun e => h.ne k hk e.symm, ha.own, fun j hj e => ?_, k1, k2, k3⟩
  rcases ha.place with g | ⟨k, g, hk⟩
  · rw [g] at e; exact h.ne j hj e
  · rw [g] at e; cases e
    have := (h.hd.block _ hj).2
    omega
theorem Jn.head {w0 w w' : World} {tb pb : Nat} {p0 p1 p2 p3 hv hv' bv : Value} {H H' B : List UInt8} (h : Jn w0 w tb pb p0 p1 p2 p3 hv bv H B) (ha : Ap w w' w0.heap.size hv hv' H') : Jn w0 w' tb pb p0 p1 p2 p3 hv' bv H' B := by
  obtain ⟨k1, k2, k3⟩ := h.keep h.hd ha.grown
  refine ⟨ha.own, own_of_block h.bd fun k hk => ha.grown.block k (h.bd.block k hk).2 fun e => h.ne k e.symm hk, fun j hj e => ?_, k1, k2, k3⟩
  rcases ha.place with g | ⟨k, g, hk⟩
  · rw [g] at hj; exact h.ne j hj e
  · rw [g] at hj; cases hj
    have := (h.bd.block _ e).2
    omega
/-- A new head, in a new row. -/
theorem Jn.fresh {w0 w : World} {tb pb : Nat} {p0 p1 p2 p3 hv bv : Value} {H B : List UInt8} (h : Jn w0 w tb pb p0 p1 p2 p3 hv bv H B) (X : List UInt8) (n : Nat) (hn : n = X.length) (hm : X.length ≤ maxLen) : Jn w0 (w.alloc (Obj.cells (u8s X).toArray 5)) tb pb p0 p1 p2 p3 (.slice (some ⟨w.heap.size, 0, none⟩) n n) bv X B := by
  have h' := h.later ((Below.refl _ _).alloc (Nat.le_refl _) (Obj.cells (u8s X).toArray 5))
  refine ⟨Own.lit w w0.heap.size 5 X _ n h.below.size rfl hn hm, h'.bd, fun j hj e => ?_, h'.below, h'.tab, h'.prt⟩
  simp [Value.ownBlock] at hj
  have := (h.bd.block _ e).2
  omega

theorem body_le (s : Strm) (hl : ∀ k, (s.part k).length ≤ 4000) : ∀ k, (bodyTo s k).length ≤ 4003 * k
  | 0 => by simp [bodyTo]
  | k + 1 => by
    have ih := body_le s hl k
    have h1 := hl k
    have h2 := (up4_le (bodyTo s k).length).2.1
    simp only [bodyTo, List.length_append, pad_length]
    omega

theorem bs_marked (w : World) (bs : List UInt8) (C : Array Value) (e : TypeId) (fr : Nat × Nat) (n g : Nat) (hg : g = w.heap.size) (hC : C = (u8s bs).toArray) (hn : n = bs.length) (hm : bs.length ≤ maxLen) : Bs (w.alloc (.cells C e fr)) (.slice (some ⟨g, 0, none⟩) n n) bs := by
  subst hg hC hn
  refine ⟨_, _, rfl, Nat.le_refl _, hm, fun _ => ⟨_, _, rfl, by simp, fun i hi => ?_⟩⟩
  rw [Nat.zero_add, World.cell?_alloc_mark]
  simp [u8s_get bs i hi]

set_option maxRecDepth 100000 in
set_option maxHeartbeats 1000000 in
theorem join_yes {v : Value} {s : Strm} {w : World} (hv : Sv w v s) (hl : ∀ k, (s.part k).length ≤ 4000) :
    Calls Try.prog 16 #[v] w fun e w' => ∃ bv, e = .returned (.tuple #[bv, .int .i64 0]) ∧ Own w' w.heap.size 5 bv (joinB s) ∧ Below w.heap.size w w' := by
  obtain ⟨p0, p1, p2, p3, rfl, h0, h1, h2, h3⟩ := hv
  have HP : Hid (∀ k, Bs w (pickV k p0 p1 p2 p3) (s.part k)) := fun k => pickV_bs h0 h1 h2 h3 k
  have HL : Hid (∀ k, (s.part k).length ≤ 4000) := hl
  have HBL : Hid _ := body_le s hl
  have HHL : Hid _ := head_length s
  obtain ⟨a0, c0, rfl, -⟩ := h0
  obtain ⟨a1, c1, rfl, -⟩ := h1
  obtain ⟨a2, c2, rfl, -⟩ := h2
  obtain ⟨a3, c3, rfl, -⟩ := h3
  clear hl
  -- the head's first bytes
  obtain ⟨W2, hW2⟩ : ∃ W2, W2 = (w.alloc (Obj.cells #[.slice a0 s.r.length c0, .slice a1 s.n.length c1, .slice a2 s.b.length c2, .slice a3 s.c.length c3] 25)).alloc (Obj.cells #[.slice a0 s.r.length c0, .slice a1 s.n.length c1, .slice a2 s.b.length c2, .slice a3 s.c.length c3] 52) := ⟨_, rfl⟩
  have hsz2 : W2.heap.size = w.heap.size + 2 := by rw [hW2]; simp
  have hb2 : Below w.heap.size w W2 := by rw [hW2]; exact ((Below.refl _ _).alloc (Nat.le_refl _) _).alloc (by simp) _
  have hp2 : W2.heap[w.heap.size + 1]? = some (Obj.cells #[.slice a0 s.r.length c0, .slice a1 s.n.length c1, .slice a2 s.b.length c2, .slice a3 s.c.length c3] 52 (0, 0)) := by
    rw [hW2]
    have := heap_alloc_new (w.alloc (Obj.cells #[.slice a0 s.r.length c0, .slice a1 s.n.length c1, .slice a2 s.b.length c2, .slice a3 s.c.length c3] 25)) (Obj.cells #[.slice a0 s.r.length c0, .slice a1 s.n.length c1, .slice a2 s.b.length c2, .slice a3 s.c.length c3] 52)
    simpa using this
  have hcv := Go.Joins.run_convert_bytes_const_at (P := Try.prog) W2 22 5 #[.int .u8 67, .int .u8 71, .int .u8 82, .int .u8 68] 4 4 (w.heap.size + 1 + 1) (by omega) Try.underlying22 Try.underlying5
  have hbs3 := bs_marked W2 magic #[.int .u8 67, .int .u8 71, .int .u8 82, .int .u8 68] 5 (4, 5) 4 (w.heap.size + 1 + 1) (by omega) rfl rfl (by decide)
  have hb3 : Below W2.heap.size W2 (W2.alloc (Obj.cells #[.int .u8 67, .int .u8 71, .int .u8 82, .int .u8 68] 5 (4, 5))) := (Below.refl _ _).alloc (Nat.le_refl _) _
  have HP3 : Hid ((W2.alloc (Obj.cells #[.int .u8 67, .int .u8 71, .int .u8 82, .int .u8 68] 5 (4, 5))).heap[w.heap.size + 1]? = some (Obj.cells #[.slice a0 s.r.length c0, .slice a1 s.n.length c1, .slice a2 s.b.length c2, .slice a3 s.c.length c3] 52 (0, 0))) := (hb3.block _ (by omega)).trans hp2
  have HB3 : Hid (Below w.heap.size w (W2.alloc (Obj.cells #[.int .u8 67, .int .u8 71, .int .u8 82, .int .u8 68] 5 (4, 5)))) := hb2.trans (hb3.mono (by omega))
  have HPU : Hid (Calls Try.prog 28 #[.slice (some ⟨w.heap.size + 1 + 1, 0, none⟩) 4 4, .int .i64 1, .int .i64 2] (W2.alloc (Obj.cells #[.int .u8 67, .int .u8 71, .int .u8 82, .int .u8 68] 5 (4, 5))) fun e w' => e = .returned (.slice (some ⟨(W2.alloc (Obj.cells #[.int .u8 67, .int .u8 71, .int .u8 82, .int .u8 68] 5 (4, 5))).heap.size, 0, none⟩) 6 6) ∧ w' = (W2.alloc (Obj.cells #[.int .u8 67, .int .u8 71, .int .u8 82, .int .u8 68] 5 (4, 5))).alloc (.cells (u8s (magic ++ leL 1 2)).toArray 5)) :=
    put3_any hbs3 (by decide) 1 2 (by omega) rfl (by omega) (by omega)
  have hsz3 : w.heap.size + 3 ≤ (W2.alloc (Obj.cells #[.int .u8 67, .int .u8 71, .int .u8 82, .int .u8 68] 5 (4, 5))).heap.size := by simp [hsz2]
  clear hb2 hp2 hbs3 hb3 hsz2
  subst hW2
  go_enter Try.func16, Try.ntmps16
  go_wp2_with fail
  refine Calls.mono HPU.out ?_
  rintro e w4 ⟨rfl, hz4⟩
  generalize ((w.alloc (Obj.cells #[.slice a0 s.r.length c0, .slice a1 s.n.length c1, .slice a2 s.b.length c2, .slice a3 s.c.length c3] 25)).alloc (Obj.cells #[.slice a0 s.r.length c0, .slice a1 s.n.length c1, .slice a2 s.b.length c2, .slice a3 s.c.length c3] 52)).alloc (Obj.cells #[.int .u8 67, .int .u8 71, .int .u8 82, .int .u8 68] 5 (4, 5)) = w3 at *
  have hb4 : Below w3.heap.size w3 w4 := by rw [hz4]; exact (Below.refl _ _).alloc (Nat.le_refl _) _
  have ho4 : Own w4 w3.heap.size 5 (.slice (some ⟨w3.heap.size, 0, none⟩) 6 6) (magic ++ leL 1 2) := by rw [hz4]; exact Own.lit w3 _ 5 _ _ 6 (Nat.le_refl _) rfl rfl (by decide)
  have HP4 : Hid _ := (hb4.block _ (by omega)).trans HP3.out
  have HB4 : Hid (Below w.heap.size w w4) := HB3.out.trans (hb4.mono (by omega))
  have hsz4 : w.heap.size + 4 ≤ w4.heap.size := by rw [hz4]; simp; omega
  have HPU2 : Hid (Calls Try.prog 28 #[.slice (some ⟨w3.heap.size, 0, none⟩) 6 6, .int .i64 4, .int .i64 2] w4 fun e w' => e = .returned (.slice (some ⟨w4.heap.size, 0, none⟩) 8 8) ∧ w' = w4.alloc (.cells (u8s ((magic ++ leL 1 2) ++ leL 4 2)).toArray 5)) :=
    put3_any ho4.bs (by decide) 4 2 (by omega) rfl (by omega) (by omega)
  clear hb4 ho4 hz4 HP3 HB3 HPU hcv
  go_wp2_with fail
  refine Calls.mono HPU2.out ?_
  rintro e w5 ⟨rfl, hz5⟩
  have hb5 : Below w4.heap.size w4 w5 := by rw [hz5]; exact (Below.refl _ _).alloc (Nat.le_refl _) _
  have ho5 : Own w5 w.heap.size 5 (.slice (some ⟨w4.heap.size, 0, none⟩) 8 8) (headTo s 0) := by rw [hz5]; exact Own.lit w4 _ 5 _ _ 8 (by omega) rfl rfl (by rw [HHL.out 0]; decide)
  have HP5 : Hid _ := (hb5.block _ (by omega)).trans HP4.out
  have HB5 : Hid (Below w.heap.size w w5) := HB4.out.trans (hb5.mono (by omega))
  have HO5 : Hid (Own w5 w.heap.size 5 (.slice (some ⟨w4.heap.size, 0, none⟩) 8 8) (headTo s 0)) := ho5
  have hsz5 : w.heap.size + 5 ≤ w5.heap.size := by rw [hz5]; simp; omega
  clear hb5 ho5 hz5 HP4 HB4 HPU2
  go_wp2_with fail
  refine (kinds_any w5).mono ?_
  rintro e w6 ⟨rfl, hz6⟩
  have hb6 : Below w5.heap.size w5 w6 := by rw [hz6]; exact (Below.refl _ _).alloc (Nat.le_refl _) _
  have HJ6 : Hid (Jn w w6 w5.heap.size (w.heap.size + 1) (.slice a0 s.r.length c0) (.slice a1 s.n.length c1) (.slice a2 s.b.length c2) (.slice a3 s.c.length c3) (.slice (some ⟨w4.heap.size, 0, none⟩) 8 8) (.slice none 0 0) (headTo s 0) (bodyTo s 0)) := by
    refine ⟨HO5.out.later hb6, Own.nil _ _ _, fun j _ e => by simp [Value.ownBlock] at e, HB5.out.trans (hb6.mono (by omega)), ⟨by decide, #[.string (tagS 0), pickF 0, .string (tagS 1), pickF 1, .string (tagS 2), pickF 2, .string (tagS 3), pickF 3], ?_, rfl, rfl⟩, (hb6.block _ (by omega)).trans HP5.out⟩
    rw [hz6]; exact heap_alloc_new w5 _
  clear hb6 hz6 HP5 HB5 HO5
  go_wp2_with fail
  go_loopw [5, 6, 18] (fun h b i wr => ∃ k : Nat, k ≤ 4 ∧ i = .int .i64 k ∧ Jn w wr w5.heap.size (w.heap.size + 1) (.slice a0 s.r.length c0) (.slice a1 s.n.length c1) (.slice a2 s.b.length c2) (.slice a3 s.c.length c3) h b (headTo s k) (bodyTo s k)) (fun _ _ i _ => 4 - (intOf i).toNat)
  case atStart => exact ⟨0, by omega, rfl, HJ6.out⟩
  case round =>
    obtain ⟨k, hk, rfl, hj⟩ := hrel
    have HJ : Hid _ := hj
    have hszr := hj.below.size
    clear HJ6
    by_cases hlt : k < 4
    · have hT := hj.tab.tab
      have hplt := (Array.getElem?_eq_some_iff.1 hj.prt).1
      have htlt := hj.tab.lt
      have d0 : wr.cell? ⟨w.heap.size + 1, 0, none⟩ = some (.slice a0 s.r.length c0) := by simp [World.cell?, hj.prt]
      have d1 : wr.cell? ⟨w.heap.size + 1, 1, none⟩ = some (.slice a1 s.n.length c1) := by simp [World.cell?, hj.prt]
      have d2 : wr.cell? ⟨w.heap.size + 1, 2, none⟩ = some (.slice a2 s.b.length c2) := by simp [World.cell?, hj.prt]
      have d3 : wr.cell? ⟨w.heap.size + 1, 3, none⟩ = some (.slice a3 s.c.length c3) := by simp [World.cell?, hj.prt]
      clear hj
      rcases four_cases hlt with rfl | rfl | rfl | rfl
      · have t0 : wr.cell? ⟨w5.heap.size, 0, none⟩ = some (.string (tagS 0)) := by simpa using (hT 0 (by decide)).1
        have t1 : wr.cell? ⟨w5.heap.size, 1, none⟩ = some (.func (.func 34) #[] #[]) := by simpa [pickF, pickN] using (hT 0 (by decide)).2
        have hne := World.new_ne wr ⟨w.heap.size + 1, 0, none⟩ d0
        have HPK : Hid (∀ W, Calls Try.prog 34 #[.pointer (some ⟨w.heap.size + 1, 0, none⟩)] W fun e w' => e = .returned (.pointer (some ⟨w.heap.size + 1, 0, none⟩)) ∧ w' = W) := fun W => pick_any 0 (by omega) (w.heap.size + 1) 0 W
        have hb7 : Below wr.heap.size wr (wr.alloc (Obj.cells #[.string (tagS 0), .func (.func 34) #[] #[]] 71)) := (Below.refl _ _).alloc (Nat.le_refl _) _
        have hg7 := heap_alloc_new wr (Obj.cells #[.string (tagS 0), .func (.func 34) #[] #[]] 71)
        have HJ7 : Hid (Jn w (wr.alloc (Obj.cells #[.string (tagS 0), .func (.func 34) #[] #[]] 71)) w5.heap.size (w.heap.size + 1) (.slice a0 s.r.length c0) (.slice a1 s.n.length c1) (.slice a2 s.b.length c2) (.slice a3 s.c.length c3) u5 u6 (headTo s 0) (bodyTo s 0)) := HJ.out.later hb7
        have hlK : s.r.length ≤ 4000 := HL.out 0
        go_wp2_with fail
        refine Calls.mono (HPK.out _) ?_
        rintro e wz ⟨rfl, hz⟩
        subst wz
        have hd7 : (wr.alloc (Obj.cells #[.string (tagS 0), .func (.func 34) #[] #[]] 71)).cell? ⟨w.heap.size + 1, 0, none⟩ = some (.slice a0 s.r.length c0) := by simp [World.cell?, HJ7.out.prt]
        have hsz7 : (wr.alloc (Obj.cells #[.string (tagS 0), .func (.func 34) #[] #[]] 71)).heap.size = wr.heap.size + 1 := by simp
        have HBD : Hid (∀ j, u6.ownBlock = some j → j < wr.heap.size) := fun j hj => (HJ.out.bd.block j hj).2
        have hbl := HBL.out 0
        clear HPK hb7 t0 t1 hne d0 d1 d2 d3 hT HJ
        have HSZ7 : Hid _ := hsz7
        clear hsz7
        generalize wr.alloc (Obj.cells #[.string (tagS 0), .func (.func 34) #[] #[]] 71) = w7 at *
        go_wp2_with fail
        refine (pad3_any HJ7.out.bd HJ7.out.below.size (by omega)).mono ?_
        rintro e w8 ⟨bv8, rfl, hap8⟩
        have HJ8 : Hid (Jn w w8 w5.heap.size (w.heap.size + 1) (.slice a0 s.r.length c0) (.slice a1 s.n.length c1) (.slice a2 s.b.length c2) (.slice a3 s.c.length c3) u5 bv8 (headTo s 0) (pad (bodyTo s 0))) := HJ7.out.body hap8
        have hg8 : w8.heap[wr.heap.size]? = some (Obj.cells #[.string (tagS 0), .func (.func 34) #[] #[]] 71 (0, 0)) := (hap8.grown.block _ (by rw [HSZ7.out]; omega) fun e => by have := HBD.out _ e.symm; omega).trans hg7
        obtain ⟨a8, c8, e8, -⟩ := hap8.shape
        have hpl : 56 + (pad (bodyTo s 0)).length = plc s 0 := body_length s 0
        have hpb : (pad (bodyTo s 0)).length ≤ (bodyTo s 0).length + 3 := by rw [pad_length]; exact (up4_le _).2.1
        have HPL : Hid _ := hpl
        clear hpl hap8 hg7 HJ7 hd7
        generalize (pad (bodyTo s 0)).length = l8 at *
        subst e8
        have HPU : Hid (Calls Try.prog 28 #[u5, .int .i64 (56 + (l8 : Int)), .int .i64 4] w8 fun e w' => e = .returned (.slice (some ⟨w8.heap.size, 0, none⟩) 12 12) ∧ w' = w8.alloc (.cells (u8s (headTo s 0 ++ leL (56 + l8) 4)).toArray 5)) := by
          have := put3_any HJ8.out.hd.bs (by rw [HHL.out]; omega) (56 + l8) 4 (by omega) rfl (by omega) (by omega)
          rw [HHL.out 0, show ((56 + l8 : Nat) : Int) = 56 + (l8 : Int) by simp] at this
          exact this
        go_wp2_with fail
        refine Calls.mono HPU.out ?_
        rintro e w9 ⟨rfl, hz9⟩
        have HJ9 : Hid (Jn w w9 w5.heap.size (w.heap.size + 1) (.slice a0 s.r.length c0) (.slice a1 s.n.length c1) (.slice a2 s.b.length c2) (.slice a3 s.c.length c3) (.slice (some ⟨w8.heap.size, 0, none⟩) 12 12) (.slice a8 l8 c8) (headTo s 0 ++ leL (56 + l8) 4) (pad (bodyTo s 0))) := by
          have := HJ8.out.fresh (headTo s 0 ++ leL (56 + l8) 4) 12 (by rw [List.length_append, HHL.out, leL_length]) (by rw [List.length_append, HHL.out, leL_length]; decide)
          rw [← hz9] at this
          exact this
        have hg9 : w9.heap[wr.heap.size]? = some (Obj.cells #[.string (tagS 0), .func (.func 34) #[] #[]] 71 (0, 0)) := by
          rw [hz9, heap_alloc_old _ _ (Array.getElem?_eq_some_iff.1 hg8).1]; exact hg8
        clear hz9 hg8 HJ8 HPU
        have HPU : Hid (Calls Try.prog 28 #[.slice (some ⟨w8.heap.size, 0, none⟩) 12 12, .int .i64 (s.r.length : Int), .int .i64 4] w9 fun e w' => e = .returned (.slice (some ⟨w9.heap.size, 0, none⟩) 16 16) ∧ w' = w9.alloc (.cells (u8s ((headTo s 0 ++ leL (56 + l8) 4) ++ leL s.r.length 4)).toArray 5)) := by
          have := put3_any HJ9.out.hd.bs (by rw [List.length_append, HHL.out, leL_length]; omega) s.r.length 4 (by omega) rfl (by omega) (by omega)
          rw [List.length_append, HHL.out 0, leL_length] at this
          exact this
        go_wp2_with fail
        refine Calls.mono HPU.out ?_
        rintro e w10 ⟨rfl, hz10⟩
        have HJ10 : Hid (Jn w w10 w5.heap.size (w.heap.size + 1) (.slice a0 s.r.length c0) (.slice a1 s.n.length c1) (.slice a2 s.b.length c2) (.slice a3 s.c.length c3) (.slice (some ⟨w9.heap.size, 0, none⟩) 16 16) (.slice a8 l8 c8) ((headTo s 0 ++ leL (56 + l8) 4) ++ leL s.r.length 4) (pad (bodyTo s 0))) := by
          have := HJ9.out.fresh ((headTo s 0 ++ leL (56 + l8) 4) ++ leL s.r.length 4) 16 (by rw [List.length_append, List.length_append, HHL.out, leL_length, leL_length]) (by rw [List.length_append, List.length_append, HHL.out, leL_length, leL_length]; decide)
          rw [← hz10] at this
          exact this
        have hg10 : w10.heap[wr.heap.size]? = some (Obj.cells #[.string (tagS 0), .func (.func 34) #[] #[]] 71 (0, 0)) := by
          rw [hz10, heap_alloc_old _ _ (Array.getElem?_eq_some_iff.1 hg9).1]; exact hg9
        have t10 : w10.cell? ⟨wr.heap.size, 0, none⟩ = some (.string (tagS 0)) := by simp [World.cell?, hg10]
        clear hz10 hg9 HJ9 HPU hg10
        have hts : (tagS 0).size = 4 := rfl
        have HTS : Hid _ := hts
        clear hts
        go_wp2_with (at_builtin; go_must (refine wpList_append_at rfl _ _ _ _ rfl w.heap.size 5 (.int .u8 0) 1 Try.underlying22 Try.infoU8 rfl rfl rfl HJ10.out.hd.v (str_src _ Try.underlying9 (tagS 0)) (by rw [u8s_length, List.length_append, List.length_append, HHL.out, leL_length, leL_length, HTS.out]; decide) (by rw [u8s_length, List.length_append, List.length_append, HHL.out, leL_length, leL_length, HTS.out]; decide) HJ10.out.below.size ?_))
        intro v11 w11 ho11 hg11 hp11 _
        rw [tagS_list] at ho11
        have HJ11 : Hid (Jn w w11 w5.heap.size (w.heap.size + 1) (.slice a0 s.r.length c0) (.slice a1 s.n.length c1) (.slice a2 s.b.length c2) (.slice a3 s.c.length c3) v11 (.slice a8 l8 c8) (((headTo s 0 ++ leL (56 + l8) 4) ++ leL s.r.length 4) ++ tagB 0) (pad (bodyTo s 0))) := HJ10.out.head ((Ap.refl HJ10.out.hd HJ10.out.below.size).app ho11 hg11 hp11)
        clear ho11 hg11 hp11 HJ10 t10 HTS
        have HB11 : Hid (Bs w11 (.slice a0 s.r.length c0) (s.part 0)) := (HP.out 0).later HJ11.out.below
        have HPB : Hid ((pad (bodyTo s 0)).length = l8) := by have := HPL.out; have h := body_length s 0; show _ = _; omega
        go_wp2_with (at_builtin; go_must (refine wpList_append_at rfl _ _ _ _ rfl w.heap.size 5 (.int .u8 0) 1 Try.underlying22 Try.infoU8 rfl rfl rfl HJ11.out.bd.v (HB11.out.src Try.underlying22) (by rw [u8s_length, HPB.out]; have := HL.out 0; unfold maxLen; omega) (by rw [u8s_length, HPB.out]; have := HL.out 0; omega) HJ11.out.below.size ?_))
        intro v12 w12 ho12 hg12 hp12 _
        have HJ12 : Hid (Jn w w12 w5.heap.size (w.heap.size + 1) (.slice a0 s.r.length c0) (.slice a1 s.n.length c1) (.slice a2 s.b.length c2) (.slice a3 s.c.length c3) v11 v12 (headTo s 1) (bodyTo s 1)) := by
          have := HJ11.out.body ((Ap.refl HJ11.out.bd HJ11.out.below.size).app ho12 hg12 hp12)
          rw [HPL.out, List.append_assoc, List.append_assoc] at this
          exact this
        clear ho12 hg12 hp12 HJ11 HB11
        go_wp2_with fail
        go_roundw
        case rel => exact ⟨1, by omega, rfl, HJ12.out⟩
        case measure => simp [intOf]
      · have t0 : wr.cell? ⟨w5.heap.size, 2, none⟩ = some (.string (tagS 1)) := by simpa using (hT 1 (by decide)).1
        have t1 : wr.cell? ⟨w5.heap.size, 3, none⟩ = some (.func (.func 35) #[] #[]) := by simpa [pickF, pickN] using (hT 1 (by decide)).2
        have hne := World.new_ne wr ⟨w.heap.size + 1, 0, none⟩ d0
        have HPK : Hid (∀ W, Calls Try.prog 35 #[.pointer (some ⟨w.heap.size + 1, 0, none⟩)] W fun e w' => e = .returned (.pointer (some ⟨w.heap.size + 1, 1, none⟩)) ∧ w' = W) := fun W => pick_any 1 (by omega) (w.heap.size + 1) 0 W
        have hb7 : Below wr.heap.size wr (wr.alloc (Obj.cells #[.string (tagS 1), .func (.func 35) #[] #[]] 71)) := (Below.refl _ _).alloc (Nat.le_refl _) _
        have hg7 := heap_alloc_new wr (Obj.cells #[.string (tagS 1), .func (.func 35) #[] #[]] 71)
        have HJ7 : Hid (Jn w (wr.alloc (Obj.cells #[.string (tagS 1), .func (.func 35) #[] #[]] 71)) w5.heap.size (w.heap.size + 1) (.slice a0 s.r.length c0) (.slice a1 s.n.length c1) (.slice a2 s.b.length c2) (.slice a3 s.c.length c3) u5 u6 (headTo s 1) (bodyTo s 1)) := HJ.out.later hb7
        have hlK : s.n.length ≤ 4000 := HL.out 1
        go_wp2_with fail
        refine Calls.mono (HPK.out _) ?_
        rintro e wz ⟨rfl, hz⟩
        subst wz
        have hd7 : (wr.alloc (Obj.cells #[.string (tagS 1), .func (.func 35) #[] #[]] 71)).cell? ⟨w.heap.size + 1, 1, none⟩ = some (.slice a1 s.n.length c1) := by simp [World.cell?, HJ7.out.prt]
        have hsz7 : (wr.alloc (Obj.cells #[.string (tagS 1), .func (.func 35) #[] #[]] 71)).heap.size = wr.heap.size + 1 := by simp
        have HBD : Hid (∀ j, u6.ownBlock = some j → j < wr.heap.size) := fun j hj => (HJ.out.bd.block j hj).2
        have hbl := HBL.out 1
        clear HPK hb7 t0 t1 hne d0 d1 d2 d3 hT HJ
        have HSZ7 : Hid _ := hsz7
        clear hsz7
        generalize wr.alloc (Obj.cells #[.string (tagS 1), .func (.func 35) #[] #[]] 71) = w7 at *
        go_wp2_with fail
        refine (pad3_any HJ7.out.bd HJ7.out.below.size (by omega)).mono ?_
        rintro e w8 ⟨bv8, rfl, hap8⟩
        have HJ8 : Hid (Jn w w8 w5.heap.size (w.heap.size + 1) (.slice a0 s.r.length c0) (.slice a1 s.n.length c1) (.slice a2 s.b.length c2) (.slice a3 s.c.length c3) u5 bv8 (headTo s 1) (pad (bodyTo s 1))) := HJ7.out.body hap8
        have hg8 : w8.heap[wr.heap.size]? = some (Obj.cells #[.string (tagS 1), .func (.func 35) #[] #[]] 71 (0, 0)) := (hap8.grown.block _ (by rw [HSZ7.out]; omega) fun e => by have := HBD.out _ e.symm; omega).trans hg7
        obtain ⟨a8, c8, e8, -⟩ := hap8.shape
        have hpl : 56 + (pad (bodyTo s 1)).length = plc s 1 := body_length s 1
        have hpb : (pad (bodyTo s 1)).length ≤ (bodyTo s 1).length + 3 := by rw [pad_length]; exact (up4_le _).2.1
        have HPL : Hid _ := hpl
        clear hpl hap8 hg7 HJ7 hd7
        generalize (pad (bodyTo s 1)).length = l8 at *
        subst e8
        have HPU : Hid (Calls Try.prog 28 #[u5, .int .i64 (56 + (l8 : Int)), .int .i64 4] w8 fun e w' => e = .returned (.slice (some ⟨w8.heap.size, 0, none⟩) 24 24) ∧ w' = w8.alloc (.cells (u8s (headTo s 1 ++ leL (56 + l8) 4)).toArray 5)) := by
          have := put3_any HJ8.out.hd.bs (by rw [HHL.out]; omega) (56 + l8) 4 (by omega) rfl (by omega) (by omega)
          rw [HHL.out 1, show ((56 + l8 : Nat) : Int) = 56 + (l8 : Int) by simp] at this
          exact this
        go_wp2_with fail
        refine Calls.mono HPU.out ?_
        rintro e w9 ⟨rfl, hz9⟩
        have HJ9 : Hid (Jn w w9 w5.heap.size (w.heap.size + 1) (.slice a0 s.r.length c0) (.slice a1 s.n.length c1) (.slice a2 s.b.length c2) (.slice a3 s.c.length c3) (.slice (some ⟨w8.heap.size, 0, none⟩) 24 24) (.slice a8 l8 c8) (headTo s 1 ++ leL (56 + l8) 4) (pad (bodyTo s 1))) := by
          have := HJ8.out.fresh (headTo s 1 ++ leL (56 + l8) 4) 24 (by rw [List.length_append, HHL.out, leL_length]) (by rw [List.length_append, HHL.out, leL_length]; decide)
          rw [← hz9] at this
          exact this
        have hg9 : w9.heap[wr.heap.size]? = some (Obj.cells #[.string (tagS 1), .func (.func 35) #[] #[]] 71 (0, 0)) := by
          rw [hz9, heap_alloc_old _ _ (Array.getElem?_eq_some_iff.1 hg8).1]; exact hg8
        clear hz9 hg8 HJ8 HPU
        have HPU : Hid (Calls Try.prog 28 #[.slice (some ⟨w8.heap.size, 0, none⟩) 24 24, .int .i64 (s.n.length : Int), .int .i64 4] w9 fun e w' => e = .returned (.slice (some ⟨w9.heap.size, 0, none⟩) 28 28) ∧ w' = w9.alloc (.cells (u8s ((headTo s 1 ++ leL (56 + l8) 4) ++ leL s.n.length 4)).toArray 5)) := by
          have := put3_any HJ9.out.hd.bs (by rw [List.length_append, HHL.out, leL_length]; omega) s.n.length 4 (by omega) rfl (by omega) (by omega)
          rw [List.length_append, HHL.out 1, leL_length] at this
          exact this
        go_wp2_with fail
        refine Calls.mono HPU.out ?_
        rintro e w10 ⟨rfl, hz10⟩
        have HJ10 : Hid (Jn w w10 w5.heap.size (w.heap.size + 1) (.slice a0 s.r.length c0) (.slice a1 s.n.length c1) (.slice a2 s.b.length c2) (.slice a3 s.c.length c3) (.slice (some ⟨w9.heap.size, 0, none⟩) 28 28) (.slice a8 l8 c8) ((headTo s 1 ++ leL (56 + l8) 4) ++ leL s.n.length 4) (pad (bodyTo s 1))) := by
          have := HJ9.out.fresh ((headTo s 1 ++ leL (56 + l8) 4) ++ leL s.n.length 4) 28 (by rw [List.length_append, List.length_append, HHL.out, leL_length, leL_length]) (by rw [List.length_append, List.length_append, HHL.out, leL_length, leL_length]; decide)
          rw [← hz10] at this
          exact this
        have hg10 : w10.heap[wr.heap.size]? = some (Obj.cells #[.string (tagS 1), .func (.func 35) #[] #[]] 71 (0, 0)) := by
          rw [hz10, heap_alloc_old _ _ (Array.getElem?_eq_some_iff.1 hg9).1]; exact hg9
        have t10 : w10.cell? ⟨wr.heap.size, 0, none⟩ = some (.string (tagS 1)) := by simp [World.cell?, hg10]
        clear hz10 hg9 HJ9 HPU hg10
        have hts : (tagS 1).size = 4 := rfl
        have HTS : Hid _ := hts
        clear hts
        go_wp2_with (at_builtin; go_must (refine wpList_append_at rfl _ _ _ _ rfl w.heap.size 5 (.int .u8 0) 1 Try.underlying22 Try.infoU8 rfl rfl rfl HJ10.out.hd.v (str_src _ Try.underlying9 (tagS 1)) (by rw [u8s_length, List.length_append, List.length_append, HHL.out, leL_length, leL_length, HTS.out]; decide) (by rw [u8s_length, List.length_append, List.length_append, HHL.out, leL_length, leL_length, HTS.out]; decide) HJ10.out.below.size ?_))
        intro v11 w11 ho11 hg11 hp11 _
        rw [tagS_list] at ho11
        have HJ11 : Hid (Jn w w11 w5.heap.size (w.heap.size + 1) (.slice a0 s.r.length c0) (.slice a1 s.n.length c1) (.slice a2 s.b.length c2) (.slice a3 s.c.length c3) v11 (.slice a8 l8 c8) (((headTo s 1 ++ leL (56 + l8) 4) ++ leL s.n.length 4) ++ tagB 1) (pad (bodyTo s 1))) := HJ10.out.head ((Ap.refl HJ10.out.hd HJ10.out.below.size).app ho11 hg11 hp11)
        clear ho11 hg11 hp11 HJ10 t10 HTS
        have HB11 : Hid (Bs w11 (.slice a1 s.n.length c1) (s.part 1)) := (HP.out 1).later HJ11.out.below
        have HPB : Hid ((pad (bodyTo s 1)).length = l8) := by have := HPL.out; have h := body_length s 1; show _ = _; omega
        go_wp2_with (at_builtin; go_must (refine wpList_append_at rfl _ _ _ _ rfl w.heap.size 5 (.int .u8 0) 1 Try.underlying22 Try.infoU8 rfl rfl rfl HJ11.out.bd.v (HB11.out.src Try.underlying22) (by rw [u8s_length, HPB.out]; have := HL.out 1; unfold maxLen; omega) (by rw [u8s_length, HPB.out]; have := HL.out 1; omega) HJ11.out.below.size ?_))
        intro v12 w12 ho12 hg12 hp12 _
        have HJ12 : Hid (Jn w w12 w5.heap.size (w.heap.size + 1) (.slice a0 s.r.length c0) (.slice a1 s.n.length c1) (.slice a2 s.b.length c2) (.slice a3 s.c.length c3) v11 v12 (headTo s 2) (bodyTo s 2)) := by
          have := HJ11.out.body ((Ap.refl HJ11.out.bd HJ11.out.below.size).app ho12 hg12 hp12)
          rw [HPL.out, List.append_assoc, List.append_assoc] at this
          exact this
        clear ho12 hg12 hp12 HJ11 HB11
        go_wp2_with fail
        go_roundw
        case rel => exact ⟨2, by omega, rfl, HJ12.out⟩
        case measure => simp [intOf]
      · have t0 : wr.cell? ⟨w5.heap.size, 4, none⟩ = some (.string (tagS 2)) := by simpa using (hT 2 (by decide)).1
        have t1 : wr.cell? ⟨w5.heap.size, 5, none⟩ = some (.func (.func 36) #[] #[]) := by simpa [pickF, pickN] using (hT 2 (by decide)).2
        have hne := World.new_ne wr ⟨w.heap.size + 1, 0, none⟩ d0
        have HPK : Hid (∀ W, Calls Try.prog 36 #[.pointer (some ⟨w.heap.size + 1, 0, none⟩)] W fun e w' => e = .returned (.pointer (some ⟨w.heap.size + 1, 2, none⟩)) ∧ w' = W) := fun W => pick_any 2 (by omega) (w.heap.size + 1) 0 W
        have hb7 : Below wr.heap.size wr (wr.alloc (Obj.cells #[.string (tagS 2), .func (.func 36) #[] #[]] 71)) := (Below.refl _ _).alloc (Nat.le_refl _) _
        have hg7 := heap_alloc_new wr (Obj.cells #[.string (tagS 2), .func (.func 36) #[] #[]] 71)
        have HJ7 : Hid (Jn w (wr.alloc (Obj.cells #[.string (tagS 2), .func (.func 36) #[] #[]] 71)) w5.heap.size (w.heap.size + 1) (.slice a0 s.r.length c0) (.slice a1 s.n.length c1) (.slice a2 s.b.length c2) (.slice a3 s.c.length c3) u5 u6 (headTo s 2) (bodyTo s 2)) := HJ.out.later hb7
        have hlK : s.b.length ≤ 4000 := HL.out 2
        go_wp2_with fail
        refine Calls.mono (HPK.out _) ?_
        rintro e wz ⟨rfl, hz⟩
        subst wz
        have hd7 : (wr.alloc (Obj.cells #[.string (tagS 2), .func (.func 36) #[] #[]] 71)).cell? ⟨w.heap.size + 1, 2, none⟩ = some (.slice a2 s.b.length c2) := by simp [World.cell?, HJ7.out.prt]
        have hsz7 : (wr.alloc (Obj.cells #[.string (tagS 2), .func (.func 36) #[] #[]] 71)).heap.size = wr.heap.size + 1 := by simp
        have HBD : Hid (∀ j, u6.ownBlock = some j → j < wr.heap.size) := fun j hj => (HJ.out.bd.block j hj).2
        have hbl := HBL.out 2
        clear HPK hb7 t0 t1 hne d0 d1 d2 d3 hT HJ
        have HSZ7 : Hid _ := hsz7
        clear hsz7
        generalize wr.alloc (Obj.cells #[.string (tagS 2), .func (.func 36) #[] #[]] 71) = w7 at *
        go_wp2_with fail
        refine (pad3_any HJ7.out.bd HJ7.out.below.size (by omega)).mono ?_
        rintro e w8 ⟨bv8, rfl, hap8⟩
        have HJ8 : Hid (Jn w w8 w5.heap.size (w.heap.size + 1) (.slice a0 s.r.length c0) (.slice a1 s.n.length c1) (.slice a2 s.b.length c2) (.slice a3 s.c.length c3) u5 bv8 (headTo s 2) (pad (bodyTo s 2))) := HJ7.out.body hap8
        have hg8 : w8.heap[wr.heap.size]? = some (Obj.cells #[.string (tagS 2), .func (.func 36) #[] #[]] 71 (0, 0)) := (hap8.grown.block _ (by rw [HSZ7.out]; omega) fun e => by have := HBD.out _ e.symm; omega).trans hg7
        obtain ⟨a8, c8, e8, -⟩ := hap8.shape
        have hpl : 56 + (pad (bodyTo s 2)).length = plc s 2 := body_length s 2
        have hpb : (pad (bodyTo s 2)).length ≤ (bodyTo s 2).length + 3 := by rw [pad_length]; exact (up4_le _).2.1
        have HPL : Hid _ := hpl
        clear hpl hap8 hg7 HJ7 hd7
        generalize (pad (bodyTo s 2)).length = l8 at *
        subst e8
        have HPU : Hid (Calls Try.prog 28 #[u5, .int .i64 (56 + (l8 : Int)), .int .i64 4] w8 fun e w' => e = .returned (.slice (some ⟨w8.heap.size, 0, none⟩) 36 36) ∧ w' = w8.alloc (.cells (u8s (headTo s 2 ++ leL (56 + l8) 4)).toArray 5)) := by
          have := put3_any HJ8.out.hd.bs (by rw [HHL.out]; omega) (56 + l8) 4 (by omega) rfl (by omega) (by omega)
          rw [HHL.out 2, show ((56 + l8 : Nat) : Int) = 56 + (l8 : Int) by simp] at this
          exact this
        go_wp2_with fail
        refine Calls.mono HPU.out ?_
        rintro e w9 ⟨rfl, hz9⟩
        have HJ9 : Hid (Jn w w9 w5.heap.size (w.heap.size + 1) (.slice a0 s.r.length c0) (.slice a1 s.n.length c1) (.slice a2 s.b.length c2) (.slice a3 s.c.length c3) (.slice (some ⟨w8.heap.size, 0, none⟩) 36 36) (.slice a8 l8 c8) (headTo s 2 ++ leL (56 + l8) 4) (pad (bodyTo s 2))) := by
          have := HJ8.out.fresh (headTo s 2 ++ leL (56 + l8) 4) 36 (by rw [List.length_append, HHL.out, leL_length]) (by rw [List.length_append, HHL.out, leL_length]; decide)
          rw [← hz9] at this
          exact this
        have hg9 : w9.heap[wr.heap.size]? = some (Obj.cells #[.string (tagS 2), .func (.func 36) #[] #[]] 71 (0, 0)) := by
          rw [hz9, heap_alloc_old _ _ (Array.getElem?_eq_some_iff.1 hg8).1]; exact hg8
        clear hz9 hg8 HJ8 HPU
        have HPU : Hid (Calls Try.prog 28 #[.slice (some ⟨w8.heap.size, 0, none⟩) 36 36, .int .i64 (s.b.length : Int), .int .i64 4] w9 fun e w' => e = .returned (.slice (some ⟨w9.heap.size, 0, none⟩) 40 40) ∧ w' = w9.alloc (.cells (u8s ((headTo s 2 ++ leL (56 + l8) 4) ++ leL s.b.length 4)).toArray 5)) := by
          have := put3_any HJ9.out.hd.bs (by rw [List.length_append, HHL.out, leL_length]; omega) s.b.length 4 (by omega) rfl (by omega) (by omega)
          rw [List.length_append, HHL.out 2, leL_length] at this
          exact this
        go_wp2_with fail
        refine Calls.mono HPU.out ?_
        rintro e w10 ⟨rfl, hz10⟩
        have HJ10 : Hid (Jn w w10 w5.heap.size (w.heap.size + 1) (.slice a0 s.r.length c0) (.slice a1 s.n.length c1) (.slice a2 s.b.length c2) (.slice a3 s.c.length c3) (.slice (some ⟨w9.heap.size, 0, none⟩) 40 40) (.slice a8 l8 c8) ((headTo s 2 ++ leL (56 + l8) 4) ++ leL s.b.length 4) (pad (bodyTo s 2))) := by
          have := HJ9.out.fresh ((headTo s 2 ++ leL (56 + l8) 4) ++ leL s.b.length 4) 40 (by rw [List.length_append, List.length_append, HHL.out, leL_length, leL_length]) (by rw [List.length_append, List.length_append, HHL.out, leL_length, leL_length]; decide)
          rw [← hz10] at this
          exact this
        have hg10 : w10.heap[wr.heap.size]? = some (Obj.cells #[.string (tagS 2), .func (.func 36) #[] #[]] 71 (0, 0)) := by
          rw [hz10, heap_alloc_old _ _ (Array.getElem?_eq_some_iff.1 hg9).1]; exact hg9
        have t10 : w10.cell? ⟨wr.heap.size, 0, none⟩ = some (.string (tagS 2)) := by simp [World.cell?, hg10]
        clear hz10 hg9 HJ9 HPU hg10
        have hts : (tagS 2).size = 4 := rfl
        have HTS : Hid _ := hts
        clear hts
        go_wp2_with (at_builtin; go_must (refine wpList_append_at rfl _ _ _ _ rfl w.heap.size 5 (.int .u8 0) 1 Try.underlying22 Try.infoU8 rfl rfl rfl HJ10.out.hd.v (str_src _ Try.underlying9 (tagS 2)) (by rw [u8s_length, List.length_append, List.length_append, HHL.out, leL_length, leL_length, HTS.out]; decide) (by rw [u8s_length, List.length_append, List.length_append, HHL.out, leL_length, leL_length, HTS.out]; decide) HJ10.out.below.size ?_))
        intro v11 w11 ho11 hg11 hp11 _
        rw [tagS_list] at ho11
        have HJ11 : Hid (Jn w w11 w5.heap.size (w.heap.size + 1) (.slice a0 s.r.length c0) (.slice a1 s.n.length c1) (.slice a2 s.b.length c2) (.slice a3 s.c.length c3) v11 (.slice a8 l8 c8) (((headTo s 2 ++ leL (56 + l8) 4) ++ leL s.b.length 4) ++ tagB 2) (pad (bodyTo s 2))) := HJ10.out.head ((Ap.refl HJ10.out.hd HJ10.out.below.size).app ho11 hg11 hp11)
        clear ho11 hg11 hp11 HJ10 t10 HTS
        have HB11 : Hid (Bs w11 (.slice a2 s.b.length c2) (s.part 2)) := (HP.out 2).later HJ11.out.below
        have HPB : Hid ((pad (bodyTo s 2)).length = l8) := by have := HPL.out; have h := body_length s 2; show _ = _; omega
        go_wp2_with (at_builtin; go_must (refine wpList_append_at rfl _ _ _ _ rfl w.heap.size 5 (.int .u8 0) 1 Try.underlying22 Try.infoU8 rfl rfl rfl HJ11.out.bd.v (HB11.out.src Try.underlying22) (by rw [u8s_length, HPB.out]; have := HL.out 2; unfold maxLen; omega) (by rw [u8s_length, HPB.out]; have := HL.out 2; omega) HJ11.out.below.size ?_))
        intro v12 w12 ho12 hg12 hp12 _
        have HJ12 : Hid (Jn w w12 w5.heap.size (w.heap.size + 1) (.slice a0 s.r.length c0) (.slice a1 s.n.length c1) (.slice a2 s.b.length c2) (.slice a3 s.c.length c3) v11 v12 (headTo s 3) (bodyTo s 3)) := by
          have := HJ11.out.body ((Ap.refl HJ11.out.bd HJ11.out.below.size).app ho12 hg12 hp12)
          rw [HPL.out, List.append_assoc, List.append_assoc] at this
          exact this
        clear ho12 hg12 hp12 HJ11 HB11
        go_wp2_with fail
        go_roundw
        case rel => exact ⟨3, by omega, rfl, HJ12.out⟩
        case measure => simp [intOf]
      · have t0 : wr.cell? ⟨w5.heap.size, 6, none⟩ = some (.string (tagS 3)) := by simpa using (hT 3 (by decide)).1
        have t1 : wr.cell? ⟨w5.heap.size, 7, none⟩ = some (.func (.func 37) #[] #[]) := by simpa [pickF, pickN] using (hT 3 (by decide)).2
        have hne := World.new_ne wr ⟨w.heap.size + 1, 0, none⟩ d0
        have HPK : Hid (∀ W, Calls Try.prog 37 #[.pointer (some ⟨w.heap.size + 1, 0, none⟩)] W fun e w' => e = .returned (.pointer (some ⟨w.heap.size + 1, 3, none⟩)) ∧ w' = W) := fun W => pick_any 3 (by omega) (w.heap.size + 1) 0 W
        have hb7 : Below wr.heap.size wr (wr.alloc (Obj.cells #[.string (tagS 3), .func (.func 37) #[] #[]] 71)) := (Below.refl _ _).alloc (Nat.le_refl _) _
        have hg7 := heap_alloc_new wr (Obj.cells #[.string (tagS 3), .func (.func 37) #[] #[]] 71)
        have HJ7 : Hid (Jn w (wr.alloc (Obj.cells #[.string (tagS 3), .func (.func 37) #[] #[]] 71)) w5.heap.size (w.heap.size + 1) (.slice a0 s.r.length c0) (.slice a1 s.n.length c1) (.slice a2 s.b.length c2) (.slice a3 s.c.length c3) u5 u6 (headTo s 3) (bodyTo s 3)) := HJ.out.later hb7
        have hlK : s.c.length ≤ 4000 := HL.out 3
        go_wp2_with fail
        refine Calls.mono (HPK.out _) ?_
        rintro e wz ⟨rfl, hz⟩
        subst wz
        have hd7 : (wr.alloc (Obj.cells #[.string (tagS 3), .func (.func 37) #[] #[]] 71)).cell? ⟨w.heap.size + 1, 3, none⟩ = some (.slice a3 s.c.length c3) := by simp [World.cell?, HJ7.out.prt]
        have hsz7 : (wr.alloc (Obj.cells #[.string (tagS 3), .func (.func 37) #[] #[]] 71)).heap.size = wr.heap.size + 1 := by simp
        have HBD : Hid (∀ j, u6.ownBlock = some j → j < wr.heap.size) := fun j hj => (HJ.out.bd.block j hj).2
        have hbl := HBL.out 3
        clear HPK hb7 t0 t1 hne d0 d1 d2 d3 hT HJ
        have HSZ7 : Hid _ := hsz7
        clear hsz7
        generalize wr.alloc (Obj.cells #[.string (tagS 3), .func (.func 37) #[] #[]] 71) = w7 at *
        go_wp2_with fail
        refine (pad3_any HJ7.out.bd HJ7.out.below.size (by omega)).mono ?_
        rintro e w8 ⟨bv8, rfl, hap8⟩
        have HJ8 : Hid (Jn w w8 w5.heap.size (w.heap.size + 1) (.slice a0 s.r.length c0) (.slice a1 s.n.length c1) (.slice a2 s.b.length c2) (.slice a3 s.c.length c3) u5 bv8 (headTo s 3) (pad (bodyTo s 3))) := HJ7.out.body hap8
        have hg8 : w8.heap[wr.heap.size]? = some (Obj.cells #[.string (tagS 3), .func (.func 37) #[] #[]] 71 (0, 0)) := (hap8.grown.block _ (by rw [HSZ7.out]; omega) fun e => by have := HBD.out _ e.symm; omega).trans hg7
        obtain ⟨a8, c8, e8, -⟩ := hap8.shape
        have hpl : 56 + (pad (bodyTo s 3)).length = plc s 3 := body_length s 3
        have hpb : (pad (bodyTo s 3)).length ≤ (bodyTo s 3).length + 3 := by rw [pad_length]; exact (up4_le _).2.1
        have HPL : Hid _ := hpl
        clear hpl hap8 hg7 HJ7 hd7
        generalize (pad (bodyTo s 3)).length = l8 at *
        subst e8
        have HPU : Hid (Calls Try.prog 28 #[u5, .int .i64 (56 + (l8 : Int)), .int .i64 4] w8 fun e w' => e = .returned (.slice (some ⟨w8.heap.size, 0, none⟩) 48 48) ∧ w' = w8.alloc (.cells (u8s (headTo s 3 ++ leL (56 + l8) 4)).toArray 5)) := by
          have := put3_any HJ8.out.hd.bs (by rw [HHL.out]; omega) (56 + l8) 4 (by omega) rfl (by omega) (by omega)
          rw [HHL.out 3, show ((56 + l8 : Nat) : Int) = 56 + (l8 : Int) by simp] at this
          exact this
        go_wp2_with fail
        refine Calls.mono HPU.out ?_
        rintro e w9 ⟨rfl, hz9⟩
        have HJ9 : Hid (Jn w w9 w5.heap.size (w.heap.size + 1) (.slice a0 s.r.length c0) (.slice a1 s.n.length c1) (.slice a2 s.b.length c2) (.slice a3 s.c.length c3) (.slice (some ⟨w8.heap.size, 0, none⟩) 48 48) (.slice a8 l8 c8) (headTo s 3 ++ leL (56 + l8) 4) (pad (bodyTo s 3))) := by
          have := HJ8.out.fresh (headTo s 3 ++ leL (56 + l8) 4) 48 (by rw [List.length_append, HHL.out, leL_length]) (by rw [List.length_append, HHL.out, leL_length]; decide)
          rw [← hz9] at this
          exact this
        have hg9 : w9.heap[wr.heap.size]? = some (Obj.cells #[.string (tagS 3), .func (.func 37) #[] #[]] 71 (0, 0)) := by
          rw [hz9, heap_alloc_old _ _ (Array.getElem?_eq_some_iff.1 hg8).1]; exact hg8
        clear hz9 hg8 HJ8 HPU
        have HPU : Hid (Calls Try.prog 28 #[.slice (some ⟨w8.heap.size, 0, none⟩) 48 48, .int .i64 (s.c.length : Int), .int .i64 4] w9 fun e w' => e = .returned (.slice (some ⟨w9.heap.size, 0, none⟩) 52 52) ∧ w' = w9.alloc (.cells (u8s ((headTo s 3 ++ leL (56 + l8) 4) ++ leL s.c.length 4)).toArray 5)) := by
          have := put3_any HJ9.out.hd.bs (by rw [List.length_append, HHL.out, leL_length]; omega) s.c.length 4 (by omega) rfl (by omega) (by omega)
          rw [List.length_append, HHL.out 3, leL_length] at this
          exact this
        go_wp2_with fail
        refine Calls.mono HPU.out ?_
        rintro e w10 ⟨rfl, hz10⟩
        have HJ10 : Hid (Jn w w10 w5.heap.size (w.heap.size + 1) (.slice a0 s.r.length c0) (.slice a1 s.n.length c1) (.slice a2 s.b.length c2) (.slice a3 s.c.length c3) (.slice (some ⟨w9.heap.size, 0, none⟩) 52 52) (.slice a8 l8 c8) ((headTo s 3 ++ leL (56 + l8) 4) ++ leL s.c.length 4) (pad (bodyTo s 3))) := by
          have := HJ9.out.fresh ((headTo s 3 ++ leL (56 + l8) 4) ++ leL s.c.length 4) 52 (by rw [List.length_append, List.length_append, HHL.out, leL_length, leL_length]) (by rw [List.length_append, List.length_append, HHL.out, leL_length, leL_length]; decide)
          rw [← hz10] at this
          exact this
        have hg10 : w10.heap[wr.heap.size]? = some (Obj.cells #[.string (tagS 3), .func (.func 37) #[] #[]] 71 (0, 0)) := by
          rw [hz10, heap_alloc_old _ _ (Array.getElem?_eq_some_iff.1 hg9).1]; exact hg9
        have t10 : w10.cell? ⟨wr.heap.size, 0, none⟩ = some (.string (tagS 3)) := by simp [World.cell?, hg10]
        clear hz10 hg9 HJ9 HPU hg10
        have hts : (tagS 3).size = 4 := rfl
        have HTS : Hid _ := hts
        clear hts
        go_wp2_with (at_builtin; go_must (refine wpList_append_at rfl _ _ _ _ rfl w.heap.size 5 (.int .u8 0) 1 Try.underlying22 Try.infoU8 rfl rfl rfl HJ10.out.hd.v (str_src _ Try.underlying9 (tagS 3)) (by rw [u8s_length, List.length_append, List.length_append, HHL.out, leL_length, leL_length, HTS.out]; decide) (by rw [u8s_length, List.length_append, List.length_append, HHL.out, leL_length, leL_length, HTS.out]; decide) HJ10.out.below.size ?_))
        intro v11 w11 ho11 hg11 hp11 _
        rw [tagS_list] at ho11
        have HJ11 : Hid (Jn w w11 w5.heap.size (w.heap.size + 1) (.slice a0 s.r.length c0) (.slice a1 s.n.length c1) (.slice a2 s.b.length c2) (.slice a3 s.c.length c3) v11 (.slice a8 l8 c8) (((headTo s 3 ++ leL (56 + l8) 4) ++ leL s.c.length 4) ++ tagB 3) (pad (bodyTo s 3))) := HJ10.out.head ((Ap.refl HJ10.out.hd HJ10.out.below.size).app ho11 hg11 hp11)
        clear ho11 hg11 hp11 HJ10 t10 HTS
        have HB11 : Hid (Bs w11 (.slice a3 s.c.length c3) (s.part 3)) := (HP.out 3).later HJ11.out.below
        have HPB : Hid ((pad (bodyTo s 3)).length = l8) := by have := HPL.out; have h := body_length s 3; show _ = _; omega
        go_wp2_with (at_builtin; go_must (refine wpList_append_at rfl _ _ _ _ rfl w.heap.size 5 (.int .u8 0) 1 Try.underlying22 Try.infoU8 rfl rfl rfl HJ11.out.bd.v (HB11.out.src Try.underlying22) (by rw [u8s_length, HPB.out]; have := HL.out 3; unfold maxLen; omega) (by rw [u8s_length, HPB.out]; have := HL.out 3; omega) HJ11.out.below.size ?_))
        intro v12 w12 ho12 hg12 hp12 _
        have HJ12 : Hid (Jn w w12 w5.heap.size (w.heap.size + 1) (.slice a0 s.r.length c0) (.slice a1 s.n.length c1) (.slice a2 s.b.length c2) (.slice a3 s.c.length c3) v11 v12 (headTo s 4) (bodyTo s 4)) := by
          have := HJ11.out.body ((Ap.refl HJ11.out.bd HJ11.out.below.size).app ho12 hg12 hp12)
          rw [HPL.out, List.append_assoc, List.append_assoc] at this
          exact this
        clear ho12 hg12 hp12 HJ11 HB11
        go_wp2_with fail
        go_roundw
        case rel => exact ⟨4, by omega, rfl, HJ12.out⟩
        case measure => simp [intOf]
    · have hk4 : k = 4 := by omega
      subst hk4
      have HX : Hid (∀ v' w', OwnV w' w.heap.size 5 v' (u8s (headTo s 4) ++ u8s (bodyTo s 4)) → wr.grownBy w' u5.ownBlock → (v'.ownBlock = u5.ownBlock ∨ v'.ownBlock = some wr.heap.size) → Own w' w.heap.size 5 v' (joinB s) ∧ Below w.heap.size w w') := fun v' w' ho hg hp => by
        have ha := (Ap.refl HJ.out.hd HJ.out.below.size).app ho hg hp
        exact ⟨ha.own, (HJ.out.head ha).below⟩
      have hbl := HBL.out 4
      clear hj
      go_wp2_with (at_builtin; go_must (refine wpList_append_at rfl _ _ _ _ rfl w.heap.size 5 (.int .u8 0) 1 Try.underlying22 Try.infoU8 rfl rfl rfl HJ.out.hd.v (HJ.out.bd.bs.src Try.underlying22) (by rw [u8s_length, HHL.out]; unfold maxLen; omega) (by rw [u8s_length, HHL.out]; omega) HJ.out.below.size ?_))
      intro v1 w1 ho1 hg1 hp1 _
      obtain ⟨q1, q2⟩ := HX.out v1 w1 ho1 hg1 hp1
      clear ho1 hg1 hp1
      go_wp2_with fail
      go_ret2
      exact ⟨_, rfl, q1, q2⟩

end Go.Proofs.Ytbehcdpjpjklfaa
