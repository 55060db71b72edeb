
/- StreamsGaps: the walk of the statement's function. -/
import Derived.Test.YtbehcdpjpjklfaaRows
import Derived.Test.YtbehcdpjpjklfaaStreamsCutW
namespace Go.Proofs.Ytbehcdpjpjklfaa
set_option linter.unusedVariables false
set_option linter.unusedSimpArgs false
open Go.RowKit Go.Maps

/-- Where the statement stands ahead of the i-th stream. -/
def eI (s : Strm) : Nat → Nat
  | 0 => 56
  | i + 1 => plc s i + (s.part i).length
theorem eI_up (s : Strm) (i : Nat) : up4 (eI s i) = plc s i := by
  cases i with
  | zero => simp [up4, eI, plc]
  | succ i => rfl

/-- The byte is in no stream so far. -/
def Out (s : Strm) (k i : Nat) : Prop := ∀ j, j < i → ¬ (plc s j ≤ k ∧ k < plc s j + (s.part j).length)
theorem Out.next {s : Strm} {k i : Nat} (h : Out s k i) (hn : ¬ (plc s i ≤ k ∧ k < plc s i + (s.part i).length)) : Out s k (i + 1) := fun j hj => by
  by_cases e : j = i
  · subst e; exact hn
  · exact h j (by omega)

theorem seg_set (l : List UInt8) (k : Nat) (y : UInt8) (p n : Nat) (h : ¬ (p ≤ k ∧ k < p + n)) : seg (l.set k y) p n = seg l p n := by
  unfold seg
  by_cases hk : k < p
  · rw [List.drop_set_of_lt hk]
  · rw [List.drop_set, if_neg hk, List.take_set_of_le (by omega)]

theorem gap_set {s : Strm} (h : Room s) (k : Nat) (y : UInt8) (h56 : 56 ≤ k) (ho : Out s k 4) : splitR ((joinB s).set k y) = (s, 0, 0) :=
  split_gaps h _ (by simp) (by simpa using h.le) (List.take_set_of_le h56) fun i hi => seg_set _ _ _ _ _ (ho i hi)
theorem gap_more {s : Strm} (h : Room s) (y : UInt8) (hl : (joinB s).length < 65536) (h56 : 56 ≤ (joinB s).length) : splitR (joinB s ++ [y]) = (s, 0, 0) := by
  refine split_gaps h _ (by simp) (by simp; omega) (List.take_append_of_le_length h56) fun i hi => ?_
  obtain ⟨a, c, h1, h2⟩ := join_part s i hi
  refine seg_pre _ _ _ _ ?_
  rw [h1]; simp; omega

theorem own_set {w : World} {base : Nat} {g n c : Nat} {xs : List UInt8} (h : Own w base 5 (.slice (some ⟨g, 0, none⟩) n c) xs) (k : Nat) (y : UInt8) (x : Int) (hx : x = (y.toNat : Int)) : Own (w.setCell ⟨g, k, none⟩ (.int .u8 x)) base 5 (.slice (some ⟨g, 0, none⟩) n c) (xs.set k y) := by
  subst hx
  obtain ⟨h1, h2⟩ := h
  refine ⟨by simp [u8s_length], ?_⟩
  rcases h2 with ⟨e, _⟩ | ⟨g', cap, cur, e, hg, hh, hn, hm, hs, ht⟩
  · cases e
  · simp only [Value.slice.injEq, Option.some.injEq, Addr.mk.injEq] at e
    obtain ⟨⟨rfl, _⟩, rfl, rfl⟩ := e
    refine .inr ⟨g, c, cur.setIfInBounds k (.int .u8 (y.toNat : Int)), by simp, hg, ?_, by simpa using hn, hm, by simpa using hs, ?_⟩
    · rw [setCell_eq_setRow w g k _ _ _ _ hh]; exact setRow_heap w g _ _ _ _ hh
    · rw [List.length_set, Array.toList_setIfInBounds, List.take_set, ht]
      simp [u8s, List.map_set]

theorem own_block {w : World} {base : Nat} {v : Value} {xs : List UInt8} (h : Own w base 5 v xs) (hne : xs ≠ []) : ∃ g c, v = .slice (some ⟨g, 0, none⟩) xs.length c ∧ base ≤ g ∧ g < w.heap.size ∧ (∀ k, w.frozen? ⟨g, k, none⟩ = false) ∧ ∀ i (hi : i < xs.length), w.cell? ⟨g, i, none⟩ = some (.int .u8 (xs[i].toNat : Int)) := by
  obtain ⟨a, c, e, _, _, h3⟩ := h.bs
  rcases h.2 with ⟨e', h0⟩ | ⟨g, cap, cur, e', hg, hh, hn, hm, hs, ht⟩
  · exact absurd (List.eq_nil_of_length_eq_zero h0) hne
  · refine ⟨g, cap, e', hg, (Array.getElem?_eq_some_iff.1 hh).1, fun k => by simp [World.frozen?, hh], fun i hi => ?_⟩
    have : (cur.toList.take (xs.length * 1))[i]? = some (.int .u8 (xs[i].toNat : Int)) := by rw [ht]; exact u8s_get xs i hi
    simp only [World.cell?, hh]
    rw [List.getElem?_take, if_pos (by omega)] at this
    simpa using this

theorem xor_u8 (x y : Int) : ∃ b : UInt8, bits .xor .u8 x y = (b.toNat : Int) := by
  have h : 0 ≤ bits .xor .u8 x y ∧ bits .xor .u8 x y < 256 := by
    obtain ⟨z, hz⟩ : ∃ z, bits .xor .u8 x y = IntKind.u8.wrap z := ⟨_, rfl⟩
    rw [hz, IntKind.wrap_u8]; omega
  exact ⟨UInt8.ofNat (bits .xor .u8 x y).toNat, by simp; omega⟩

theorem Try.infoSl : (Try.prog.info? 22).map (·.size) = some 1 := by kernel_rfl
/-- 'a[k]' of an array of four slices. -/
theorem run_index4 (x0 x1 x2 x3 : Option Addr) (l0 l1 l2 l3 y0 y1 y2 y3 : Nat) (k : Nat) (hk : k < 4) (x : Int) (hx : x = k) (W : World) :
    (Instr.index 43 (.agg #[.slice x0 l0 y0, .slice x1 l1 y1, .slice x2 l2 y2, .slice x3 l3 y3]) (.int .i64 x)).run Try.prog W = .ok (pickV k (.slice x0 l0 y0) (.slice x1 l1 y1) (.slice x2 l2 y2) (.slice x3 l3 y3)) W := by
  subst hx
  have hq := Try.infoSl
  cases hi : Try.prog.info? 22 with
  | none => simp [hi] at hq
  | some i =>
    have hs : i.size = 1 := by simpa [hi] using hq
    rcases four_cases hk with rfl | rfl | rfl | rfl <;> simp [Instr.index, run_underlying Try.underlying43, run_underlying Try.underlying22, asIntOf, part, isAgg, sizeOf, typeInfo, hi, hs, pickV]

set_option maxRecDepth 100000 in
set_option maxHeartbeats 2000000 in
theorem streamsGaps_walk (v : Value) (s : Strm) (n y : Int) (w : World) (hv : Sv w v s) (hn : (Lit.int .u16 n).wf = true) (hy : (Lit.int .u8 y).wf = true) :
    Calls Try.prog 8 #[v, .int .u16 n, .int .u8 y] w fun e w' => e = .returned (.bool true) ∧ Below w.heap.size w w' := by
  have HV : Hid (∀ W, Below w.heap.size w W → Sv W v s) := fun W hW => hv.later hW
  obtain ⟨hn0, hn1⟩ := bounds_u16 hn
  obtain ⟨hy0, hy1⟩ := bounds_u8 hy
  obtain ⟨x0, x1, x2, x3, y0, y1, y2, y3, rfl⟩ := hv.shape
  have hb0 : Below w.heap.size w (w.alloc (Obj.cells #[.slice x0 s.r.length y0, .slice x1 s.n.length y1, .slice x2 s.b.length y2, .slice x3 s.c.length y3] 25)) := (Below.refl _ _).alloc (Nat.le_refl _) _
  have hg0 := heap_alloc_new w (Obj.cells #[.slice x0 s.r.length y0, .slice x1 s.n.length y1, .slice x2 s.b.length y2, .slice x3 s.c.length y3] 25)
  have HB0 : Hid _ := hb0
  have HG0 : Hid _ := hg0
  clear hv hb0 hg0 hn hy
  cases hl : longS s with
  | true =>
    go_enter Try.func8, Try.ntmps8
    go_wp2_with fail
    refine (wakes3_any _).mono ?_
    rintro e w1 ⟨rfl, hb1⟩
    simp only [World.size_alloc] at hb1
    have HB1 : Hid (Below w.heap.size w w1) := HB0.out.trans (hb1.mono (by omega))
    obtain ⟨d0, d1, d2, d3⟩ := cells4 ((hb1.block _ (by omega)).trans HG0.out)
    have hs1 := HB1.out.size
    clear hb1
    go_wp2_with fail
    refine (long3_any (HV.out w1 HB1.out)).mono ?_
    rintro e w2 ⟨rfl, hb2⟩
    rw [hl]
    have HB2 : Hid (Below w.heap.size w w2) := HB1.out.trans (hb2.mono hs1)
    clear hb2
    go_wp2_with fail
    go_ret
    exact ⟨rfl, HB2.out⟩
  | false =>
    have HPT2 : Hid (∀ k, (s.part k).length ≤ 2000) := long_le hl
    have HPT : Hid (∀ k, (s.part k).length ≤ 4000) := fun k => by have := long_le hl k; omega
    have HRM : Hid (Room s) := room_of HPT.out
    have HJL : Hid (56 ≤ (joinB s).length ∧ (joinB s).length ≤ 56 + 16012) := ⟨by simp only [joinB, List.length_append, head_length]; omega, by have := body_le s HPT.out 4; simp only [joinB, List.length_append, head_length]; omega⟩
    have HPB : Hid (∀ i, i < 4 → plc s i + (s.part i).length ≤ (joinB s).length) := fun i hi => by
      obtain ⟨a, c, h1, h2⟩ := join_part s i hi
      rw [h1]; simp; omega
    go_enter Try.func8, Try.ntmps8
    go_wp2_with fail
    refine (wakes3_any _).mono ?_
    rintro e w1 ⟨rfl, hb1⟩
    simp only [World.size_alloc] at hb1
    have HB1 : Hid (Below w.heap.size w w1) := HB0.out.trans (hb1.mono (by omega))
    have HG1 : Hid (w1.heap[w.heap.size]? = some (Obj.cells #[.slice x0 s.r.length y0, .slice x1 s.n.length y1, .slice x2 s.b.length y2, .slice x3 s.c.length y3] 25 (0, 0))) := (hb1.block _ (by omega)).trans HG0.out
    obtain ⟨d0, d1, d2, d3⟩ := cells4 HG1.out
    have hs1 := HB1.out.size
    have hs1' := hb1.size
    simp only [World.size_alloc] at hs1'
    clear hb1
    go_wp2_with fail
    refine (long3_any (HV.out w1 HB1.out)).mono ?_
    rintro e w2 ⟨rfl, hb2⟩
    rw [hl]
    have HB2 : Hid (Below w.heap.size w w2) := HB1.out.trans (hb2.mono hs1)
    have HG2 : Hid (w2.heap[w.heap.size]? = some (Obj.cells #[.slice x0 s.r.length y0, .slice x1 s.n.length y1, .slice x2 s.b.length y2, .slice x3 s.c.length y3] 25 (0, 0))) := (hb2.block _ (by omega)).trans HG1.out
    obtain ⟨k0, k1, k2, k3⟩ := cells4 HG2.out
    have hs2 := HB2.out.size
    have hs2' := hb2.size
    clear hb2 d0 d1 d2 d3
    go_wp2_with fail
    refine (join_yes (HV.out w2 HB2.out) HPT.out).mono ?_
    rintro e w3 ⟨bv, rfl, ho3, hb3⟩
    have HO3 : Hid (Own w3 w2.heap.size 5 bv (joinB s)) := ho3
    have HB3 : Hid (Below w.heap.size w w3) := HB2.out.trans (hb3.mono hs2)
    have HG3 : Hid (w3.heap[w.heap.size]? = some (Obj.cells #[.slice x0 s.r.length y0, .slice x1 s.n.length y1, .slice x2 s.b.length y2, .slice x3 s.c.length y3] 25 (0, 0))) := (hb3.block _ (by omega)).trans HG2.out
    have hs3 := HB3.out.size
    have hs3' := hb3.size
    obtain ⟨g, c3, e3, hgl, hgt, hfz, hce⟩ := own_block ho3 (by intro e; have := HJL.out.1; rw [e] at this; simp at this)
    obtain ⟨hj1, hj2⟩ := HJL.out
    obtain ⟨k0, k1, k2, k3⟩ := cells4 HG3.out
    have HCE : Hid (∀ i (hi : i < (joinB s).length), w3.cell? ⟨g, i, none⟩ = some (.int .u8 ((joinB s)[i].toNat : Int))) := hce
    have HFZ : Hid (∀ k, w3.frozen? ⟨g, k, none⟩ = false) := hfz
    clear ho3 hb3 hce hfz
    obtain ⟨m, hm⟩ : ∃ m : Nat, (m : Int) = n % (((joinB s).length : Int) - 55) := ⟨(n % (((joinB s).length : Int) - 55)).toNat, by rw [Int.toNat_of_nonneg (Int.emod_nonneg _ (by omega))]⟩
    have hm1 : m + 55 < (joinB s).length := by
      have := Int.emod_lt_of_pos n (show (0 : Int) < ((joinB s).length : Int) - 55 by omega)
      omega
    obtain ⟨lj, hlj⟩ : ∃ l, l = (joinB s).length := ⟨_, rfl⟩
    have HLJ : Hid ((joinB s).length = lj) := hlj.symm
    rw [← hlj] at e3 hj1 hj2 hm hm1
    subst e3
    clear hlj
    have hmt : n.tmod ((lj : Int) - 55) = (m : Int) := by rw [hm, Int.tmod_eq_emod_of_nonneg hn0]
    have HM : Hid _ := hm
    by_cases hkl : lj ≤ 56 + m
    · obtain ⟨by', rfl⟩ : ∃ b : UInt8, y = (b.toNat : Int) := ⟨UInt8.ofNat y.toNat, by simp; omega⟩
      have HSP : Hid (splitR (joinB s ++ [by']) = (s, 0, 0)) := gap_more HRM.out by' (by rw [HLJ.out]; omega) (by rw [HLJ.out]; omega)
      have HO4 : Hid (Own (w3.alloc (Obj.cells #[.int .u8 (by'.toNat : Int)] 5)) w2.heap.size 5 (.slice (some ⟨g, 0, none⟩) lj c3) (joinB s)) := HO3.out.later ((Below.refl _ _).alloc (Nat.le_refl _) _)
      clear hm k0 k1 k2 k3
      go_wp2_with (at_builtin; go_must (refine wpList_append_at rfl _ _ _ _ rfl w2.heap.size 5 (.int .u8 0) 1 Try.underlying22 Try.infoU8 rfl rfl rfl HO4.out.v (one_src0 Try.underlying22 _ _ _ _ (by simp) rfl) (by rw [u8s_length, HLJ.out]; unfold maxLen; omega) (by rw [u8s_length, HLJ.out]; omega) (by simp; omega) ?_))
      intro v4 w4 ho4 hg4 _ _
      have ho4' : OwnV w4 w2.heap.size 5 v4 (u8s (joinB s ++ [by'])) := by rw [u8s_append]; exact ho4
      have HBB : Hid (Bs w4 v4 (joinB s ++ [by'])) := ho4'.own.bs
      have HB4 : Hid (Below w.heap.size w w4) := (HB3.out.alloc hs3 _).trans ⟨hg4.os, hg4.tape, hg4.output, hg4.size, fun k hk => hg4.block k (by simp; omega) fun e => by simp [Value.ownBlock] at e; omega⟩
      have HG4 : Hid (w4.heap[w.heap.size]? = some (Obj.cells #[.slice x0 s.r.length y0, .slice x1 s.n.length y1, .slice x2 s.b.length y2, .slice x3 s.c.length y3] 25 (0, 0))) := (hg4.block _ (by simp; omega) fun e => by simp [Value.ownBlock] at e; omega).trans ((heap_alloc_old _ _ (by omega)).trans HG3.out)
      have hs4 := HB4.out.size
      have hs4' : w.heap.size < w4.heap.size := (Array.getElem?_eq_some_iff.1 HG4.out).1
      clear ho4 hg4 ho4' HO4
      go_wp2_with fail
      refine (split_of HBB.out HSP.out 0 0 rfl rfl).mono ?_
      rintro e w5 ⟨z0, z1, z2, z3, u0, u1, u2, u3, rfl, hs5, hb5⟩
      have HS5 : Hid (Sv w5 (.agg #[.slice z0 s.r.length u0, .slice z1 s.n.length u1, .slice z2 s.b.length u2, .slice z3 s.c.length u3]) s) := hs5
      have HB5 : Hid (Below w.heap.size w w5) := HB4.out.trans (hb5.mono HB4.out.size)
      have hg5 : w5.heap[w.heap.size]? = some (Obj.cells #[.slice x0 s.r.length y0, .slice x1 s.n.length y1, .slice x2 s.b.length y2, .slice x3 s.c.length y3] 25 (0, 0)) := (hb5.block _ (by omega)).trans HG4.out
      have hs5' := HB5.out.size
      have hs45 := hb5.size
      have hg6 : (w5.alloc (Obj.cells #[.slice z0 s.r.length u0, .slice z1 s.n.length u1, .slice z2 s.b.length u2, .slice z3 s.c.length u3] 25)).heap[w.heap.size]? = some (Obj.cells #[.slice x0 s.r.length y0, .slice x1 s.n.length y1, .slice x2 s.b.length y2, .slice x3 s.c.length y3] 25 (0, 0)) := (heap_alloc_old _ _ (by omega)).trans hg5
      obtain ⟨d0, d1, d2, d3⟩ := cells4 hg6
      have HSX : Hid (Sv w5 (.agg #[.slice x0 s.r.length y0, .slice x1 s.n.length y1, .slice x2 s.b.length y2, .slice x3 s.c.length y3]) s) := HV.out w5 HB5.out
      clear hs5 hb5 hg5 hg6
      go_wp2_with fail
      refine (refSame_yes (Sv.later (w := w5) (s := s) HSX.out ((Below.refl _ _).alloc (Nat.le_refl _) _)) (Sv.later (w := w5) (s := s) HS5.out ((Below.refl _ _).alloc (Nat.le_refl _) _))).mono ?_
      rintro e w6 ⟨rfl, hb6⟩
      have HB6 : Hid (Below w.heap.size w w6) := (HB5.out.alloc hs5' _).trans (hb6.mono (by simp; omega))
      clear hb6
      go_wp2_with fail
      go_ret
      exact ⟨rfl, HB6.out⟩
    · clear hm
      go_wp2_with fail
      go_loopw [10, 52] (fun at_ i wr => ∃ j : Nat, j ≤ 4 ∧ i = .int .i64 j ∧ at_ = .int .i64 (eI s j : Int) ∧ wr = w3 ∧ Out s (56 + m) j) (fun _ i _ => 4 - (intOf i).toNat)
      case atStart => exact ⟨0, by omega, rfl, rfl, rfl, fun j hj => by omega⟩
      case round =>
        obtain ⟨j, hj, rfl, rfl, rfl, hou⟩ := hrel
        have HOU : Hid (Out s (56 + m) j) := hou
        clear hou
        by_cases hlt : j < 4
        · rcases four_cases hlt with rfl | rfl | rfl | rfl
          · have hix := run_index4 x0 x1 x2 x3 s.r.length s.n.length s.b.length s.c.length y0 y1 y2 y3 0 (by omega) 0 rfl
            simp only [pickV] at hix
            have hup : up4 (eI s 0) = plc s 0 := eI_up s 0
            have hnx : eI s 1 = plc s 0 + s.r.length := rfl
            have hq : ((eI s 0 : Int) + 3) / 4 * 4 = (plc s 0 : Int) := by unfold up4 at hup; omega
            have hlK : s.r.length ≤ 2000 := HPT2.out 0
            have hpb : plc s 0 + s.r.length ≤ (joinB s).length := HPB.out 0 (by omega)
            rw [HLJ.out] at hpb
            have HNX : Hid (Out s (56 + m) 0 → ¬ (plc s 0 ≤ 56 + m ∧ 56 + m < plc s 0 + s.r.length) → Out s (56 + m) 1) := fun h h' => h.next h'
            have hle : eI s 0 ≤ plc s 0 := by rw [← hup]; exact (up4_le _).1
            generalize hpp : plc s 0 = pp at *
            have HNE : Hid (eI s 1 = pp + s.r.length) := hnx
            clear hnx
            generalize eI s 0 = e0 at *
            clear hup hpp
            by_cases hin : pp ≤ 56 + m ∧ 56 + m < pp + s.r.length
            · obtain ⟨i1, i2⟩ := hin
              go_wp2_with fail
              go_ret
              exact ⟨rfl, HB3.out⟩
            · have HO : Hid (Out s (56 + m) 1) := HNX.out HOU.out hin
              by_cases i1 : pp ≤ 56 + m
              · have i2 : ¬ (56 + m < pp + s.r.length) := fun h => hin ⟨i1, h⟩
                clear hin
                go_wp2_with fail
                go_roundw
                case rel => exact ⟨1, by omega, by simp, by rw [HNE.out]; simp, by simp, HO.out⟩
                case measure => simp [intOf]
              · clear hin
                go_wp2_with fail
                go_roundw
                case rel => exact ⟨1, by omega, by simp, by rw [HNE.out]; simp, by simp, HO.out⟩
                case measure => simp [intOf]
          · have hix := run_index4 x0 x1 x2 x3 s.r.length s.n.length s.b.length s.c.length y0 y1 y2 y3 1 (by omega) 1 rfl
            simp only [pickV] at hix
            have hup : up4 (eI s 1) = plc s 1 := eI_up s 1
            have hnx : eI s 2 = plc s 1 + s.n.length := rfl
            have hq : ((eI s 1 : Int) + 3) / 4 * 4 = (plc s 1 : Int) := by unfold up4 at hup; omega
            have hlK : s.n.length ≤ 2000 := HPT2.out 1
            have hpb : plc s 1 + s.n.length ≤ (joinB s).length := HPB.out 1 (by omega)
            rw [HLJ.out] at hpb
            have HNX : Hid (Out s (56 + m) 1 → ¬ (plc s 1 ≤ 56 + m ∧ 56 + m < plc s 1 + s.n.length) → Out s (56 + m) 2) := fun h h' => h.next h'
            have hle : eI s 1 ≤ plc s 1 := by rw [← hup]; exact (up4_le _).1
            generalize hpp : plc s 1 = pp at *
            have HNE : Hid (eI s 2 = pp + s.n.length) := hnx
            clear hnx
            generalize eI s 1 = e0 at *
            clear hup hpp
            by_cases hin : pp ≤ 56 + m ∧ 56 + m < pp + s.n.length
            · obtain ⟨i1, i2⟩ := hin
              go_wp2_with fail
              go_ret
              exact ⟨rfl, HB3.out⟩
            · have HO : Hid (Out s (56 + m) 2) := HNX.out HOU.out hin
              by_cases i1 : pp ≤ 56 + m
              · have i2 : ¬ (56 + m < pp + s.n.length) := fun h => hin ⟨i1, h⟩
                clear hin
                go_wp2_with fail
                go_roundw
                case rel => exact ⟨2, by omega, by simp, by rw [HNE.out]; simp, by simp, HO.out⟩
                case measure => simp [intOf]
              · clear hin
                go_wp2_with fail
                go_roundw
                case rel => exact ⟨2, by omega, by simp, by rw [HNE.out]; simp, by simp, HO.out⟩
                case measure => simp [intOf]
          · have hix := run_index4 x0 x1 x2 x3 s.r.length s.n.length s.b.length s.c.length y0 y1 y2 y3 2 (by omega) 2 rfl
            simp only [pickV] at hix
            have hup : up4 (eI s 2) = plc s 2 := eI_up s 2
            have hnx : eI s 3 = plc s 2 + s.b.length := rfl
            have hq : ((eI s 2 : Int) + 3) / 4 * 4 = (plc s 2 : Int) := by unfold up4 at hup; omega
            have hlK : s.b.length ≤ 2000 := HPT2.out 2
            have hpb : plc s 2 + s.b.length ≤ (joinB s).length := HPB.out 2 (by omega)
            rw [HLJ.out] at hpb
            have HNX : Hid (Out s (56 + m) 2 → ¬ (plc s 2 ≤ 56 + m ∧ 56 + m < plc s 2 + s.b.length) → Out s (56 + m) 3) := fun h h' => h.next h'
            have hle : eI s 2 ≤ plc s 2 := by rw [← hup]; exact (up4_le _).1
            generalize hpp : plc s 2 = pp at *
            have HNE : Hid (eI s 3 = pp + s.b.length) := hnx
            clear hnx
            generalize eI s 2 = e0 at *
            clear hup hpp
            by_cases hin : pp ≤ 56 + m ∧ 56 + m < pp + s.b.length
            · obtain ⟨i1, i2⟩ := hin
              go_wp2_with fail
              go_ret
              exact ⟨rfl, HB3.out⟩
            · have HO : Hid (Out s (56 + m) 3) := HNX.out HOU.out hin
              by_cases i1 : pp ≤ 56 + m
              · have i2 : ¬ (56 + m < pp + s.b.length) := fun h => hin ⟨i1, h⟩
                clear hin
                go_wp2_with fail
                go_roundw
                case rel => exact ⟨3, by omega, by simp, by rw [HNE.out]; simp, by simp, HO.out⟩
                case measure => simp [intOf]
              · clear hin
                go_wp2_with fail
                go_roundw
                case rel => exact ⟨3, by omega, by simp, by rw [HNE.out]; simp, by simp, HO.out⟩
                case measure => simp [intOf]
          · have hix := run_index4 x0 x1 x2 x3 s.r.length s.n.length s.b.length s.c.length y0 y1 y2 y3 3 (by omega) 3 rfl
            simp only [pickV] at hix
            have hup : up4 (eI s 3) = plc s 3 := eI_up s 3
            have hnx : eI s 4 = plc s 3 + s.c.length := rfl
            have hq : ((eI s 3 : Int) + 3) / 4 * 4 = (plc s 3 : Int) := by unfold up4 at hup; omega
            have hlK : s.c.length ≤ 2000 := HPT2.out 3
            have hpb : plc s 3 + s.c.length ≤ (joinB s).length := HPB.out 3 (by omega)
            rw [HLJ.out] at hpb
            have HNX : Hid (Out s (56 + m) 3 → ¬ (plc s 3 ≤ 56 + m ∧ 56 + m < plc s 3 + s.c.length) → Out s (56 + m) 4) := fun h h' => h.next h'
            have hle : eI s 3 ≤ plc s 3 := by rw [← hup]; exact (up4_le _).1
            generalize hpp : plc s 3 = pp at *
            have HNE : Hid (eI s 4 = pp + s.c.length) := hnx
            clear hnx
            generalize eI s 3 = e0 at *
            clear hup hpp
            by_cases hin : pp ≤ 56 + m ∧ 56 + m < pp + s.c.length
            · obtain ⟨i1, i2⟩ := hin
              go_wp2_with fail
              go_ret
              exact ⟨rfl, HB3.out⟩
            · have HO : Hid (Out s (56 + m) 4) := HNX.out HOU.out hin
              by_cases i1 : pp ≤ 56 + m
              · have i2 : ¬ (56 + m < pp + s.c.length) := fun h => hin ⟨i1, h⟩
                clear hin
                go_wp2_with fail
                go_roundw
                case rel => exact ⟨4, by omega, by simp, by rw [HNE.out]; simp, by simp, HO.out⟩
                case measure => simp [intOf]
              · clear hin
                go_wp2_with fail
                go_roundw
                case rel => exact ⟨4, by omega, by simp, by rw [HNE.out]; simp, by simp, HO.out⟩
                case measure => simp [intOf]
        · have hj4 : j = 4 := by omega
          subst hj4
          have hkk : 56 + m < (joinB s).length := by rw [HLJ.out]; omega
          have hcell := HCE.out (56 + m) hkk
          have hfz := HFZ.out (56 + m)
          have hbx := (joinB s)[56 + m].toNat_lt
          generalize (joinB s)[56 + m].toNat = xb at *
          obtain ⟨yb, hyb⟩ := xor_u8 (xb : Int) y
          have HSP : Hid (splitR ((joinB s).set (56 + m) yb) = (s, 0, 0)) := gap_set HRM.out (56 + m) yb (by omega) HOU.out
          have HBB : Hid (Bs (wr.setCell ⟨g, 56 + m, none⟩ (.int .u8 (bits .xor .u8 (xb : Int) y))) (.slice (some ⟨g, 0, none⟩) lj c3) ((joinB s).set (56 + m) yb)) := (own_set HO3.out (56 + m) yb _ hyb).bs
          have hon : Only g wr (wr.setCell ⟨g, 56 + m, none⟩ (.int .u8 (bits .xor .u8 (xb : Int) y))) := (Only.refl _ _).setCell _ _
          have HB4 : Hid (Below w.heap.size w (wr.setCell ⟨g, 56 + m, none⟩ (.int .u8 (bits .xor .u8 (xb : Int) y)))) := HB3.out.trans (hon.below (by omega) (by omega))
          have HG4 : Hid ((wr.setCell ⟨g, 56 + m, none⟩ (.int .u8 (bits .xor .u8 (xb : Int) y))).heap[w.heap.size]? = some (Obj.cells #[.slice x0 s.r.length y0, .slice x1 s.n.length y1, .slice x2 s.b.length y2, .slice x3 s.c.length y3] 25 (0, 0))) := (hon.block _ (by omega) (by omega)).trans HG3.out
          have hs4 := HB4.out.size
          have hs4' : w.heap.size < (wr.setCell ⟨g, 56 + m, none⟩ (.int .u8 (bits .xor .u8 (xb : Int) y))).heap.size := (Array.getElem?_eq_some_iff.1 HG4.out).1
          have HYB : Hid _ := hyb
          clear hyb hon k0 k1 k2 k3
          go_wp2_with fail
          generalize wr.setCell ⟨g, 56 + m, none⟩ (.int .u8 (bits .xor .u8 (xb : Int) y)) = w4 at *
          refine (split_of HBB.out HSP.out 0 0 rfl rfl).mono ?_
          rintro e w5 ⟨z0, z1, z2, z3, u0, u1, u2, u3, rfl, hs5, hb5⟩
          have HS5 : Hid (Sv w5 (.agg #[.slice z0 s.r.length u0, .slice z1 s.n.length u1, .slice z2 s.b.length u2, .slice z3 s.c.length u3]) s) := hs5
          have HB5 : Hid (Below w.heap.size w w5) := HB4.out.trans (hb5.mono HB4.out.size)
          have hg5 : w5.heap[w.heap.size]? = some (Obj.cells #[.slice x0 s.r.length y0, .slice x1 s.n.length y1, .slice x2 s.b.length y2, .slice x3 s.c.length y3] 25 (0, 0)) := (hb5.block _ (by omega)).trans HG4.out
          have hs5' := HB5.out.size
          have hs45 := hb5.size
          have hg6 : (w5.alloc (Obj.cells #[.slice z0 s.r.length u0, .slice z1 s.n.length u1, .slice z2 s.b.length u2, .slice z3 s.c.length u3] 25)).heap[w.heap.size]? = some (Obj.cells #[.slice x0 s.r.length y0, .slice x1 s.n.length y1, .slice x2 s.b.length y2, .slice x3 s.c.length y3] 25 (0, 0)) := (heap_alloc_old _ _ (by omega)).trans hg5
          obtain ⟨d0, d1, d2, d3⟩ := cells4 hg6
          have HSX : Hid (Sv w5 (.agg #[.slice x0 s.r.length y0, .slice x1 s.n.length y1, .slice x2 s.b.length y2, .slice x3 s.c.length y3]) s) := HV.out w5 HB5.out
          clear hs5 hb5 hg5 hg6
          go_wp2_with fail
          refine (refSame_yes (Sv.later (w := w5) (s := s) HSX.out ((Below.refl _ _).alloc (Nat.le_refl _) _)) (Sv.later (w := w5) (s := s) HS5.out ((Below.refl _ _).alloc (Nat.le_refl _) _))).mono ?_
          rintro e w6 ⟨rfl, hb6⟩
          have HB6 : Hid (Below w.heap.size w w6) := (HB5.out.alloc hs5' _).trans (hb6.mono (by simp; omega))
          clear hb6
          go_wp2_with fail
          go_ret
          exact ⟨rfl, HB6.out⟩

end Go.Proofs.Ytbehcdpjpjklfaa
