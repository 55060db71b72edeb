
/- StreamsCut: the walk of the statement's function. -/
import Derived.Test.YtbehcdpjpjklfaaRows
import Derived.Test.YtbehcdpjpjklfaaLaws3
import Derived.Test.YtbehcdpjpjklfaaOpen3
import Derived.Test.YtbehcdpjpjklfaaStreamsPlainW
namespace Go.Proofs.Ytbehcdpjpjklfaa
set_option linter.unusedVariables false
set_option linter.unusedSimpArgs false
open Go.RowKit Go.Maps

/-- Streams in their shapes. -/
theorem Sv.shape {w : World} {v : Value} {s : Strm} (h : Sv w v s) : ∃ x0 x1 x2 x3 y0 y1 y2 y3, v = .agg #[.slice x0 s.r.length y0, .slice x1 s.n.length y1, .slice x2 s.b.length y2, .slice x3 s.c.length y3] := by
  obtain ⟨p0, p1, p2, p3, rfl, h0, h1, h2, h3⟩ := h
  obtain ⟨a0, c0, rfl, -⟩ := h0
  obtain ⟨a1, c1, rfl, -⟩ := h1
  obtain ⟨a2, c2, rfl, -⟩ := h2
  obtain ⟨a3, c3, rfl, -⟩ := h3
  exact ⟨a0, a1, a2, a3, c0, c1, c2, c3, rfl⟩

theorem long_le {s : Strm} (h : longS s = false) : ∀ k, (s.part k).length ≤ 2000 := by
  obtain ⟨h0, h1, h2, h3⟩ := longS_no h
  exact part_le h0 h1 h2 h3

theorem seg_from (bs : List UInt8) (n : Nat) : seg bs 0 n = bs.take n := by simp [seg]

set_option maxRecDepth 100000 in
set_option maxHeartbeats 1000000 in
theorem streamsCut_walk (v : Value) (s : Strm) (n : Int) (w : World) (hv : Sv w v s) (hn : (Lit.int .u16 n).wf = true) :
    Calls Try.prog 7 #[v, .int .u16 n] w fun e w' => e = .returned (.bool true) ∧ Below w.heap.size w w' := by
  have HV : Hid (∀ W, Below w.heap.size w W → Sv W v s) := fun W hW => hv.later hW
  obtain ⟨hn0, hn1⟩ := bounds_u16 hn
  obtain ⟨x0, x1, x2, x3, y0, y1, y2, y3, rfl⟩ := hv.shape
  have hb0 : Below w.heap.size w (w.alloc (Obj.cells #[.slice x0 s.r.length y0, .slice x1 s.n.length y1, .slice x2 s.b.length y2, .slice x3 s.c.length y3] 25)) := (Below.refl _ _).alloc (Nat.le_refl _) _
  have hg0 := heap_alloc_new w (Obj.cells #[.slice x0 s.r.length y0, .slice x1 s.n.length y1, .slice x2 s.b.length y2, .slice x3 s.c.length y3] 25)
  have HB0 : Hid _ := hb0
  have HG0 : Hid _ := hg0
  clear hv hb0 hg0 hn
  cases hl : longS s with
  | true =>
    go_enter Try.func7, Try.ntmps7
    go_wp2_with fail
    refine (wakes3_any _).mono ?_
    rintro e w1 ⟨rfl, hb1⟩
    simp only [World.size_alloc] at hb1
    have HB1 : Hid (Below w.heap.size w w1) := HB0.out.trans (hb1.mono (by omega))
    obtain ⟨d0, d1, d2, d3⟩ := cells4 ((hb1.block _ (by omega)).trans HG0.out)
    have hs1 := HB1.out.size
    clear hb1
    go_wp2_with fail
    refine (long3_any (HV.out w1 HB1.out)).mono ?_
    rintro e w2 ⟨rfl, hb2⟩
    rw [hl]
    have HB2 : Hid (Below w.heap.size w w2) := HB1.out.trans (hb2.mono hs1)
    clear hb2
    go_wp2_with fail
    go_ret
    exact ⟨rfl, HB2.out⟩
  | false =>
    have HPT : Hid (∀ k, (s.part k).length ≤ 4000) := fun k => by have := long_le hl k; omega
    have HRM : Hid (Room s) := room_of HPT.out
    have HJL : Hid (56 ≤ (joinB s).length ∧ (joinB s).length ≤ 65536) := ⟨by simp only [joinB, List.length_append, head_length]; omega, HRM.out.le⟩
    go_enter Try.func7, Try.ntmps7
    go_wp2_with fail
    refine (wakes3_any _).mono ?_
    rintro e w1 ⟨rfl, hb1⟩
    simp only [World.size_alloc] at hb1
    have HB1 : Hid (Below w.heap.size w w1) := HB0.out.trans (hb1.mono (by omega))
    have HG1 : Hid (w1.heap[w.heap.size]? = some (Obj.cells #[.slice x0 s.r.length y0, .slice x1 s.n.length y1, .slice x2 s.b.length y2, .slice x3 s.c.length y3] 25 (0, 0))) := (hb1.block _ (by omega)).trans HG0.out
    obtain ⟨d0, d1, d2, d3⟩ := cells4 HG1.out
    have hs1 := HB1.out.size
    have hs1' := hb1.size
    simp only [World.size_alloc] at hs1'
    clear hb1
    go_wp2_with fail
    refine (long3_any (HV.out w1 HB1.out)).mono ?_
    rintro e w2 ⟨rfl, hb2⟩
    rw [hl]
    have HB2 : Hid (Below w.heap.size w w2) := HB1.out.trans (hb2.mono hs1)
    have HG2 : Hid (w2.heap[w.heap.size]? = some (Obj.cells #[.slice x0 s.r.length y0, .slice x1 s.n.length y1, .slice x2 s.b.length y2, .slice x3 s.c.length y3] 25 (0, 0))) := (hb2.block _ (by omega)).trans HG1.out
    obtain ⟨k0, k1, k2, k3⟩ := cells4 HG2.out
    have hs2 := HB2.out.size
    have hs2' := hb2.size
    clear hb2 d0 d1 d2 d3
    go_wp2_with fail
    refine (join_yes (HV.out w2 HB2.out) HPT.out).mono ?_
    rintro e w3 ⟨bv, rfl, ho3, hb3⟩
    have HO3 : Hid (Bs w3 bv (joinB s)) := ho3.bs
    have HB3 : Hid (Below w.heap.size w w3) := HB2.out.trans (hb3.mono hs2)
    have HG3 : Hid (w3.heap[w.heap.size]? = some (Obj.cells #[.slice x0 s.r.length y0, .slice x1 s.n.length y1, .slice x2 s.b.length y2, .slice x3 s.c.length y3] 25 (0, 0))) := (hb3.block _ (by omega)).trans HG2.out
    have hs3 := HB3.out.size
    obtain ⟨a3, c3, e3, hc3, hc4, -⟩ := HO3.out
    obtain ⟨hj1, hj2⟩ := HJL.out
    have HCT : Hid (∀ k, k < (joinB s).length → (splitR (seg (joinB s) 0 k)).2.2 = 1) := fun k hk => by rw [seg_from]; exact split_cut HRM.out k hk
    clear ho3 hb3 k0 k1 k2 k3
    obtain ⟨m, hm⟩ : ∃ m : Nat, (m : Int) = n % ((joinB s).length : Int) := ⟨(n % ((joinB s).length : Int)).toNat, by rw [Int.toNat_of_nonneg (Int.emod_nonneg _ (by omega))]⟩
    have hm1 : m < (joinB s).length := by
      have := Int.emod_lt_of_pos n (show (0 : Int) < ((joinB s).length : Int) by omega)
      omega
    have hHO := HO3.out
    rw [e3] at hHO
    obtain ⟨sa, sc, hsl, hbsl, -⟩ := slice_to (P := Try.prog) hHO m (by omega) 22 5 Try.underlying22 sizeU8
    have HCM : Hid ((splitR (seg (joinB s) 0 m)).2.2 = 1) := HCT.out m hm1
    have HBL : Hid (Bs w3 (.slice sa m sc) (seg (joinB s) 0 m)) := hbsl
    clear HCT hbsl hHO HO3
    subst e3
    generalize (joinB s).length = lj at *
    have hmt : n.tmod (lj : Int) = (m : Int) := by rw [hm, Int.tmod_eq_emod_of_nonneg hn0]
    unfold maxLen at hc4
    have HM : Hid _ := hm
    clear hm
    obtain ⟨t, p, HSP⟩ : ∃ t p, Hid (splitR (seg (joinB s) 0 m) = (t, p, 1)) := ⟨_, _, by show _ = _; rw [← HCM.out]⟩
    go_wp2_with fail
    refine (split_of HBL.out HSP.out (p : Int) 1 rfl rfl).mono ?_
    rintro e w4 ⟨z0, z1, z2, z3, u0, u1, u2, u3, rfl, hs4, hb4⟩
    have HB4 : Hid (Below w.heap.size w w4) := HB3.out.trans (hb4.mono hs3)
    have hs4' := HB4.out.size
    clear hs4 hb4
    generalize t.r.length = m0 at *
    generalize t.n.length = m1 at *
    generalize t.b.length = m2 at *
    generalize t.c.length = m3 at *
    go_wp2_with fail
    go_ret
    exact ⟨rfl, HB4.out.alloc hs4' _⟩

end Go.Proofs.Ytbehcdpjpjklfaa
