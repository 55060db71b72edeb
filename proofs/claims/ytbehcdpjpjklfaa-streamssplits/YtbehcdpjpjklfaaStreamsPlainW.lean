
/- StreamsPlain: the walk of the statement's function. -/
import Derived.Test.YtbehcdpjpjklfaaRows
import Derived.Test.YtbehcdpjpjklfaaLaws3
import Derived.Test.YtbehcdpjpjklfaaOpen3
namespace Go.Proofs.Ytbehcdpjpjklfaa
set_option linter.unusedVariables false
set_option linter.unusedSimpArgs false
open Go.RowKit Go.Maps

theorem cells4 {w : World} {g : Nat} {x0 x1 x2 x3 : Value} {t : TypeId} (h : w.heap[g]? = some (Obj.cells #[x0, x1, x2, x3] t (0, 0))) : w.cell? ⟨g, 0, none⟩ = some x0 ∧ w.cell? ⟨g, 1, none⟩ = some x1 ∧ w.cell? ⟨g, 2, none⟩ = some x2 ∧ w.cell? ⟨g, 3, none⟩ = some x3 := by
  refine ⟨?_, ?_, ?_, ?_⟩ <;> simp [World.cell?, h]

set_option maxRecDepth 100000 in
set_option maxHeartbeats 1000000 in
theorem streamsPlain_walk (v : Value) (bs : List UInt8) (w : World) (hv : Bs w v bs) (hz : bs.length ≤ 140737488351232) :
    Calls Try.prog 6 #[v] w fun e w' => e = .returned (.bool true) ∧ Below w.heap.size w w' := by
  have HV : Hid (∀ W, Below w.heap.size w W → Bs W v bs) := fun W hW => hv.later hW
  obtain ⟨a, c, rfl, -⟩ := hv
  by_cases hl : 4000 < bs.length
  · go_enter Try.func6, Try.ntmps6
    go_wp2_with fail
    refine (wakes3_any w).mono ?_
    rintro e w1 ⟨rfl, hb1⟩
    have HB1 : Hid (Below w.heap.size w w1) := hb1
    clear hb1
    go_wp2_with fail
    go_ret
    exact ⟨rfl, HB1.out⟩
  · rcases split_cases bs with ⟨he, hn⟩ | ⟨st, hrun, hsp, h56, h65⟩
    · obtain ⟨p, hp⟩ : ∃ p, p = (splitR bs).2.1 := ⟨_, rfl⟩
      obtain ⟨k, hk⟩ : ∃ k, k = (splitR bs).2.2 := ⟨_, rfl⟩
      have HSP : Hid (splitR bs = (Strm.nil, p, k)) := by show _ = _; rw [hp, hk, ← hn]
      have hk' : ((k : Int) != 0) = true := by rw [bne_iff_ne]; omega
      clear he hn hp hk
      go_enter Try.func6, Try.ntmps6
      go_wp2_with fail
      refine (wakes3_any w).mono ?_
      rintro e w1 ⟨rfl, hb1⟩
      have HB1 : Hid (Below w.heap.size w w1) := hb1
      have hs1 := hb1.size
      clear hb1
      go_wp2_with fail
      refine (split_of (HV.out w1 HB1.out) HSP.out (p : Int) (k : Int) rfl rfl).mono ?_
      rintro e w2 ⟨x0, x1, x2, x3, y0, y1, y2, y3, rfl, hs2, hb2⟩
      have HS2 : Hid (Sv w2 (.agg #[.slice x0 0 y0, .slice x1 0 y1, .slice x2 0 y2, .slice x3 0 y3]) Strm.nil) := hs2
      have HB2 : Hid (Below w.heap.size w w2) := HB1.out.trans (hb2.mono hs1)
      have e0 : Strm.nil.r.length = 0 := rfl
      have e1 : Strm.nil.n.length = 0 := rfl
      have e2 : Strm.nil.b.length = 0 := rfl
      have e3 : Strm.nil.c.length = 0 := rfl
      rw [e0, e1, e2, e3]
      have hs2' := HB2.out.size
      clear hs2 hb2 e0 e1 e2 e3
      go_wp2_with fail
      refine (refSame_yes (HS2.out.later ((Below.refl _ _).alloc (Nat.le_refl _) _)) (Sv.nil _)).mono ?_
      rintro e w3 ⟨rfl, hb3⟩
      have HB3 : Hid (Below w.heap.size w w3) := (HB2.out.alloc hs2' _).trans (hb3.mono (by simp; omega))
      clear hb3
      go_wp2_with fail
      go_ret
      exact ⟨rfl, HB3.out⟩
    · have ht := told_total (run_told bs 4 st hrun)
      have HPT : Hid (∀ k, (st.s.part k).length ≤ 4000) := part_le (by simp only [tot] at ht; omega) (by simp only [tot] at ht; omega) (by simp only [tot] at ht; omega) (by simp only [tot] at ht; omega)
      have HJA : Hid ((joinB st.s).length ≤ bs.length + 9) := join_again hrun h56
      have HSP : Hid (splitR bs = (st.s, 0, 0)) := hsp
      have HSJ : Hid (splitR (joinB st.s) = (st.s, 0, 0)) := split_join (room_of HPT.out)
      generalize st.s = s at *
      clear ht hsp
      go_enter Try.func6, Try.ntmps6
      go_wp2_with fail
      refine (wakes3_any w).mono ?_
      rintro e w1 ⟨rfl, hb1⟩
      have HB1 : Hid (Below w.heap.size w w1) := hb1
      have hs1 := hb1.size
      clear hb1
      go_wp2_with fail
      refine (split_of (HV.out w1 HB1.out) HSP.out 0 0 rfl rfl).mono ?_
      rintro e w2 ⟨x0, x1, x2, x3, y0, y1, y2, y3, rfl, hs2, hb2⟩
      have HS2 : Hid (Sv w2 (.agg #[.slice x0 s.r.length y0, .slice x1 s.n.length y1, .slice x2 s.b.length y2, .slice x3 s.c.length y3]) s) := hs2
      have HB2 : Hid (Below w.heap.size w w2) := HB1.out.trans (hb2.mono hs1)
      have hs2' := HB2.out.size
      clear hs2 hb2
      generalize s.r.length = l0 at *
      generalize s.n.length = l1 at *
      generalize s.b.length = l2 at *
      generalize s.c.length = l3 at *
      go_wp2_with fail
      have hb2' : Below w2.heap.size w2 (w2.alloc (Obj.cells #[.slice x0 l0 y0, .slice x1 l1 y1, .slice x2 l2 y2, .slice x3 l3 y3] 25)) := (Below.refl _ _).alloc (Nat.le_refl _) _
      have hg2 := heap_alloc_new w2 (Obj.cells #[.slice x0 l0 y0, .slice x1 l1 y1, .slice x2 l2 y2, .slice x3 l3 y3] 25)
      refine (join_yes (Sv.later (w := w2) (s := s) HS2.out hb2') HPT.out).mono ?_
      rintro e w3 ⟨bv, rfl, ho3, hb3⟩
      simp only [World.size_alloc] at hb3
      have HO3 : Hid (Bs w3 bv (joinB s)) := ho3.bs
      have hb23 : Below w2.heap.size w2 w3 := hb2'.trans (hb3.mono (by omega))
      have HS3 : Hid (Sv w3 (.agg #[.slice x0 l0 y0, .slice x1 l1 y1, .slice x2 l2 y2, .slice x3 l3 y3]) s) := Sv.later HS2.out hb23
      have HB3 : Hid (Below w.heap.size w w3) := HB2.out.trans (hb23.mono hs2')
      have hg3 : w3.heap[w2.heap.size]? = some (Obj.cells #[.slice x0 l0 y0, .slice x1 l1 y1, .slice x2 l2 y2, .slice x3 l3 y3] 25 (0, 0)) := (hb3.block _ (by omega)).trans hg2
      obtain ⟨a3, c3, e3, -⟩ := HO3.out
      have hjl := HJA.out
      generalize hjb : (joinB s).length = lj at *
      subst e3
      have hs3 := hb3.size
      simp only [World.size_alloc] at hs3
      clear ho3 hb3 hg2 hb23 hb2' HS2
      have HJB : Hid _ := hjb
      clear hjb
      go_wp2_with fail
      refine (split_of HO3.out HSJ.out 0 0 rfl rfl).mono ?_
      rintro e w4 ⟨z0, z1, z2, z3, u0, u1, u2, u3, rfl, hs4, hb4⟩
      have HS4 : Hid (Sv w4 (.agg #[.slice z0 s.r.length u0, .slice z1 s.n.length u1, .slice z2 s.b.length u2, .slice z3 s.c.length u3]) s) := hs4
      have HS34 : Hid (Sv w4 (.agg #[.slice x0 l0 y0, .slice x1 l1 y1, .slice x2 l2 y2, .slice x3 l3 y3]) s) := Sv.later HS3.out hb4
      have HB4 : Hid (Below w.heap.size w w4) := HB3.out.trans (hb4.mono HB3.out.size)
      have hg4 := (hb4.block _ (by omega)).trans hg3
      have hs4' := HB4.out.size
      have hs34 := hb4.size
      clear hs4 hb4 hg3
      generalize s.r.length = m0 at *
      generalize s.n.length = m1 at *
      generalize s.b.length = m2 at *
      generalize s.c.length = m3 at *
      have hg5 : (w4.alloc (Obj.cells #[.slice z0 m0 u0, .slice z1 m1 u1, .slice z2 m2 u2, .slice z3 m3 u3] 25)).heap[w2.heap.size]? = some (Obj.cells #[.slice x0 l0 y0, .slice x1 l1 y1, .slice x2 l2 y2, .slice x3 l3 y3] 25 (0, 0)) := (heap_alloc_old _ _ (by omega)).trans hg4
      obtain ⟨d0, d1, d2, d3⟩ := cells4 hg5
      clear hg5 hg4
      go_wp2_with fail
      refine (refSame_yes (Sv.later (w := w4) (s := s) HS34.out ((Below.refl _ _).alloc (Nat.le_refl _) _)) (Sv.later (w := w4) (s := s) HS4.out ((Below.refl _ _).alloc (Nat.le_refl _) _))).mono ?_
      rintro e w5 ⟨rfl, hb5⟩
      have HB5 : Hid (Below w.heap.size w w5) := (HB4.out.alloc hs4' _).trans (hb5.mono (by simp; omega))
      clear hb5
      go_wp2_with fail
      go_ret
      refine ⟨ret_bool ?_, HB5.out⟩
      rw [decide_eq_true_eq]; omega

end Go.Proofs.Ytbehcdpjpjklfaa
