
/- StreamsJoins: the walk of the statement's function. -/
import Derived.Test.YtbehcdpjpjklfaaRows
import Derived.Test.YtbehcdpjpjklfaaStreamsCutW
import Derived.Test.YtbehcdpjpjklfaaCopied3
import Derived.Test.YtbehcdpjpjklfaaRefJoin3
namespace Go.Proofs.Ytbehcdpjpjklfaa
set_option linter.unusedVariables false
set_option linter.unusedSimpArgs false
open Go.RowKit Go.Maps

set_option maxRecDepth 100000 in
set_option maxHeartbeats 1000000 in
theorem streamsJoins_walk (v : Value) (s : Strm) (w : World) (hv : Sv w v s) :
    Calls Try.prog 4 #[v] w fun e w' => e = .returned (.bool true) ∧ Below w.heap.size w w' := by
  have HV : Hid (∀ W, Below w.heap.size w W → Sv W v s) := fun W hW => hv.later hW
  obtain ⟨x0, x1, x2, x3, y0, y1, y2, y3, rfl⟩ := hv.shape
  have hb0 : Below w.heap.size w (w.alloc (Obj.cells #[.slice x0 s.r.length y0, .slice x1 s.n.length y1, .slice x2 s.b.length y2, .slice x3 s.c.length y3] 25)) := (Below.refl _ _).alloc (Nat.le_refl _) _
  have hg0 := heap_alloc_new w (Obj.cells #[.slice x0 s.r.length y0, .slice x1 s.n.length y1, .slice x2 s.b.length y2, .slice x3 s.c.length y3] 25)
  have HB0 : Hid _ := hb0
  have HG0 : Hid _ := hg0
  clear hv hb0 hg0
  cases hl : longS s with
  | true =>
    go_enter Try.func4, Try.ntmps4
    go_wp2_with fail
    refine (wakes3_any _).mono ?_
    rintro e w1 ⟨rfl, hb1⟩
    simp only [World.size_alloc] at hb1
    have HB1 : Hid (Below w.heap.size w w1) := HB0.out.trans (hb1.mono (by omega))
    obtain ⟨d0, d1, d2, d3⟩ := cells4 ((hb1.block _ (by omega)).trans HG0.out)
    have hs1 := HB1.out.size
    clear hb1
    go_wp2_with fail
    refine (long3_any (HV.out w1 HB1.out)).mono ?_
    rintro e w2 ⟨rfl, hb2⟩
    rw [hl]
    have HB2 : Hid (Below w.heap.size w w2) := HB1.out.trans (hb2.mono hs1)
    clear hb2
    go_wp2_with fail
    go_ret
    exact ⟨rfl, HB2.out⟩
  | false =>
    have HPT : Hid (∀ k, (s.part k).length ≤ 4000) := fun k => by have := long_le hl k; omega
    have HRM : Hid (Room s) := room_of HPT.out
    have HSJ : Hid (splitR (joinB s) = (s, 0, 0)) := split_join HRM.out
    go_enter Try.func4, Try.ntmps4
    go_wp2_with fail
    refine (wakes3_any _).mono ?_
    rintro e w1 ⟨rfl, hb1⟩
    simp only [World.size_alloc] at hb1
    have HB1 : Hid (Below w.heap.size w w1) := HB0.out.trans (hb1.mono (by omega))
    have HG1 : Hid (w1.heap[w.heap.size]? = some (Obj.cells #[.slice x0 s.r.length y0, .slice x1 s.n.length y1, .slice x2 s.b.length y2, .slice x3 s.c.length y3] 25 (0, 0))) := (hb1.block _ (by omega)).trans HG0.out
    obtain ⟨d0, d1, d2, d3⟩ := cells4 HG1.out
    have hs1 := HB1.out.size
    have hs1' := hb1.size
    simp only [World.size_alloc] at hs1'
    clear hb1
    go_wp2_with fail
    refine (long3_any (HV.out w1 HB1.out)).mono ?_
    rintro e w2 ⟨rfl, hb2⟩
    rw [hl]
    have HB2 : Hid (Below w.heap.size w w2) := HB1.out.trans (hb2.mono hs1)
    have HG2 : Hid (w2.heap[w.heap.size]? = some (Obj.cells #[.slice x0 s.r.length y0, .slice x1 s.n.length y1, .slice x2 s.b.length y2, .slice x3 s.c.length y3] 25 (0, 0))) := (hb2.block _ (by omega)).trans HG1.out
    obtain ⟨k0, k1, k2, k3⟩ := cells4 HG2.out
    have hs2 := HB2.out.size
    have hs2' := hb2.size
    clear hb2 d0 d1 d2 d3
    go_wp2_with fail
    refine (copied_any (HV.out w2 HB2.out) HPT.out).mono ?_
    rintro e w3 ⟨z0, z1, z2, z3, u0, u1, u2, u3, rfl, hs3, hb3⟩
    have HS3 : Hid (Sv w3 (.agg #[.slice z0 s.r.length u0, .slice z1 s.n.length u1, .slice z2 s.b.length u2, .slice z3 s.c.length u3]) s) := hs3
    have HB3 : Hid (Below w.heap.size w w3) := HB2.out.trans (hb3.mono hs2)
    have HG3 : Hid (w3.heap[w.heap.size]? = some (Obj.cells #[.slice x0 s.r.length y0, .slice x1 s.n.length y1, .slice x2 s.b.length y2, .slice x3 s.c.length y3] 25 (0, 0))) := (hb3.block _ (by omega)).trans HG2.out
    have hz3 := HB3.out.size
    have hz3' := hb3.size
    clear hs3 hb3 k0 k1 k2 k3
    have hb3' : Below w3.heap.size w3 (w3.alloc (Obj.cells #[.slice z0 s.r.length u0, .slice z1 s.n.length u1, .slice z2 s.b.length u2, .slice z3 s.c.length u3] 25)) := (Below.refl _ _).alloc (Nat.le_refl _) _
    have hgz := heap_alloc_new w3 (Obj.cells #[.slice z0 s.r.length u0, .slice z1 s.n.length u1, .slice z2 s.b.length u2, .slice z3 s.c.length u3] 25)
    have HS3' : Hid (Sv (w3.alloc (Obj.cells #[.slice z0 s.r.length u0, .slice z1 s.n.length u1, .slice z2 s.b.length u2, .slice z3 s.c.length u3] 25)) (.agg #[.slice z0 s.r.length u0, .slice z1 s.n.length u1, .slice z2 s.b.length u2, .slice z3 s.c.length u3]) s) := Sv.later HS3.out hb3'
    have HB3' : Hid _ := hb3'
    have HGZ : Hid _ := hgz
    clear hb3' hgz
    go_wp2_with fail
    refine (join_yes (s := s) HS3'.out HPT.out).mono ?_
    rintro e w4 ⟨bv, rfl, ho4, hb4⟩
    simp only [World.size_alloc] at hb4
    have hb34 : Below w3.heap.size w3 w4 := HB3'.out.trans (hb4.mono (by omega))
    have HO4 : Hid (Bs w4 bv (joinB s)) := ho4.bs
    have HB4 : Hid (Below w.heap.size w w4) := HB3.out.trans (hb34.mono hz3)
    have HS4 : Hid (Sv w4 (.agg #[.slice z0 s.r.length u0, .slice z1 s.n.length u1, .slice z2 s.b.length u2, .slice z3 s.c.length u3]) s) := Sv.later HS3.out hb34
    have HG4 : Hid (w4.heap[w.heap.size]? = some (Obj.cells #[.slice x0 s.r.length y0, .slice x1 s.n.length y1, .slice x2 s.b.length y2, .slice x3 s.c.length y3] 25 (0, 0))) := (hb34.block _ (by omega)).trans HG3.out
    have HGZ4 : Hid (w4.heap[w3.heap.size]? = some (Obj.cells #[.slice z0 s.r.length u0, .slice z1 s.n.length u1, .slice z2 s.b.length u2, .slice z3 s.c.length u3] 25 (0, 0))) := (hb4.block _ (by omega)).trans HGZ.out
    obtain ⟨k0, k1, k2, k3⟩ := cells4 HG4.out
    have hz4 := HB4.out.size
    have hz4' := hb4.size
    simp only [World.size_alloc] at hz4'
    clear ho4 hb4 hb34
    go_wp2_with fail
    refine (refJoin_yes (HV.out w4 HB4.out) HPT.out).mono ?_
    rintro e w5 ⟨cv, rfl, ho5, hb5⟩
    have HO5 : Hid (Bs w5 cv (joinB s)) := ho5
    have HO45 : Hid (Bs w5 bv (joinB s)) := HO4.out.later hb5
    have HB5 : Hid (Below w.heap.size w w5) := HB4.out.trans (hb5.mono hz4)
    have HS5 : Hid (Sv w5 (.agg #[.slice z0 s.r.length u0, .slice z1 s.n.length u1, .slice z2 s.b.length u2, .slice z3 s.c.length u3]) s) := Sv.later HS4.out hb5
    have HG5 : Hid (w5.heap[w.heap.size]? = some (Obj.cells #[.slice x0 s.r.length y0, .slice x1 s.n.length y1, .slice x2 s.b.length y2, .slice x3 s.c.length y3] 25 (0, 0))) := (hb5.block _ (by omega)).trans HG4.out
    have HGZ5 : Hid (w5.heap[w3.heap.size]? = some (Obj.cells #[.slice z0 s.r.length u0, .slice z1 s.n.length u1, .slice z2 s.b.length u2, .slice z3 s.c.length u3] 25 (0, 0))) := (hb5.block _ (by omega)).trans HGZ4.out
    have hz5 := HB5.out.size
    clear ho5 hb5 k0 k1 k2 k3
    go_wp2_with fail
    refine (same_any HO45.out HO5.out).mono ?_
    rintro e w6 ⟨rfl, n6, rfl⟩
    have ht : decide (joinB s = joinB s) = true := by simp
    rw [ht]
    clear ht
    obtain ⟨d0, d1, d2, d3⟩ := cells4 HG5.out
    obtain ⟨t0, t1, t2, t3⟩ := cells4 HGZ5.out
    go_wp2_with fail
    refine (refSame_yes (Sv.later (w := w5) (s := s) HS5.out (Below.drewN (Below.refl _ _) n6)) (Sv.later (w := w5) (s := s) (HV.out w5 HB5.out) (Below.drewN (Below.refl _ _) n6))).mono ?_
    rintro e w7 ⟨rfl, hb7⟩
    have HB7 : Hid (Below w.heap.size w w7) := (Below.drewN HB5.out n6).trans (hb7.mono hz5)
    clear hb7
    go_wp2_with fail
    go_ret
    exact ⟨rfl, HB7.out⟩

end Go.Proofs.Ytbehcdpjpjklfaa
