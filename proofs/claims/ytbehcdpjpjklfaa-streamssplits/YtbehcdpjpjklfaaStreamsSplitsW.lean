
/- StreamsSplits: the walk of the statement's function. -/
import Derived.Test.YtbehcdpjpjklfaaRows
import Derived.Test.YtbehcdpjpjklfaaStreamsPlainW
import Derived.Test.YtbehcdpjpjklfaaRefSplit3
namespace Go.Proofs.Ytbehcdpjpjklfaa
set_option linter.unusedVariables false
set_option linter.unusedSimpArgs false
open Go.RowKit Go.Maps

set_option maxRecDepth 100000 in
set_option maxHeartbeats 1000000 in
theorem streamsSplits_walk (v : Value) (bs : List UInt8) (w : World) (hv : Bs w v bs) (hz : bs.length ≤ 140737488351232) :
    Calls Try.prog 3 #[v] w fun e w' => e = .returned (.bool true) ∧ Below w.heap.size w w' := by
  have HV : Hid (∀ W, Below w.heap.size w W → Bs W v bs) := fun W hW => hv.later hW
  obtain ⟨a, c, rfl, -⟩ := hv
  by_cases hl : 4000 < bs.length
  · go_enter Try.func3, Try.ntmps3
    go_wp2_with fail
    refine (wakes3_any w).mono ?_
    rintro e w1 ⟨rfl, hb1⟩
    have HB1 : Hid (Below w.heap.size w w1) := hb1
    clear hb1
    go_wp2_with fail
    go_ret
    exact ⟨rfl, HB1.out⟩
  · obtain ⟨s, p, k, hsp⟩ : ∃ s p k, splitR bs = (s, p, k) := ⟨_, _, _, rfl⟩
    have HSP : Hid (splitR bs = (s, p, k)) := hsp
    clear hsp
    go_enter Try.func3, Try.ntmps3
    go_wp2_with fail
    refine (wakes3_any w).mono ?_
    rintro e w1 ⟨rfl, hb1⟩
    have HB1 : Hid (Below w.heap.size w w1) := hb1
    have HV1 : Hid (Bs (w1.alloc (Obj.cells #[] 5)) (.slice a bs.length c) bs) := (HV.out w1 hb1).later ((Below.refl _ _).alloc (Nat.le_refl _) _)
    have hs1 := hb1.size
    clear hb1
    go_wp2_with (at_builtin; go_must (refine wpList_append_bs rfl _ _ _ rfl (w1.heap.size) 5 Try.underlying22 Try.infoU8 rfl rfl (Own.lit w1 w1.heap.size 5 [] #[] 0 (Nat.le_refl _) rfl rfl (by decide)) HV1.out (by simp; omega) (by simp) ?_))
    intro v2 w2 ho2 hg2
    obtain ⟨q1, q2, q3, q4⟩ := copied ho2 hg2
    have HO2 : Hid (Bs w2 v2 bs) := q1
    have HB2 : Hid (Below w.heap.size w w2) := HB1.out.trans (q2.mono hs1)
    have hs2 := HB2.out.size
    clear ho2 hg2 q1 q2 q3 q4 HV1
    obtain ⟨a2, c2, e2, -⟩ := HO2.out
    subst e2
    go_wp2_with fail
    refine (split_of HO2.out HSP.out (p : Int) (k : Int) rfl rfl).mono ?_
    rintro e w3 ⟨x0, x1, x2, x3, y0, y1, y2, y3, rfl, hs3, hb3⟩
    have HS3 : Hid (Sv w3 (.agg #[.slice x0 s.r.length y0, .slice x1 s.n.length y1, .slice x2 s.b.length y2, .slice x3 s.c.length y3]) s) := hs3
    have HB3 : Hid (Below w.heap.size w w3) := HB2.out.trans (hb3.mono hs2)
    have HO3 : Hid (Bs w3 (.slice a2 bs.length c2) bs) := HO2.out.later hb3
    have hz3 := HB3.out.size
    clear hs3 hb3
    have hb3' : Below w3.heap.size w3 (w3.alloc (Obj.cells #[.slice x0 s.r.length y0, .slice x1 s.n.length y1, .slice x2 s.b.length y2, .slice x3 s.c.length y3] 25)) := (Below.refl _ _).alloc (Nat.le_refl _) _
    have HG3 : Hid _ := heap_alloc_new w3 (Obj.cells #[.slice x0 s.r.length y0, .slice x1 s.n.length y1, .slice x2 s.b.length y2, .slice x3 s.c.length y3] 25)
    have HRS : Hid _ := refSplit_any (HV.out _ (HB3.out.trans (hb3'.mono hz3))) (by omega)
    have HB3' : Hid _ := hb3'
    clear hb3'
    go_wp2_with fail
    refine Calls.mono HRS.out ?_
    rintro e w4 ⟨⟨z0, z1, z2, z3, u0, u1, u2, u3, rfl, hs4⟩, hb4⟩
    rw [HSP.out] at hs4 ⊢
    simp only [World.size_alloc] at hb4
    have hb34 : Below w3.heap.size w3 w4 := HB3'.out.trans (hb4.mono (by omega))
    have HB4 : Hid (Below w.heap.size w w4) := HB3.out.trans (hb34.mono hz3)
    have HS4 : Hid (Sv w4 (.agg #[.slice z0 s.r.length u0, .slice z1 s.n.length u1, .slice z2 s.b.length u2, .slice z3 s.c.length u3]) s) := hs4
    have HS34 : Hid (Sv w4 (.agg #[.slice x0 s.r.length y0, .slice x1 s.n.length y1, .slice x2 s.b.length y2, .slice x3 s.c.length y3]) s) := Sv.later HS3.out hb34
    have HO4 : Hid (Bs w4 (.slice a2 bs.length c2) bs) := HO3.out.later hb34
    have hg4 : w4.heap[w3.heap.size]? = some (Obj.cells #[.slice x0 s.r.length y0, .slice x1 s.n.length y1, .slice x2 s.b.length y2, .slice x3 s.c.length y3] 25 (0, 0)) := (hb4.block _ (by omega)).trans HG3.out
    have hz4 := HB4.out.size
    have hz4' := (Array.getElem?_eq_some_iff.1 hg4).1
    clear hs4 hb4 hb34 HRS
    have hg5 : (w4.alloc (Obj.cells #[.slice z0 s.r.length u0, .slice z1 s.n.length u1, .slice z2 s.b.length u2, .slice z3 s.c.length u3, .int .i64 (p : Int), .int .i64 (k : Int)] 30)).heap[w3.heap.size]? = some (Obj.cells #[.slice x0 s.r.length y0, .slice x1 s.n.length y1, .slice x2 s.b.length y2, .slice x3 s.c.length y3] 25 (0, 0)) := (heap_alloc_old _ _ hz4').trans hg4
    have hb45 : Below w4.heap.size w4 (w4.alloc (Obj.cells #[.slice z0 s.r.length u0, .slice z1 s.n.length u1, .slice z2 s.b.length u2, .slice z3 s.c.length u3, .int .i64 (p : Int), .int .i64 (k : Int)] 30)) := (Below.refl _ _).alloc (Nat.le_refl _) _
    have hg6 := heap_alloc_new w4 (Obj.cells #[.slice z0 s.r.length u0, .slice z1 s.n.length u1, .slice z2 s.b.length u2, .slice z3 s.c.length u3, .int .i64 (p : Int), .int .i64 (k : Int)] 30)
    have HB45 : Hid _ := hb45
    have HG6 : Hid _ := hg6
    obtain ⟨d0, d1, d2, d3⟩ := cells4 hg5
    clear hg4 hg5 hb45 hg6
    go_wp2_with fail
    refine (refSame_yes (Sv.later (w := w4) (s := s) HS34.out HB45.out) (Sv.later (w := w4) (s := s) HS4.out HB45.out)).mono ?_
    rintro e w5 ⟨rfl, hb5⟩
    simp only [World.size_alloc] at hb5
    have hb5' : Below w4.heap.size w4 w5 := HB45.out.trans (hb5.mono (by omega))
    have hg7 := (hb5.block _ (by omega)).trans HG6.out
    have k4 : w5.cell? ⟨w4.heap.size, 4, none⟩ = some (.int .i64 (p : Int)) := by simp [World.cell?, hg7]
    have k5 : w5.cell? ⟨w4.heap.size, 5, none⟩ = some (.int .i64 (k : Int)) := by simp [World.cell?, hg7]
    have HB5 : Hid (Below w.heap.size w w5) := HB4.out.trans (hb5'.mono hz4)
    have HO5 : Hid (Bs w5 (.slice a2 bs.length c2) bs) := HO4.out.later hb5'
    clear hb5 hb5' hg7 d0 d1 d2 d3
    go_wp2_with fail
    refine (same_any HO5.out (HV.out w5 HB5.out)).mono ?_
    rintro e w6 ⟨rfl, n6, rfl⟩
    have ht : decide (bs = bs) = true := by simp
    rw [ht]
    clear ht
    go_wp2_with fail
    go_ret
    exact ⟨rfl, Below.drewN HB5.out n6⟩

end Go.Proofs.Ytbehcdpjpjklfaa
