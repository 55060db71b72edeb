
/- Split as the statements use it; the example of layer 3's statements. -/
import Derived.Test.YtbehcdpjpjklfaaRows
import Derived.Test.YtbehcdpjpjklfaaSplit3
import Derived.Test.YtbehcdpjpjklfaaJoin3
import Derived.Test.YtbehcdpjpjklfaaRefSame3
import Derived.Test.YtbehcdpjpjklfaaStreamPlain
namespace Go.Proofs.Ytbehcdpjpjklfaa
set_option linter.unusedVariables false
set_option linter.unusedSimpArgs false
open Go.RowKit Go.Maps

theorem split_any {v : Value} {bs : List UInt8} {w : World} (hv : Bs w v bs) :
    Calls Try.prog 10 #[v] w fun e w' => ∃ sv, e = .returned (.tuple #[sv, .int .i64 ((splitR bs).2.1 : Int), .int .i64 ((splitR bs).2.2 : Int)]) ∧ Sv w' sv (splitR bs).1 ∧ Below w.heap.size w w' := by
  by_cases h1 : 65536 < bs.length
  · exact split_far hv (.inl h1)
  · by_cases h2 : bs.length < 56
    · exact split_far hv (.inr h2)
    · exact split_near hv h1 h2

/-- Split, where it is known what it answers. -/
theorem split_of {v : Value} {bs : List UInt8} {w : World} {s : Strm} {p c : Nat} (hv : Bs w v bs) (h : splitR bs = (s, p, c)) (x y : Int) (hx : x = p) (hy : y = c) :
    Calls Try.prog 10 #[v] w fun e w' => ∃ x0 x1 x2 x3 y0 y1 y2 y3, e = .returned (.tuple #[.agg #[.slice x0 s.r.length y0, .slice x1 s.n.length y1, .slice x2 s.b.length y2, .slice x3 s.c.length y3], .int .i64 x, .int .i64 y]) ∧ Sv w' (.agg #[.slice x0 s.r.length y0, .slice x1 s.n.length y1, .slice x2 s.b.length y2, .slice x3 s.c.length y3]) s ∧ Below w.heap.size w w' := by
  refine (split_any hv).mono ?_
  rw [h]
  rintro e w' ⟨sv, rfl, hs, hb⟩
  have hs' := hs
  obtain ⟨p0, p1, p2, p3, rfl, h0, h1, h2, h3⟩ := hs
  obtain ⟨a0, c0, rfl, -⟩ := h0
  obtain ⟨a1, c1, rfl, -⟩ := h1
  obtain ⟨a2, c2, rfl, -⟩ := h2
  obtain ⟨a3, c3, rfl, -⟩ := h3
  subst hx hy
  exact ⟨a0, a1, a2, a3, c0, c1, c2, c3, rfl, hs', hb⟩

theorem room_of {s : Strm} (h : ∀ k, (s.part k).length ≤ 4000) : Room s := by
  refine ⟨?_⟩
  have := body_le s h 4
  simp only [joinB, List.length_append, head_length]
  omega
theorem part_le {s : Strm} {n : Nat} (h0 : s.r.length ≤ n) (h1 : s.n.length ≤ n) (h2 : s.b.length ≤ n) (h3 : s.c.length ≤ n) : ∀ k, (s.part k).length ≤ n := fun k => by
  match k with
  | 0 => exact h0
  | 1 => exact h1
  | 2 => exact h2
  | _ + 3 => exact h3

set_option maxRecDepth 100000 in
set_option maxHeartbeats 1000000 in
theorem wakes3_any (w : World) :
    Calls Try.prog 9 #[] w fun e w' => e = .returned (.bool true) ∧ Below w.heap.size w w' := by
  have hn : ∀ k, (Strm.nil.part k).length ≤ 4000 := fun k => by
    match k with
    | 0 => simp [Strm.part, Strm.nil]
    | 1 => simp [Strm.part, Strm.nil]
    | 2 => simp [Strm.part, Strm.nil]
    | _ + 3 => simp [Strm.part, Strm.nil]
  have HN : Hid _ := hn
  have HSJ : Hid (splitR (joinB Strm.nil) = (Strm.nil, 0, 0)) := split_join (room_of hn)
  have HJL : Hid ((joinB Strm.nil).length = 56) := by show _ = _; decide
  clear hn
  go_enter Try.func9, Try.ntmps9
  go_wp2_with fail
  refine (join_yes (Sv.nil w) HN.out).mono ?_
  rintro e w1 ⟨bv, rfl, ho1, hb1⟩
  have HO1 : Hid (Own w1 w.heap.size 5 bv (joinB Strm.nil)) := ho1
  have HB1 : Hid (Below w.heap.size w w1) := hb1
  have hs1 := hb1.size
  obtain ⟨a, c, e1, -⟩ := ho1.bs
  rw [HJL.out] at e1
  subst e1
  clear ho1 hb1
  go_wp2_with fail
  refine (split_of HO1.out.bs HSJ.out 0 0 rfl rfl).mono ?_
  rintro e w2 ⟨x0, x1, x2, x3, y0, y1, y2, y3, rfl, hs2, hb2⟩
  have HS2 : Hid (Sv w2 (.agg #[.slice x0 0 y0, .slice x1 0 y1, .slice x2 0 y2, .slice x3 0 y3]) Strm.nil) := hs2
  have HB2 : Hid (Below w.heap.size w w2) := HB1.out.trans (hb2.mono hs1)
  have e0 : Strm.nil.r.length = 0 := rfl
  have e1 : Strm.nil.n.length = 0 := rfl
  have e2 : Strm.nil.b.length = 0 := rfl
  have e3 : Strm.nil.c.length = 0 := rfl
  rw [e0, e1, e2, e3]
  have hs2' := HB2.out.size
  clear hs2 hb2 e0 e1 e2 e3
  go_wp2_with fail
  refine (refSame_yes (HS2.out.later ((Below.refl _ _).alloc (Nat.le_refl _) _)) (Sv.nil _)).mono ?_
  rintro e w3 ⟨rfl, hb3⟩
  have HB3 : Hid (Below w.heap.size w w3) := (HB2.out.alloc hs2' _).trans (hb3.mono (by simp; omega))
  clear hb3
  go_wp2_with fail
  go_ret
  exact ⟨rfl, HB3.out⟩

end Go.Proofs.Ytbehcdpjpjklfaa
