
/- Streams in memory; Tag, Part, Put and Same of the references. -/
import Derived.Test.YtbehcdpjpjklfaaRows
import Derived.Test.YtbehcdpjpjklfaaStreamSpec
import Derived.Test.YtbehcdpjpjklfaaSame
import Derived.Test.YtbehcdpjpjklfaaApd
import Derived.Deep.RegionHeld3
import Derived.Deep.DrawnRows
namespace Go.Proofs.Ytbehcdpjpjklfaa
set_option linter.unusedVariables false
set_option linter.unusedSimpArgs false
open Go.RowKit

/-- The value is four slices of just these streams' bytes. -/
def Sv (w : World) (v : Value) (s : Strm) : Prop := ∃ a b c d, v = .agg #[a, b, c, d] ∧ Bs w a s.r ∧ Bs w b s.n ∧ Bs w c s.b ∧ Bs w d s.c
theorem Sv.later {w w' : World} {v : Value} {s : Strm} (h : Sv w v s) (hb : Below w.heap.size w w') : Sv w' v s := by
  obtain ⟨a, b, c, d, e, h1, h2, h3, h4⟩ := h
  exact ⟨a, b, c, d, e, h1.later hb, h2.later hb, h3.later hb, h4.later hb⟩
theorem Sv.nil (w : World) : Sv w (.agg #[.slice none 0 0, .slice none 0 0, .slice none 0 0, .slice none 0 0]) Strm.nil := ⟨_, _, _, _, rfl, Bs.nil w, Bs.nil w, Bs.nil w, Bs.nil w⟩

def pickV (k : Nat) (a b c d : Value) : Value :=
  match k with
  | 0 => a
  | 1 => b
  | 2 => c
  | _ => d
theorem pickV_bs {w : World} {a b c d : Value} {s : Strm} (h1 : Bs w a s.r) (h2 : Bs w b s.n) (h3 : Bs w c s.b) (h4 : Bs w d s.c) (k : Nat) : Bs w (pickV k a b c d) (s.part k) := by
  match k with
  | 0 => exact h1
  | 1 => exact h2
  | 2 => exact h3
  | _ + 3 => exact h4

def tagS : Nat → ByteArray
  | 0 => ⟨#[82, 79, 87, 83]⟩
  | 1 => ⟨#[78, 65, 77, 69]⟩
  | 2 => ⟨#[66, 76, 79, 66]⟩
  | _ => ⟨#[67, 79, 68, 69]⟩
theorem tagS_list (k : Nat) : (tagS k).data.toList = tagB k := by
  match k with
  | 0 => rfl
  | 1 => rfl
  | 2 => rfl
  | _ + 3 => rfl

theorem four_cases {k : Nat} (h : k < 4) : k = 0 ∨ k = 1 ∨ k = 2 ∨ k = 3 := by omega

theorem tag_any (k : Nat) (h : k < 4) (w : World) :
    Calls Try.prog 25 #[.int .i64 (k : Int)] w fun e w' => e = .returned (.string (tagS k)) ∧ w' = w := by
  rcases four_cases h with rfl | rfl | rfl | rfl
  all_goals
    go_enter Try.func25, Try.ntmps25
    go_wp2
    go_ret
    exact ⟨rfl, rfl⟩

theorem part_run (a0 a1 a2 a3 : Option Addr) (l0 l1 l2 l3 c0 c1 c2 c3 : Nat) (k : Nat) (h : k < 4) (w : World) :
    Calls Try.prog 27 #[.agg #[.slice a0 l0 c0, .slice a1 l1 c1, .slice a2 l2 c2, .slice a3 l3 c3], .int .i64 (k : Int)] w fun e w' =>
      e = .returned (pickV k (.slice a0 l0 c0) (.slice a1 l1 c1) (.slice a2 l2 c2) (.slice a3 l3 c3)) ∧ w' = w.alloc (Obj.cells #[.slice a0 l0 c0, .slice a1 l1 c1, .slice a2 l2 c2, .slice a3 l3 c3] 25) := by
  rcases four_cases h with rfl | rfl | rfl | rfl
  all_goals
    go_enter Try.func27, Try.ntmps27
    go_wp2
    go_ret
    exact ⟨rfl, rfl⟩

/-- The k-th of four is another one. -/
def setV (k : Nat) (v a b c d : Value) : Value :=
  match k with
  | 0 => .agg #[v, b, c, d]
  | 1 => .agg #[a, v, c, d]
  | 2 => .agg #[a, b, v, d]
  | _ => .agg #[a, b, c, v]
theorem setV_sv {w : World} {v a b c d : Value} {s : Strm} {x : List UInt8} (h1 : Bs w a s.r) (h2 : Bs w b s.n) (h3 : Bs w c s.b) (h4 : Bs w d s.c) (hv : Bs w v x) (k : Nat) : Sv w (setV k v a b c d) (s.put k x) := by
  match k with
  | 0 => exact ⟨_, _, _, _, rfl, hv, h2, h3, h4⟩
  | 1 => exact ⟨_, _, _, _, rfl, h1, hv, h3, h4⟩
  | 2 => exact ⟨_, _, _, _, rfl, h1, h2, hv, h4⟩
  | _ + 3 => exact ⟨_, _, _, _, rfl, h1, h2, h3, hv⟩

theorem below_set {B : Nat} {a w : World} (h : Below B a w) (g o : Nat) (u : Value) (hg : B ≤ g) : Below B a (w.setCell ⟨g, o, none⟩ u) :=
  h.trans ⟨rfl, rfl, rfl, by simp [World.setCell], fun k hk => Below.heap_setCell _ _ _ _ (by show k ≠ g; omega)⟩

set_option maxHeartbeats 1000000 in
theorem refPut3_run (a0 a1 a2 a3 av : Option Addr) (l0 l1 l2 l3 lv c0 c1 c2 c3 cv : Nat) (k : Nat) (h : k < 4) (w : World) :
    Calls Try.prog 26 #[.agg #[.slice a0 l0 c0, .slice a1 l1 c1, .slice a2 l2 c2, .slice a3 l3 c3], .int .i64 (k : Int), .slice av lv cv] w fun e w' =>
      e = .returned (setV k (.slice av lv cv) (.slice a0 l0 c0) (.slice a1 l1 c1) (.slice a2 l2 c2) (.slice a3 l3 c3)) ∧ Below w.heap.size w w' := by
  rcases four_cases h with rfl | rfl | rfl | rfl
  all_goals
    go_enter Try.func26, Try.ntmps26
    go_wp2
    refine bodyPost_ret (v := _) (by simp [results, Try.results26, go_sem]; rfl) rfl ⟨rfl, ?_⟩
    repeat (refine below_set ?_ _ _ _ (by simp <;> omega))
    exact ((Below.refl _ _).alloc (Nat.le_refl _) _).alloc (by simp) _

end Go.Proofs.Ytbehcdpjpjklfaa
