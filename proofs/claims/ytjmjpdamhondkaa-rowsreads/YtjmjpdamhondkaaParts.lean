
/- Streams in memory; Tag, Part, Put and Same of the references. -/
import Derived.Test.YtjmjpdamhondkaaRows
import Derived.Test.YtjmjpdamhondkaaStreamSpec
import Derived.Test.YtjmjpdamhondkaaSame
import Derived.Test.YtjmjpdamhondkaaApd
import Derived.Deep.RegionHeld3
import Derived.Deep.DrawnRows
namespace Go.Proofs.Ytjmjpdamhondkaa
set_option linter.unusedVariables false
set_option linter.unusedSimpArgs false
open Go.RowKit

/-- The value is four slices of just these streams' bytes. -/
def Sv (w : World) (v : Value) (s : Strm) : Prop := ∃ a b c d, v = .agg #[a, b, c, d] ∧ Bs w a s.r ∧ Bs w b s.n ∧ Bs w c s.b ∧ Bs w d s.c
theorem Sv.later {w w' : World} {v : Value} {s : Strm} (h : Sv w v s) (hb : Below w.heap.size w w') : Sv w' v s := by
  obtain ⟨a, b, c, d, e, h1, h2, h3, h4⟩ := h
  exact ⟨a, b, c, d, e, h1.later hb, h2.later hb, h3.later hb, h4.later hb⟩
theorem Sv.nil (w : World) : Sv w (.agg #[.slice none 0 0, .slice none 0 0, .slice none 0 0, .slice none 0 0]) Strm.nil := ⟨_, _, _, _, rfl, Bs.nil w, Bs.nil w, Bs.nil w, Bs.nil w⟩

def pickV (k : Nat) (a b c d : Value) : Value :=
  match k with
  | 0 => a
  | 1 => b
  | 2 => c
  | _ => d
theorem pickV_bs {w : World} {a b c d : Value} {s : Strm} (h1 : Bs w a s.r) (h2 : Bs w b s.n) (h3 : Bs w c s.b) (h4 : Bs w d s.c) (k : Nat) : Bs w (pickV k a b c d) (s.part k) := by
  match k with
  | 0 => exact h1
  | 1 => exact h2
  | 2 => exact h3
  | _ + 3 => exact h4

def tagS : Nat → ByteArray
  | 0 => ⟨#[82, 79, 87, 83]⟩
  | 1 => ⟨#[78, 65, 77, 69]⟩
  | 2 => ⟨#[66, 76, 79, 66]⟩
  | _ => ⟨#[67, 79, 68, 69]⟩
theorem tagS_list (k : Nat) : (tagS k).data.toList = tagB k := by
  match k with
  | 0 => rfl
  | 1 => rfl
  | 2 => rfl
  | _ + 3 => rfl

theorem four_cases {k : Nat} (h : k < 4) : k = 0 ∨ k = 1 ∨ k = 2 ∨ k = 3 := by omega

/-- The k-th of four is another one. -/
def setV (k : Nat) (v a b c d : Value) : Value :=
  match k with
  | 0 => .agg #[v, b, c, d]
  | 1 => .agg #[a, v, c, d]
  | 2 => .agg #[a, b, v, d]
  | _ => .agg #[a, b, c, v]
theorem setV_sv {w : World} {v a b c d : Value} {s : Strm} {x : List UInt8} (h1 : Bs w a s.r) (h2 : Bs w b s.n) (h3 : Bs w c s.b) (h4 : Bs w d s.c) (hv : Bs w v x) (k : Nat) : Sv w (setV k v a b c d) (s.put k x) := by
  match k with
  | 0 => exact ⟨_, _, _, _, rfl, hv, h2, h3, h4⟩
  | 1 => exact ⟨_, _, _, _, rfl, h1, hv, h3, h4⟩
  | 2 => exact ⟨_, _, _, _, rfl, h1, h2, hv, h4⟩
  | _ + 3 => exact ⟨_, _, _, _, rfl, h1, h2, h3, hv⟩

theorem below_set {B : Nat} {a w : World} (h : Below B a w) (g o : Nat) (u : Value) (hg : B ≤ g) : Below B a (w.setCell ⟨g, o, none⟩ u) :=
  h.trans ⟨rfl, rfl, rfl, by simp [World.setCell], fun k hk => Below.heap_setCell _ _ _ _ (by show k ≠ g; omega)⟩

end Go.Proofs.Ytjmjpdamhondkaa
