
/- What appends have made of a row of bytes of the call's own. -/
import Derived.Test.YtjmjpdamhondkaaApd
namespace Go.Proofs.Ytjmjpdamhondkaa
set_option linter.unusedVariables false
set_option linter.unusedSimpArgs false
open Go.RowKit

/-- What an append, or some of them, have made of a row. -/
structure Ap (w0 w : World) (base : Nat) (v0 v : Value) (xs : List UInt8) : Prop where
  own : Own w base 5 v xs
  grown : w0.grownBy w v0.ownBlock
  place : v.ownBlock = v0.ownBlock ∨ ∃ k, v.ownBlock = some k ∧ w0.heap.size ≤ k
  top : base ≤ w.heap.size

theorem Ap.refl {w : World} {base : Nat} {v : Value} {xs : List UInt8} (h : Own w base 5 v xs) (hb : base ≤ w.heap.size) : Ap w w base v v xs := ⟨h, ⟨rfl, rfl, rfl, Nat.le_refl _, fun _ _ _ => rfl⟩, .inl rfl, hb⟩
theorem Ap.later {w0 w w' : World} {base : Nat} {v0 v : Value} {xs : List UInt8} (h : Ap w0 w base v0 v xs) (hb : Below w.heap.size w w') : Ap w0 w' base v0 v xs :=
  ⟨h.own.later hb, ⟨hb.os.trans h.grown.os, hb.tape.trans h.grown.tape, hb.output.trans h.grown.output, Nat.le_trans h.grown.size hb.size, fun k hk hr => (hb.block k (Nat.lt_of_lt_of_le hk h.grown.size)).trans (h.grown.block k hk hr)⟩, h.place, Nat.le_trans h.top hb.size⟩
theorem Ap.app {w0 w w1 : World} {base : Nat} {v0 v v1 : Value} {xs ys : List UInt8} (h : Ap w0 w base v0 v xs) (ho : OwnV w1 base 5 v1 (u8s xs ++ u8s ys)) (hg : w.grownBy w1 v.ownBlock) (hp : v1.ownBlock = v.ownBlock ∨ v1.ownBlock = some w.heap.size) : Ap w0 w1 base v0 v1 (xs ++ ys) := by
  refine ⟨by rw [← u8s_append] at ho; exact ho.own, ⟨hg.os.trans h.grown.os, hg.tape.trans h.grown.tape, hg.output.trans h.grown.output, Nat.le_trans h.grown.size hg.size, fun k hk hr => (hg.block k (Nat.lt_of_lt_of_le hk h.grown.size) ?_).trans (h.grown.block k hk hr)⟩, ?_, Nat.le_trans h.top hg.size⟩
  · rcases h.place with e | ⟨j, e, hj⟩
    · rw [e]; exact hr
    · rw [e]; intro ee; simp at ee; omega
  · rcases hp with e | e
    · rw [e]; exact h.place
    · exact .inr ⟨_, e, h.grown.size⟩
theorem Ap.below {w0 w : World} {base B : Nat} {v0 v : Value} {xs : List UInt8} (h : Ap w0 w base v0 v xs) (h0 : ∀ k, v0.ownBlock = some k → B ≤ k) (hs : B ≤ w0.heap.size) : Below B w0 w :=
  ⟨h.grown.os, h.grown.tape, h.grown.output, h.grown.size, fun k hk => h.grown.block k (by omega) fun e => by have := h0 k e.symm; omega⟩

def lenV : Value → Nat
  | .slice _ l _ => l
  | _ => 0
theorem Ap.shape {w0 w : World} {base : Nat} {v0 v : Value} {xs : List UInt8} (h : Ap w0 w base v0 v xs) : ∃ a c, v = .slice a xs.length c ∧ xs.length ≤ c ∧ c ≤ maxLen := by
  obtain ⟨a, c, e, h1, h2, _⟩ := h.own.bs
  exact ⟨a, c, e, h1, h2⟩

end Go.Proofs.Ytjmjpdamhondkaa
