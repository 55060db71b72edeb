
/- The small functions of layer 1, and what a nil reader answers: contracts over the seat's translation. -/
import Derived.Test.YtbfcdcdeohikpaaRows
import Derived.WalkKit
import Derived.WalkSpells
import Derived.WalkLawsBesides
namespace Go.Proofs.Ytbfcdcdeohikpaa
set_option linter.unusedVariables false
set_option linter.unusedSimpArgs false
open Go.RowKit

def wideB (n : Int) : Bool := n == 1 || n == 2 || n == 4 || n == 8
def sizeI (n : Int) : Int := if n < 0 then 0 else if 536870911 < n then 0 else if n ≤ 127 then 1 else if n ≤ 16383 then 2 else 4
def markI (n : Int) : Int := if n = 2 then 128 else if n = 4 then 192 else 0
def wantI (c : Int) : Int := if c < 128 then 1 else if c < 192 then 2 else if c < 224 then 4 else 0

theorem ret_bool {a b : Bool} (h : a = b) : Ending.returned (.bool a) = .returned (.bool b) := by rw [h]
theorem ret_int {k : IntKind} {a b : Int} (h : a = b) : Ending.returned (.int k a) = .returned (.int k b) := by rw [h]
theorem ret_int2 {k l : IntKind} {a b c d : Int} (h : a = b) (g : c = d) : Ending.returned (.tuple #[.int k a, .int l c]) = .returned (.tuple #[.int k b, .int l d]) := by rw [h, g]

end Go.Proofs.Ytbfcdcdeohikpaa
