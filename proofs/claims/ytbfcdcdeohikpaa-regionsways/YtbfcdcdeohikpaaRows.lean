/-
  No cell of these rows narrows 'for every input' (looked for: loops, veiled, ifaces, maps, wideKeys, modest, calm, conditions, laid).
  DERIVED. THE GIVEN ROWS OF THIS SEAT. 5 by the template 'for every input the law returns true; each argument reads behind the call as it read before'; 0 by the template 'total and deterministic' (their statements: YtbfcdcdeohikpaaTotals.lean).
  GIVEN WITH THE SEED: the statements are not yours to turn. If you find one false, say at which input.
  Laid BY PROGRAM, IN A SANDBOX (cutbox-rows.mjs): the forced cells as the released guide's own fill.sh prints them over the translation 151ca06e4acc4ea7… (all of the seat's roots in one cut). By AI agents, Wed Nov 11 2026. No macro, syntax, notation, axiom, sorry.
-/
import Derived.Test.YtbfcdcdeohikpaaChecked
import GoSem.Claim
import GoSem.ClaimJoined
import GoSem.ClaimMapViews
import Derived.JoinedTies
import Derived.KernelRfl
namespace Go.Proofs.Ytbfcdcdeohikpaa
/- THE CELL 'sum', in the pinned program and in every row, IS THE sha256 OF THE DUMP (.gsa) THAT YtbfcdcdeohikpaaProg.lean LOADS. Nothing in Lean hashes anything: it is a label: what it is worth is what the hold of that sum in a sandbox is worth. -/
noncomputable def Try.pinned : Pinned := { name := "ytbfcdcdeohikpaa", sum := "151ca06e4acc4ea7098b2a0091165cf0fa65a8a6768768e17ef9d442465d9dbe", checked := Try.checked }
namespace Rows
def none {H : Type} : Left H := { results := [], args := [] }

/-- 'cattlegridlaw09.RegionsCheck': WHATEVER THE INPUT: true; the input reads as it did. -/
def regionsCheckSpec : ChangeSpec := { name := "regionsCheck", fn := fun _ => fun
  | [d1, d2] => { results := [.lit (.bool true)], args := [d1, d2] }
  | _ => none }
def regionsCheckRow : OpenClaim := { program := "ytbfcdcdeohikpaa", sum := "151ca06e4acc4ea7098b2a0091165cf0fa65a8a6768768e17ef9d442465d9dbe", func := "cattlegrid/cattlegridlaw09.RegionsCheck", spec := "regionsCheck", unfollowed := true, recurses := true, apart := false }
def RegionsCheckSaid : Prop := regionsCheckRow.holds Try.pinned (OpenSpec.ofChange regionsCheckSpec)

/-- ITS FALSE NEIGHBOUR: 'it returns false'. Refute it at one input. -/
def regionsCheckWrong : ChangeSpec := { name := "regionsCheck", fn := fun _ => fun
  | [d1, d2] => { results := [.lit (.bool false)], args := [d1, d2] }
  | _ => none }
def RegionsCheckWrongFalsely : Prop := regionsCheckRow.holds Try.pinned (OpenSpec.ofChange regionsCheckWrong)

/-- 'cattlegridlaw09.RegionsChain': WHATEVER THE INPUT: true; the input reads as it did. -/
def regionsChainSpec : ChangeSpec := { name := "regionsChain", fn := fun _ => fun
  | [d1, d2] => { results := [.lit (.bool true)], args := [d1, d2] }
  | _ => none }
def regionsChainRow : OpenClaim := { program := "ytbfcdcdeohikpaa", sum := "151ca06e4acc4ea7098b2a0091165cf0fa65a8a6768768e17ef9d442465d9dbe", func := "cattlegrid/cattlegridlaw09.RegionsChain", spec := "regionsChain", unfollowed := true, recurses := true, apart := false }
def RegionsChainSaid : Prop := regionsChainRow.holds Try.pinned (OpenSpec.ofChange regionsChainSpec)

/-- ITS FALSE NEIGHBOUR: 'it returns false'. Refute it at one input. -/
def regionsChainWrong : ChangeSpec := { name := "regionsChain", fn := fun _ => fun
  | [d1, d2] => { results := [.lit (.bool false)], args := [d1, d2] }
  | _ => none }
def RegionsChainWrongFalsely : Prop := regionsChainRow.holds Try.pinned (OpenSpec.ofChange regionsChainWrong)

/-- 'cattlegridlaw09.RegionsWays': WHATEVER THE INPUT: true; the input reads as it did. -/
def regionsWaysSpec : ChangeSpec := { name := "regionsWays", fn := fun _ => fun
  | [d1, d2] => { results := [.lit (.bool true)], args := [d1, d2] }
  | _ => none }
def regionsWaysRow : OpenClaim := { program := "ytbfcdcdeohikpaa", sum := "151ca06e4acc4ea7098b2a0091165cf0fa65a8a6768768e17ef9d442465d9dbe", func := "cattlegrid/cattlegridlaw09.RegionsWays", spec := "regionsWays", unfollowed := true, recurses := true, apart := false }
def RegionsWaysSaid : Prop := regionsWaysRow.holds Try.pinned (OpenSpec.ofChange regionsWaysSpec)

/-- ITS FALSE NEIGHBOUR: 'it returns false'. Refute it at one input. -/
def regionsWaysWrong : ChangeSpec := { name := "regionsWays", fn := fun _ => fun
  | [d1, d2] => { results := [.lit (.bool false)], args := [d1, d2] }
  | _ => none }
def RegionsWaysWrongFalsely : Prop := regionsWaysRow.holds Try.pinned (OpenSpec.ofChange regionsWaysWrong)

/-- 'cattlegridlaw09.RegionsStay': WHATEVER THE INPUT: true; the input reads as it did. -/
def regionsStaySpec : ChangeSpec := { name := "regionsStay", fn := fun _ => fun
  | [d1, d2] => { results := [.lit (.bool true)], args := [d1, d2] }
  | _ => none }
def regionsStayRow : OpenClaim := { program := "ytbfcdcdeohikpaa", sum := "151ca06e4acc4ea7098b2a0091165cf0fa65a8a6768768e17ef9d442465d9dbe", func := "cattlegrid/cattlegridlaw09.RegionsStay", spec := "regionsStay", unfollowed := true, recurses := true, apart := false }
def RegionsStaySaid : Prop := regionsStayRow.holds Try.pinned (OpenSpec.ofChange regionsStaySpec)

/-- ITS FALSE NEIGHBOUR: 'it returns false'. Refute it at one input. -/
def regionsStayWrong : ChangeSpec := { name := "regionsStay", fn := fun _ => fun
  | [d1, d2] => { results := [.lit (.bool false)], args := [d1, d2] }
  | _ => none }
def RegionsStayWrongFalsely : Prop := regionsStayRow.holds Try.pinned (OpenSpec.ofChange regionsStayWrong)

/-- 'cattlegridlaw09.RegionsLess': WHATEVER THE INPUT: true; the input reads as it did. -/
def regionsLessSpec : ChangeSpec := { name := "regionsLess", fn := fun _ => fun
  | [d1, d2, d3] => { results := [.lit (.bool true)], args := [d1, d2, d3] }
  | _ => none }
def regionsLessRow : OpenClaim := { program := "ytbfcdcdeohikpaa", sum := "151ca06e4acc4ea7098b2a0091165cf0fa65a8a6768768e17ef9d442465d9dbe", func := "cattlegrid/cattlegridlaw09.RegionsLess", spec := "regionsLess", unfollowed := true, recurses := true, apart := false }
def RegionsLessSaid : Prop := regionsLessRow.holds Try.pinned (OpenSpec.ofChange regionsLessSpec)

/-- ITS FALSE NEIGHBOUR: 'it returns false'. Refute it at one input. -/
def regionsLessWrong : ChangeSpec := { name := "regionsLess", fn := fun _ => fun
  | [d1, d2, d3] => { results := [.lit (.bool false)], args := [d1, d2, d3] }
  | _ => none }
def RegionsLessWrongFalsely : Prop := regionsLessRow.holds Try.pinned (OpenSpec.ofChange regionsLessWrong)

/- THE SECOND FORM. 'bulk': how many values and letters a reading holds, each counted each time it is reached (what is shared counts as often as it is met; a slice's spare places count too). A statement '..UptoSaid' is the law's where the arguments, and the package variables that the reading takes, are together of bulk at most 1048576: NARROWER than '..Said'. Prove '..Said' where nothing that the law and all that it calls make is longer than what came in: it says more and counts as full. Else prove '..UptoSaid'. A law counts once. -/
mutual
def uptoBulk {H : Type} : DataW H → Nat
  | .lit (.string bytes) => bytes.length + 1
  | .lit _ => 1
  | .nil => 1
  | .ptr d => uptoBulk d + 1
  | .slice elems spare => uptoBulkAll elems + uptoBulkAll spare + 1
  | .agg parts => uptoBulkAll parts + 1
  | .iface _ d => uptoBulk d + 1
  | .map entries => uptoBulkEntries entries + 1
  | .held _ => 1
def uptoBulkAll {H : Type} : List (DataW H) → Nat
  | [] => 0
  | d :: r => uptoBulk d + uptoBulkAll r
def uptoBulkEntries {H : Type} : List (Lit × DataW H) → Nat
  | [] => 0
  | x :: r => uptoBulkEntry x + uptoBulkEntries r
def uptoBulkEntry {H : Type} : Lit × DataW H → Nat
  | (.string bytes, d) => bytes.length + uptoBulk d + 1
  | (_, d) => uptoBulk d + 1
 end
def uptoSmall : (H : Type) → List (DataW H) → Bool := fun _ ds => decide (uptoBulkAll ds ≤ 1048576)
def OpenSpec.upto (s : _root_.Go.ChangeSpec) : _root_.Go.OpenSpec := { _root_.Go.OpenSpec.ofChange s with cond := some uptoSmall }

/-- 'cattlegridlaw09.RegionsCheck', WHERE WHAT IT READS IS OF BULK AT MOST 1048576: true; the input reads as it did. -/
def regionsCheckUptoRow : OpenClaim := { program := "ytbfcdcdeohikpaa", sum := "151ca06e4acc4ea7098b2a0091165cf0fa65a8a6768768e17ef9d442465d9dbe", func := "cattlegrid/cattlegridlaw09.RegionsCheck", spec := "regionsCheck", unfollowed := true, recurses := true, apart := false, narrowed := true }
def RegionsCheckUptoSaid : Prop := regionsCheckUptoRow.holds Try.pinned (OpenSpec.upto regionsCheckSpec)

/-- 'cattlegridlaw09.RegionsChain', WHERE WHAT IT READS IS OF BULK AT MOST 1048576: true; the input reads as it did. -/
def regionsChainUptoRow : OpenClaim := { program := "ytbfcdcdeohikpaa", sum := "151ca06e4acc4ea7098b2a0091165cf0fa65a8a6768768e17ef9d442465d9dbe", func := "cattlegrid/cattlegridlaw09.RegionsChain", spec := "regionsChain", unfollowed := true, recurses := true, apart := false, narrowed := true }
def RegionsChainUptoSaid : Prop := regionsChainUptoRow.holds Try.pinned (OpenSpec.upto regionsChainSpec)

/-- 'cattlegridlaw09.RegionsWays', WHERE WHAT IT READS IS OF BULK AT MOST 1048576: true; the input reads as it did. -/
def regionsWaysUptoRow : OpenClaim := { program := "ytbfcdcdeohikpaa", sum := "151ca06e4acc4ea7098b2a0091165cf0fa65a8a6768768e17ef9d442465d9dbe", func := "cattlegrid/cattlegridlaw09.RegionsWays", spec := "regionsWays", unfollowed := true, recurses := true, apart := false, narrowed := true }
def RegionsWaysUptoSaid : Prop := regionsWaysUptoRow.holds Try.pinned (OpenSpec.upto regionsWaysSpec)

/-- 'cattlegridlaw09.RegionsStay', WHERE WHAT IT READS IS OF BULK AT MOST 1048576: true; the input reads as it did. -/
def regionsStayUptoRow : OpenClaim := { program := "ytbfcdcdeohikpaa", sum := "151ca06e4acc4ea7098b2a0091165cf0fa65a8a6768768e17ef9d442465d9dbe", func := "cattlegrid/cattlegridlaw09.RegionsStay", spec := "regionsStay", unfollowed := true, recurses := true, apart := false, narrowed := true }
def RegionsStayUptoSaid : Prop := regionsStayUptoRow.holds Try.pinned (OpenSpec.upto regionsStaySpec)

/-- 'cattlegridlaw09.RegionsLess', WHERE WHAT IT READS IS OF BULK AT MOST 1048576: true; the input reads as it did. -/
def regionsLessUptoRow : OpenClaim := { program := "ytbfcdcdeohikpaa", sum := "151ca06e4acc4ea7098b2a0091165cf0fa65a8a6768768e17ef9d442465d9dbe", func := "cattlegrid/cattlegridlaw09.RegionsLess", spec := "regionsLess", unfollowed := true, recurses := true, apart := false, narrowed := true }
def RegionsLessUptoSaid : Prop := regionsLessUptoRow.holds Try.pinned (OpenSpec.upto regionsLessSpec)

end Rows
end Go.Proofs.Ytbfcdcdeohikpaa
