/-
  No cell of these rows narrows 'for every input' (looked for: loops, veiled, ifaces, maps, wideKeys, modest, calm, conditions, laid).
  DERIVED. THE GIVEN ROWS OF THIS SEAT. 6 by the template 'for every input the law returns true; each argument reads behind the call as it read before'; 0 by the template 'total and deterministic' (their statements: YtkjailahaopehaaGreatTotals.lean).
  GIVEN WITH THE SEED: the statements are not yours to turn. If you find one false, say at which input.
  Laid BY PROGRAM, IN A SANDBOX (cutbox-rows.mjs): the forced cells as the released guide's own fill.sh prints them over the translation bcd48e00b3794429… (all of the seat's roots in one cut). By AI agents, Wed Nov 11 2026. No macro, syntax, notation, axiom, sorry.
-/
import Derived.Test.YtkjailahaopehaaGreatChecked
import GoSem.Claim
import GoSem.ClaimJoined
import GoSem.ClaimMapViews
import Derived.JoinedTies
import Derived.KernelRfl
namespace Go.Proofs.YtkjailahaopehaaGreat
/- THE CELL 'sum', in the pinned program and in every row, IS THE sha256 OF THE DUMP (.gsa) THAT YtkjailahaopehaaGreatProg.lean LOADS. Nothing in Lean hashes anything: it is a label: what it is worth is what the hold of that sum in a sandbox is worth. -/
noncomputable def Tryz.pinned : Pinned := { name := "ytkjailahaopehaagreat", sum := "bcd48e00b37944290bb3f7d72e4bcd6ee1a5aac07e6a56e954988edb9d73bbae", checked := Tryz.checked }
namespace Rows
def none {H : Type} : Left H := { results := [], args := [] }

/-- 'cattlegridlaw12.LayoutCheck': WHATEVER THE INPUT: true; the input reads as it did. -/
def layoutCheckSpec : ChangeSpec := { name := "layoutCheck", fn := fun _ => fun
  | [d] => { results := [.lit (.bool true)], args := [d] }
  | _ => none }
def layoutCheckRow : OpenClaim := { program := "ytkjailahaopehaagreat", sum := "bcd48e00b37944290bb3f7d72e4bcd6ee1a5aac07e6a56e954988edb9d73bbae", func := "cattlegrid/cattlegridlaw12.LayoutCheck", spec := "layoutCheck", unfollowed := true, recurses := true, apart := false }
def LayoutCheckSaid : Prop := layoutCheckRow.holds Tryz.pinned (OpenSpec.ofChange layoutCheckSpec)

/-- ITS FALSE NEIGHBOUR: 'it returns false'. Refute it at one input. -/
def layoutCheckWrong : ChangeSpec := { name := "layoutCheck", fn := fun _ => fun
  | [d] => { results := [.lit (.bool false)], args := [d] }
  | _ => none }
def LayoutCheckWrongFalsely : Prop := layoutCheckRow.holds Tryz.pinned (OpenSpec.ofChange layoutCheckWrong)

/-- 'cattlegridlaw12.LayoutCells': WHATEVER THE INPUT: true; the input reads as it did. -/
def layoutCellsSpec : ChangeSpec := { name := "layoutCells", fn := fun _ => fun
  | [d1, d2] => { results := [.lit (.bool true)], args := [d1, d2] }
  | _ => none }
def layoutCellsRow : OpenClaim := { program := "ytkjailahaopehaagreat", sum := "bcd48e00b37944290bb3f7d72e4bcd6ee1a5aac07e6a56e954988edb9d73bbae", func := "cattlegrid/cattlegridlaw12.LayoutCells", spec := "layoutCells", unfollowed := true, recurses := true, apart := false }
def LayoutCellsSaid : Prop := layoutCellsRow.holds Tryz.pinned (OpenSpec.ofChange layoutCellsSpec)

/-- ITS FALSE NEIGHBOUR: 'it returns false'. Refute it at one input. -/
def layoutCellsWrong : ChangeSpec := { name := "layoutCells", fn := fun _ => fun
  | [d1, d2] => { results := [.lit (.bool false)], args := [d1, d2] }
  | _ => none }
def LayoutCellsWrongFalsely : Prop := layoutCellsRow.holds Tryz.pinned (OpenSpec.ofChange layoutCellsWrong)

/-- 'cattlegridlaw12.LayoutObjects': WHATEVER THE INPUT: true; the input reads as it did. -/
def layoutObjectsSpec : ChangeSpec := { name := "layoutObjects", fn := fun _ => fun
  | [d1, d2, d3] => { results := [.lit (.bool true)], args := [d1, d2, d3] }
  | _ => none }
def layoutObjectsRow : OpenClaim := { program := "ytkjailahaopehaagreat", sum := "bcd48e00b37944290bb3f7d72e4bcd6ee1a5aac07e6a56e954988edb9d73bbae", func := "cattlegrid/cattlegridlaw12.LayoutObjects", spec := "layoutObjects", unfollowed := true, recurses := true, apart := false }
def LayoutObjectsSaid : Prop := layoutObjectsRow.holds Tryz.pinned (OpenSpec.ofChange layoutObjectsSpec)

/-- ITS FALSE NEIGHBOUR: 'it returns false'. Refute it at one input. -/
def layoutObjectsWrong : ChangeSpec := { name := "layoutObjects", fn := fun _ => fun
  | [d1, d2, d3] => { results := [.lit (.bool false)], args := [d1, d2, d3] }
  | _ => none }
def LayoutObjectsWrongFalsely : Prop := layoutObjectsRow.holds Tryz.pinned (OpenSpec.ofChange layoutObjectsWrong)

/-- 'cattlegridlaw12.LayoutFull': WHATEVER THE INPUT: true; the input reads as it did. -/
def layoutFullSpec : ChangeSpec := { name := "layoutFull", fn := fun _ => fun
  | [d1, d2] => { results := [.lit (.bool true)], args := [d1, d2] }
  | _ => none }
def layoutFullRow : OpenClaim := { program := "ytkjailahaopehaagreat", sum := "bcd48e00b37944290bb3f7d72e4bcd6ee1a5aac07e6a56e954988edb9d73bbae", func := "cattlegrid/cattlegridlaw12.LayoutFull", spec := "layoutFull", unfollowed := true, recurses := true, apart := false }
def LayoutFullSaid : Prop := layoutFullRow.holds Tryz.pinned (OpenSpec.ofChange layoutFullSpec)

/-- ITS FALSE NEIGHBOUR: 'it returns false'. Refute it at one input. -/
def layoutFullWrong : ChangeSpec := { name := "layoutFull", fn := fun _ => fun
  | [d1, d2] => { results := [.lit (.bool false)], args := [d1, d2] }
  | _ => none }
def LayoutFullWrongFalsely : Prop := layoutFullRow.holds Tryz.pinned (OpenSpec.ofChange layoutFullWrong)

/-- 'cattlegridlaw12.LayoutBelow': WHATEVER THE INPUT: true; the input reads as it did. -/
def layoutBelowSpec : ChangeSpec := { name := "layoutBelow", fn := fun _ => fun
  | [d1, d2] => { results := [.lit (.bool true)], args := [d1, d2] }
  | _ => none }
def layoutBelowRow : OpenClaim := { program := "ytkjailahaopehaagreat", sum := "bcd48e00b37944290bb3f7d72e4bcd6ee1a5aac07e6a56e954988edb9d73bbae", func := "cattlegrid/cattlegridlaw12.LayoutBelow", spec := "layoutBelow", unfollowed := true, recurses := true, apart := false }
def LayoutBelowSaid : Prop := layoutBelowRow.holds Tryz.pinned (OpenSpec.ofChange layoutBelowSpec)

/-- ITS FALSE NEIGHBOUR: 'it returns false'. Refute it at one input. -/
def layoutBelowWrong : ChangeSpec := { name := "layoutBelow", fn := fun _ => fun
  | [d1, d2] => { results := [.lit (.bool false)], args := [d1, d2] }
  | _ => none }
def LayoutBelowWrongFalsely : Prop := layoutBelowRow.holds Tryz.pinned (OpenSpec.ofChange layoutBelowWrong)

/-- 'cattlegridlaw12.LayoutSum': WHATEVER THE INPUT: true; the input reads as it did. -/
def layoutSumSpec : ChangeSpec := { name := "layoutSum", fn := fun _ => fun
  | [d1, d2] => { results := [.lit (.bool true)], args := [d1, d2] }
  | _ => none }
def layoutSumRow : OpenClaim := { program := "ytkjailahaopehaagreat", sum := "bcd48e00b37944290bb3f7d72e4bcd6ee1a5aac07e6a56e954988edb9d73bbae", func := "cattlegrid/cattlegridlaw12.LayoutSum", spec := "layoutSum", unfollowed := true, recurses := true, apart := false }
def LayoutSumSaid : Prop := layoutSumRow.holds Tryz.pinned (OpenSpec.ofChange layoutSumSpec)

/-- ITS FALSE NEIGHBOUR: 'it returns false'. Refute it at one input. -/
def layoutSumWrong : ChangeSpec := { name := "layoutSum", fn := fun _ => fun
  | [d1, d2] => { results := [.lit (.bool false)], args := [d1, d2] }
  | _ => none }
def LayoutSumWrongFalsely : Prop := layoutSumRow.holds Tryz.pinned (OpenSpec.ofChange layoutSumWrong)

/- THE SECOND FORM. 'bulk': how many values and letters a reading holds, each counted each time it is reached (what is shared counts as often as it is met; a slice's spare places count too). A statement '..UptoSaid' is the law's where the arguments, and the package variables that the reading takes, are together of bulk at most 1048576: NARROWER than '..Said'. Prove '..Said' where nothing that the law and all that it calls make is longer than what came in: it says more and counts as full. Else prove '..UptoSaid'. A law counts once. -/
mutual
def uptoBulk {H : Type} : DataW H → Nat
  | .lit (.string bytes) => bytes.length + 1
  | .lit _ => 1
  | .nil => 1
  | .ptr d => uptoBulk d + 1
  | .slice elems spare => uptoBulkAll elems + uptoBulkAll spare + 1
  | .agg parts => uptoBulkAll parts + 1
  | .iface _ d => uptoBulk d + 1
  | .map entries => uptoBulkEntries entries + 1
  | .held _ => 1
def uptoBulkAll {H : Type} : List (DataW H) → Nat
  | [] => 0
  | d :: r => uptoBulk d + uptoBulkAll r
def uptoBulkEntries {H : Type} : List (Lit × DataW H) → Nat
  | [] => 0
  | x :: r => uptoBulkEntry x + uptoBulkEntries r
def uptoBulkEntry {H : Type} : Lit × DataW H → Nat
  | (.string bytes, d) => bytes.length + uptoBulk d + 1
  | (_, d) => uptoBulk d + 1
 end
def uptoSmall : (H : Type) → List (DataW H) → Bool := fun _ ds => decide (uptoBulkAll ds ≤ 1048576)
def OpenSpec.upto (s : _root_.Go.ChangeSpec) : _root_.Go.OpenSpec := { _root_.Go.OpenSpec.ofChange s with cond := some uptoSmall }

/-- 'cattlegridlaw12.LayoutCheck', WHERE WHAT IT READS IS OF BULK AT MOST 1048576: true; the input reads as it did. -/
def layoutCheckUptoRow : OpenClaim := { program := "ytkjailahaopehaagreat", sum := "bcd48e00b37944290bb3f7d72e4bcd6ee1a5aac07e6a56e954988edb9d73bbae", func := "cattlegrid/cattlegridlaw12.LayoutCheck", spec := "layoutCheck", unfollowed := true, recurses := true, apart := false, narrowed := true }
def LayoutCheckUptoSaid : Prop := layoutCheckUptoRow.holds Tryz.pinned (OpenSpec.upto layoutCheckSpec)

/-- 'cattlegridlaw12.LayoutCells', WHERE WHAT IT READS IS OF BULK AT MOST 1048576: true; the input reads as it did. -/
def layoutCellsUptoRow : OpenClaim := { program := "ytkjailahaopehaagreat", sum := "bcd48e00b37944290bb3f7d72e4bcd6ee1a5aac07e6a56e954988edb9d73bbae", func := "cattlegrid/cattlegridlaw12.LayoutCells", spec := "layoutCells", unfollowed := true, recurses := true, apart := false, narrowed := true }
def LayoutCellsUptoSaid : Prop := layoutCellsUptoRow.holds Tryz.pinned (OpenSpec.upto layoutCellsSpec)

/-- 'cattlegridlaw12.LayoutObjects', WHERE WHAT IT READS IS OF BULK AT MOST 1048576: true; the input reads as it did. -/
def layoutObjectsUptoRow : OpenClaim := { program := "ytkjailahaopehaagreat", sum := "bcd48e00b37944290bb3f7d72e4bcd6ee1a5aac07e6a56e954988edb9d73bbae", func := "cattlegrid/cattlegridlaw12.LayoutObjects", spec := "layoutObjects", unfollowed := true, recurses := true, apart := false, narrowed := true }
def LayoutObjectsUptoSaid : Prop := layoutObjectsUptoRow.holds Tryz.pinned (OpenSpec.upto layoutObjectsSpec)

/-- 'cattlegridlaw12.LayoutFull', WHERE WHAT IT READS IS OF BULK AT MOST 1048576: true; the input reads as it did. -/
def layoutFullUptoRow : OpenClaim := { program := "ytkjailahaopehaagreat", sum := "bcd48e00b37944290bb3f7d72e4bcd6ee1a5aac07e6a56e954988edb9d73bbae", func := "cattlegrid/cattlegridlaw12.LayoutFull", spec := "layoutFull", unfollowed := true, recurses := true, apart := false, narrowed := true }
def LayoutFullUptoSaid : Prop := layoutFullUptoRow.holds Tryz.pinned (OpenSpec.upto layoutFullSpec)

/-- 'cattlegridlaw12.LayoutBelow', WHERE WHAT IT READS IS OF BULK AT MOST 1048576: true; the input reads as it did. -/
def layoutBelowUptoRow : OpenClaim := { program := "ytkjailahaopehaagreat", sum := "bcd48e00b37944290bb3f7d72e4bcd6ee1a5aac07e6a56e954988edb9d73bbae", func := "cattlegrid/cattlegridlaw12.LayoutBelow", spec := "layoutBelow", unfollowed := true, recurses := true, apart := false, narrowed := true }
def LayoutBelowUptoSaid : Prop := layoutBelowUptoRow.holds Tryz.pinned (OpenSpec.upto layoutBelowSpec)

/-- 'cattlegridlaw12.LayoutSum', WHERE WHAT IT READS IS OF BULK AT MOST 1048576: true; the input reads as it did. -/
def layoutSumUptoRow : OpenClaim := { program := "ytkjailahaopehaagreat", sum := "bcd48e00b37944290bb3f7d72e4bcd6ee1a5aac07e6a56e954988edb9d73bbae", func := "cattlegrid/cattlegridlaw12.LayoutSum", spec := "layoutSum", unfollowed := true, recurses := true, apart := false, narrowed := true }
def LayoutSumUptoSaid : Prop := layoutSumUptoRow.holds Tryz.pinned (OpenSpec.upto layoutSumSpec)

end Rows
end Go.Proofs.YtkjailahaopehaaGreat
