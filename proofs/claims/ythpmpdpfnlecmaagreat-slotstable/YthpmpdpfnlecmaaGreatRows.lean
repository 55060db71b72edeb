/-
  No cell of these rows narrows 'for every input' (looked for: loops, veiled, ifaces, maps, wideKeys, modest, calm, conditions, laid).
  DERIVED. THE GIVEN ROWS OF THIS SEAT. 6 by the template 'for every input the law returns true; each argument reads behind the call as it read before'; 0 by the template 'total and deterministic' (their statements: YthpmpdpfnlecmaaGreatTotals.lean).
  GIVEN WITH THE SEED: the statements are not yours to turn. If you find one false, say at which input.
  Laid BY PROGRAM, IN A SANDBOX (cutbox-rows.mjs): the forced cells as the released guide's own fill.sh prints them over the translation 49c48260c67ee0f3… (all of the seat's roots in one cut). By AI agents, Wed Nov 11 2026. No macro, syntax, notation, axiom, sorry.
-/
import Derived.Test.YthpmpdpfnlecmaaGreatChecked
import GoSem.Claim
import GoSem.ClaimJoined
import GoSem.ClaimMapViews
import Derived.JoinedTies
import Derived.KernelRfl
namespace Go.Proofs.YthpmpdpfnlecmaaGreat
/- THE CELL 'sum', in the pinned program and in every row, IS THE sha256 OF THE DUMP (.gsa) THAT YthpmpdpfnlecmaaGreatProg.lean LOADS. Nothing in Lean hashes anything: it is a label: what it is worth is what the hold of that sum in a sandbox is worth. -/
noncomputable def Tryz.pinned : Pinned := { name := "ythpmpdpfnlecmaagreat", sum := "49c48260c67ee0f35f3b6889e7f0ca6f4e6a56f538fc0caac645948a7dcfa39b", checked := Tryz.checked }
namespace Rows
def none {H : Type} : Left H := { results := [], args := [] }

/-- 'cattlegridlaw11.TreeOrder': WHATEVER THE INPUT: true; the input reads as it did. -/
def treeOrderSpec : ChangeSpec := { name := "treeOrder", fn := fun _ => fun
  | [d1, d2, d3] => { results := [.lit (.bool true)], args := [d1, d2, d3] }
  | _ => none }
def treeOrderRow : OpenClaim := { program := "ythpmpdpfnlecmaagreat", sum := "49c48260c67ee0f35f3b6889e7f0ca6f4e6a56f538fc0caac645948a7dcfa39b", func := "cattlegrid/cattlegridlaw11.TreeOrder", spec := "treeOrder", unfollowed := true, recurses := true, plainKeys := false, apart := false }
def TreeOrderSaid : Prop := treeOrderRow.holds Tryz.pinned (OpenSpec.ofChange treeOrderSpec)

/-- ITS FALSE NEIGHBOUR: 'it returns false'. Refute it at one input. -/
def treeOrderWrong : ChangeSpec := { name := "treeOrder", fn := fun _ => fun
  | [d1, d2, d3] => { results := [.lit (.bool false)], args := [d1, d2, d3] }
  | _ => none }
def TreeOrderWrongFalsely : Prop := treeOrderRow.holds Tryz.pinned (OpenSpec.ofChange treeOrderWrong)

/-- 'cattlegridlaw11.TreeEnds': WHATEVER THE INPUT: true; the input reads as it did. -/
def treeEndsSpec : ChangeSpec := { name := "treeEnds", fn := fun _ => fun
  | [d1, d2] => { results := [.lit (.bool true)], args := [d1, d2] }
  | _ => none }
def treeEndsRow : OpenClaim := { program := "ythpmpdpfnlecmaagreat", sum := "49c48260c67ee0f35f3b6889e7f0ca6f4e6a56f538fc0caac645948a7dcfa39b", func := "cattlegrid/cattlegridlaw11.TreeEnds", spec := "treeEnds", unfollowed := true, recurses := true, plainKeys := false, apart := false }
def TreeEndsSaid : Prop := treeEndsRow.holds Tryz.pinned (OpenSpec.ofChange treeEndsSpec)

/-- ITS FALSE NEIGHBOUR: 'it returns false'. Refute it at one input. -/
def treeEndsWrong : ChangeSpec := { name := "treeEnds", fn := fun _ => fun
  | [d1, d2] => { results := [.lit (.bool false)], args := [d1, d2] }
  | _ => none }
def TreeEndsWrongFalsely : Prop := treeEndsRow.holds Tryz.pinned (OpenSpec.ofChange treeEndsWrong)

/-- 'cattlegridlaw11.TreeRest': WHATEVER THE INPUT: true; the input reads as it did. -/
def treeRestSpec : ChangeSpec := { name := "treeRest", fn := fun _ => fun
  | [d1, d2] => { results := [.lit (.bool true)], args := [d1, d2] }
  | _ => none }
def treeRestRow : OpenClaim := { program := "ythpmpdpfnlecmaagreat", sum := "49c48260c67ee0f35f3b6889e7f0ca6f4e6a56f538fc0caac645948a7dcfa39b", func := "cattlegrid/cattlegridlaw11.TreeRest", spec := "treeRest", unfollowed := true, recurses := true, plainKeys := false, apart := false }
def TreeRestSaid : Prop := treeRestRow.holds Tryz.pinned (OpenSpec.ofChange treeRestSpec)

/-- ITS FALSE NEIGHBOUR: 'it returns false'. Refute it at one input. -/
def treeRestWrong : ChangeSpec := { name := "treeRest", fn := fun _ => fun
  | [d1, d2] => { results := [.lit (.bool false)], args := [d1, d2] }
  | _ => none }
def TreeRestWrongFalsely : Prop := treeRestRow.holds Tryz.pinned (OpenSpec.ofChange treeRestWrong)

/-- 'cattlegridlaw13.SlotsCheck': WHATEVER THE INPUT: true; the input reads as it did. -/
def slotsCheckSpec : ChangeSpec := { name := "slotsCheck", fn := fun _ => fun
  | [d] => { results := [.lit (.bool true)], args := [d] }
  | _ => none }
def slotsCheckRow : OpenClaim := { program := "ythpmpdpfnlecmaagreat", sum := "49c48260c67ee0f35f3b6889e7f0ca6f4e6a56f538fc0caac645948a7dcfa39b", func := "cattlegrid/cattlegridlaw13.SlotsCheck", spec := "slotsCheck", unfollowed := true, recurses := true, plainKeys := false, apart := false }
def SlotsCheckSaid : Prop := slotsCheckRow.holds Tryz.pinned (OpenSpec.ofChange slotsCheckSpec)

/-- ITS FALSE NEIGHBOUR: 'it returns false'. Refute it at one input. -/
def slotsCheckWrong : ChangeSpec := { name := "slotsCheck", fn := fun _ => fun
  | [d] => { results := [.lit (.bool false)], args := [d] }
  | _ => none }
def SlotsCheckWrongFalsely : Prop := slotsCheckRow.holds Tryz.pinned (OpenSpec.ofChange slotsCheckWrong)

/-- 'cattlegridlaw13.SlotsTable': WHATEVER THE INPUT: true; the input reads as it did. -/
def slotsTableSpec : ChangeSpec := { name := "slotsTable", fn := fun _ => fun
  | [d1, d2, d3] => { results := [.lit (.bool true)], args := [d1, d2, d3] }
  | _ => none }
def slotsTableRow : OpenClaim := { program := "ythpmpdpfnlecmaagreat", sum := "49c48260c67ee0f35f3b6889e7f0ca6f4e6a56f538fc0caac645948a7dcfa39b", func := "cattlegrid/cattlegridlaw13.SlotsTable", spec := "slotsTable", unfollowed := true, recurses := true, plainKeys := false, apart := false }
def SlotsTableSaid : Prop := slotsTableRow.holds Tryz.pinned (OpenSpec.ofChange slotsTableSpec)

/-- ITS FALSE NEIGHBOUR: 'it returns false'. Refute it at one input. -/
def slotsTableWrong : ChangeSpec := { name := "slotsTable", fn := fun _ => fun
  | [d1, d2, d3] => { results := [.lit (.bool false)], args := [d1, d2, d3] }
  | _ => none }
def SlotsTableWrongFalsely : Prop := slotsTableRow.holds Tryz.pinned (OpenSpec.ofChange slotsTableWrong)

/-- 'cattlegridlaw13.SlotsBelow': WHATEVER THE INPUT: true; the input reads as it did. -/
def slotsBelowSpec : ChangeSpec := { name := "slotsBelow", fn := fun _ => fun
  | [d1, d2] => { results := [.lit (.bool true)], args := [d1, d2] }
  | _ => none }
def slotsBelowRow : OpenClaim := { program := "ythpmpdpfnlecmaagreat", sum := "49c48260c67ee0f35f3b6889e7f0ca6f4e6a56f538fc0caac645948a7dcfa39b", func := "cattlegrid/cattlegridlaw13.SlotsBelow", spec := "slotsBelow", unfollowed := true, recurses := true, plainKeys := false, apart := false }
def SlotsBelowSaid : Prop := slotsBelowRow.holds Tryz.pinned (OpenSpec.ofChange slotsBelowSpec)

/-- ITS FALSE NEIGHBOUR: 'it returns false'. Refute it at one input. -/
def slotsBelowWrong : ChangeSpec := { name := "slotsBelow", fn := fun _ => fun
  | [d1, d2] => { results := [.lit (.bool false)], args := [d1, d2] }
  | _ => none }
def SlotsBelowWrongFalsely : Prop := slotsBelowRow.holds Tryz.pinned (OpenSpec.ofChange slotsBelowWrong)

/- THE SECOND FORM. 'bulk': how many values and letters a reading holds, each counted each time it is reached (what is shared counts as often as it is met; a slice's spare places count too). A statement '..UptoSaid' is the law's where the arguments, and the package variables that the reading takes, are together of bulk at most 1048576: NARROWER than '..Said'. Prove '..Said' where nothing that the law and all that it calls make is longer than what came in: it says more and counts as full. Else prove '..UptoSaid'. A law counts once. -/
mutual
def uptoBulk {H : Type} : DataW H → Nat
  | .lit (.string bytes) => bytes.length + 1
  | .lit _ => 1
  | .nil => 1
  | .ptr d => uptoBulk d + 1
  | .slice elems spare => uptoBulkAll elems + uptoBulkAll spare + 1
  | .agg parts => uptoBulkAll parts + 1
  | .iface _ d => uptoBulk d + 1
  | .map entries => uptoBulkEntries entries + 1
  | .held _ => 1
def uptoBulkAll {H : Type} : List (DataW H) → Nat
  | [] => 0
  | d :: r => uptoBulk d + uptoBulkAll r
def uptoBulkEntries {H : Type} : List (Lit × DataW H) → Nat
  | [] => 0
  | x :: r => uptoBulkEntry x + uptoBulkEntries r
def uptoBulkEntry {H : Type} : Lit × DataW H → Nat
  | (.string bytes, d) => bytes.length + uptoBulk d + 1
  | (_, d) => uptoBulk d + 1
 end
def uptoSmall : (H : Type) → List (DataW H) → Bool := fun _ ds => decide (uptoBulkAll ds ≤ 1048576)
def OpenSpec.upto (s : _root_.Go.ChangeSpec) : _root_.Go.OpenSpec := { _root_.Go.OpenSpec.ofChange s with cond := some uptoSmall }

/-- 'cattlegridlaw11.TreeOrder', WHERE WHAT IT READS IS OF BULK AT MOST 1048576: true; the input reads as it did. -/
def treeOrderUptoRow : OpenClaim := { program := "ythpmpdpfnlecmaagreat", sum := "49c48260c67ee0f35f3b6889e7f0ca6f4e6a56f538fc0caac645948a7dcfa39b", func := "cattlegrid/cattlegridlaw11.TreeOrder", spec := "treeOrder", unfollowed := true, recurses := true, plainKeys := false, apart := false, narrowed := true }
def TreeOrderUptoSaid : Prop := treeOrderUptoRow.holds Tryz.pinned (OpenSpec.upto treeOrderSpec)

/-- 'cattlegridlaw11.TreeEnds', WHERE WHAT IT READS IS OF BULK AT MOST 1048576: true; the input reads as it did. -/
def treeEndsUptoRow : OpenClaim := { program := "ythpmpdpfnlecmaagreat", sum := "49c48260c67ee0f35f3b6889e7f0ca6f4e6a56f538fc0caac645948a7dcfa39b", func := "cattlegrid/cattlegridlaw11.TreeEnds", spec := "treeEnds", unfollowed := true, recurses := true, plainKeys := false, apart := false, narrowed := true }
def TreeEndsUptoSaid : Prop := treeEndsUptoRow.holds Tryz.pinned (OpenSpec.upto treeEndsSpec)

/-- 'cattlegridlaw11.TreeRest', WHERE WHAT IT READS IS OF BULK AT MOST 1048576: true; the input reads as it did. -/
def treeRestUptoRow : OpenClaim := { program := "ythpmpdpfnlecmaagreat", sum := "49c48260c67ee0f35f3b6889e7f0ca6f4e6a56f538fc0caac645948a7dcfa39b", func := "cattlegrid/cattlegridlaw11.TreeRest", spec := "treeRest", unfollowed := true, recurses := true, plainKeys := false, apart := false, narrowed := true }
def TreeRestUptoSaid : Prop := treeRestUptoRow.holds Tryz.pinned (OpenSpec.upto treeRestSpec)

/-- 'cattlegridlaw13.SlotsCheck', WHERE WHAT IT READS IS OF BULK AT MOST 1048576: true; the input reads as it did. -/
def slotsCheckUptoRow : OpenClaim := { program := "ythpmpdpfnlecmaagreat", sum := "49c48260c67ee0f35f3b6889e7f0ca6f4e6a56f538fc0caac645948a7dcfa39b", func := "cattlegrid/cattlegridlaw13.SlotsCheck", spec := "slotsCheck", unfollowed := true, recurses := true, plainKeys := false, apart := false, narrowed := true }
def SlotsCheckUptoSaid : Prop := slotsCheckUptoRow.holds Tryz.pinned (OpenSpec.upto slotsCheckSpec)

/-- 'cattlegridlaw13.SlotsTable', WHERE WHAT IT READS IS OF BULK AT MOST 1048576: true; the input reads as it did. -/
def slotsTableUptoRow : OpenClaim := { program := "ythpmpdpfnlecmaagreat", sum := "49c48260c67ee0f35f3b6889e7f0ca6f4e6a56f538fc0caac645948a7dcfa39b", func := "cattlegrid/cattlegridlaw13.SlotsTable", spec := "slotsTable", unfollowed := true, recurses := true, plainKeys := false, apart := false, narrowed := true }
def SlotsTableUptoSaid : Prop := slotsTableUptoRow.holds Tryz.pinned (OpenSpec.upto slotsTableSpec)

/-- 'cattlegridlaw13.SlotsBelow', WHERE WHAT IT READS IS OF BULK AT MOST 1048576: true; the input reads as it did. -/
def slotsBelowUptoRow : OpenClaim := { program := "ythpmpdpfnlecmaagreat", sum := "49c48260c67ee0f35f3b6889e7f0ca6f4e6a56f538fc0caac645948a7dcfa39b", func := "cattlegrid/cattlegridlaw13.SlotsBelow", spec := "slotsBelow", unfollowed := true, recurses := true, plainKeys := false, apart := false, narrowed := true }
def SlotsBelowUptoSaid : Prop := slotsBelowUptoRow.holds Tryz.pinned (OpenSpec.upto slotsBelowSpec)

end Rows
end Go.Proofs.YthpmpdpfnlecmaaGreat
