/-
  No cell of these rows narrows 'for every input' (looked for: loops, veiled, ifaces, maps, wideKeys, modest, calm, conditions, laid).
  DERIVED. THE GIVEN ROWS OF THIS SEAT. 5 by the template 'for every input the law returns true; each argument reads behind the call as it read before'; 0 by the template 'total and deterministic' (their statements: YtcjoidhbhffcgaaTotals.lean).
  GIVEN WITH THE SEED: the statements are not yours to turn. If you find one false, say at which input.
  Laid BY PROGRAM, IN A SANDBOX (cutbox-rows.mjs): the forced cells as the released guide's own fill.sh prints them over the translation eff8f11ea7f1512f… (all of the seat's roots in one cut). By AI agents, Wed Nov 11 2026. No macro, syntax, notation, axiom, sorry.
-/
import Derived.Test.YtcjoidhbhffcgaaChecked
import GoSem.Claim
import GoSem.ClaimJoined
import GoSem.ClaimMapViews
import Derived.JoinedTies
import Derived.KernelRfl
namespace Go.Proofs.Ytcjoidhbhffcgaa
/- THE CELL 'sum', in the pinned program and in every row, IS THE sha256 OF THE DUMP (.gsa) THAT YtcjoidhbhffcgaaProg.lean LOADS. Nothing in Lean hashes anything: it is a label: what it is worth is what the hold of that sum in a sandbox is worth. -/
noncomputable def Try.pinned : Pinned := { name := "ytcjoidhbhffcgaa", sum := "eff8f11ea7f1512f4f89ddc9b38a3f34d136b07f566c223ff34302bc834a6f5c", checked := Try.checked }
namespace Rows
def none {H : Type} : Left H := { results := [], args := [] }

/-- 'cattlegridlaw05.SigsTypes': WHATEVER THE INPUT: true; the input reads as it did. -/
def sigsTypesSpec : ChangeSpec := { name := "sigsTypes", fn := fun _ => fun
  | [d] => { results := [.lit (.bool true)], args := [d] }
  | _ => none }
def sigsTypesRow : OpenClaim := { program := "ytcjoidhbhffcgaa", sum := "eff8f11ea7f1512f4f89ddc9b38a3f34d136b07f566c223ff34302bc834a6f5c", func := "cattlegrid/cattlegridlaw05.SigsTypes", spec := "sigsTypes", unfollowed := true, recurses := true, apart := false }
def SigsTypesSaid : Prop := sigsTypesRow.holds Try.pinned (OpenSpec.ofChange sigsTypesSpec)

/-- ITS FALSE NEIGHBOUR: 'it returns false'. Refute it at one input. -/
def sigsTypesWrong : ChangeSpec := { name := "sigsTypes", fn := fun _ => fun
  | [d] => { results := [.lit (.bool false)], args := [d] }
  | _ => none }
def SigsTypesWrongFalsely : Prop := sigsTypesRow.holds Try.pinned (OpenSpec.ofChange sigsTypesWrong)

/-- 'cattlegridlaw05.SigsReads': WHATEVER THE INPUT: true; the input reads as it did. -/
def sigsReadsSpec : ChangeSpec := { name := "sigsReads", fn := fun _ => fun
  | [d] => { results := [.lit (.bool true)], args := [d] }
  | _ => none }
def sigsReadsRow : OpenClaim := { program := "ytcjoidhbhffcgaa", sum := "eff8f11ea7f1512f4f89ddc9b38a3f34d136b07f566c223ff34302bc834a6f5c", func := "cattlegrid/cattlegridlaw05.SigsReads", spec := "sigsReads", unfollowed := true, recurses := true, apart := false }
def SigsReadsSaid : Prop := sigsReadsRow.holds Try.pinned (OpenSpec.ofChange sigsReadsSpec)

/-- ITS FALSE NEIGHBOUR: 'it returns false'. Refute it at one input. -/
def sigsReadsWrong : ChangeSpec := { name := "sigsReads", fn := fun _ => fun
  | [d] => { results := [.lit (.bool false)], args := [d] }
  | _ => none }
def SigsReadsWrongFalsely : Prop := sigsReadsRow.holds Try.pinned (OpenSpec.ofChange sigsReadsWrong)

/-- 'cattlegridlaw05.SigsSigs': WHATEVER THE INPUT: true; the input reads as it did. -/
def sigsSigsSpec : ChangeSpec := { name := "sigsSigs", fn := fun _ => fun
  | [d] => { results := [.lit (.bool true)], args := [d] }
  | _ => none }
def sigsSigsRow : OpenClaim := { program := "ytcjoidhbhffcgaa", sum := "eff8f11ea7f1512f4f89ddc9b38a3f34d136b07f566c223ff34302bc834a6f5c", func := "cattlegrid/cattlegridlaw05.SigsSigs", spec := "sigsSigs", unfollowed := true, recurses := true, apart := false }
def SigsSigsSaid : Prop := sigsSigsRow.holds Try.pinned (OpenSpec.ofChange sigsSigsSpec)

/-- ITS FALSE NEIGHBOUR: 'it returns false'. Refute it at one input. -/
def sigsSigsWrong : ChangeSpec := { name := "sigsSigs", fn := fun _ => fun
  | [d] => { results := [.lit (.bool false)], args := [d] }
  | _ => none }
def SigsSigsWrongFalsely : Prop := sigsSigsRow.holds Try.pinned (OpenSpec.ofChange sigsSigsWrong)

/-- 'cattlegridlaw05.SigsLocals': WHATEVER THE INPUT: true; the input reads as it did. -/
def sigsLocalsSpec : ChangeSpec := { name := "sigsLocals", fn := fun _ => fun
  | [d] => { results := [.lit (.bool true)], args := [d] }
  | _ => none }
def sigsLocalsRow : OpenClaim := { program := "ytcjoidhbhffcgaa", sum := "eff8f11ea7f1512f4f89ddc9b38a3f34d136b07f566c223ff34302bc834a6f5c", func := "cattlegrid/cattlegridlaw05.SigsLocals", spec := "sigsLocals", unfollowed := true, recurses := true, apart := false }
def SigsLocalsSaid : Prop := sigsLocalsRow.holds Try.pinned (OpenSpec.ofChange sigsLocalsSpec)

/-- ITS FALSE NEIGHBOUR: 'it returns false'. Refute it at one input. -/
def sigsLocalsWrong : ChangeSpec := { name := "sigsLocals", fn := fun _ => fun
  | [d] => { results := [.lit (.bool false)], args := [d] }
  | _ => none }
def SigsLocalsWrongFalsely : Prop := sigsLocalsRow.holds Try.pinned (OpenSpec.ofChange sigsLocalsWrong)

/-- 'cattlegridlaw05.SigsOne': WHATEVER THE INPUT: true; the input reads as it did. -/
def sigsOneSpec : ChangeSpec := { name := "sigsOne", fn := fun _ => fun
  | [d] => { results := [.lit (.bool true)], args := [d] }
  | _ => none }
def sigsOneRow : OpenClaim := { program := "ytcjoidhbhffcgaa", sum := "eff8f11ea7f1512f4f89ddc9b38a3f34d136b07f566c223ff34302bc834a6f5c", func := "cattlegrid/cattlegridlaw05.SigsOne", spec := "sigsOne", unfollowed := true, recurses := true, apart := false }
def SigsOneSaid : Prop := sigsOneRow.holds Try.pinned (OpenSpec.ofChange sigsOneSpec)

/-- ITS FALSE NEIGHBOUR: 'it returns false'. Refute it at one input. -/
def sigsOneWrong : ChangeSpec := { name := "sigsOne", fn := fun _ => fun
  | [d] => { results := [.lit (.bool false)], args := [d] }
  | _ => none }
def SigsOneWrongFalsely : Prop := sigsOneRow.holds Try.pinned (OpenSpec.ofChange sigsOneWrong)

/- THE SECOND FORM. 'bulk': how many values and letters a reading holds, each counted each time it is reached (what is shared counts as often as it is met; a slice's spare places count too). A statement '..UptoSaid' is the law's where the arguments, and the package variables that the reading takes, are together of bulk at most 1048576: NARROWER than '..Said'. Prove '..Said' where nothing that the law and all that it calls make is longer than what came in: it says more and counts as full. Else prove '..UptoSaid'. A law counts once. -/
mutual
def uptoBulk {H : Type} : DataW H → Nat
  | .lit (.string bytes) => bytes.length + 1
  | .lit _ => 1
  | .nil => 1
  | .ptr d => uptoBulk d + 1
  | .slice elems spare => uptoBulkAll elems + uptoBulkAll spare + 1
  | .agg parts => uptoBulkAll parts + 1
  | .iface _ d => uptoBulk d + 1
  | .map entries => uptoBulkEntries entries + 1
  | .held _ => 1
def uptoBulkAll {H : Type} : List (DataW H) → Nat
  | [] => 0
  | d :: r => uptoBulk d + uptoBulkAll r
def uptoBulkEntries {H : Type} : List (Lit × DataW H) → Nat
  | [] => 0
  | x :: r => uptoBulkEntry x + uptoBulkEntries r
def uptoBulkEntry {H : Type} : Lit × DataW H → Nat
  | (.string bytes, d) => bytes.length + uptoBulk d + 1
  | (_, d) => uptoBulk d + 1
 end
def uptoSmall : (H : Type) → List (DataW H) → Bool := fun _ ds => decide (uptoBulkAll ds ≤ 1048576)
def OpenSpec.upto (s : _root_.Go.ChangeSpec) : _root_.Go.OpenSpec := { _root_.Go.OpenSpec.ofChange s with cond := some uptoSmall }

/-- 'cattlegridlaw05.SigsTypes', WHERE WHAT IT READS IS OF BULK AT MOST 1048576: true; the input reads as it did. -/
def sigsTypesUptoRow : OpenClaim := { program := "ytcjoidhbhffcgaa", sum := "eff8f11ea7f1512f4f89ddc9b38a3f34d136b07f566c223ff34302bc834a6f5c", func := "cattlegrid/cattlegridlaw05.SigsTypes", spec := "sigsTypes", unfollowed := true, recurses := true, apart := false, narrowed := true }
def SigsTypesUptoSaid : Prop := sigsTypesUptoRow.holds Try.pinned (OpenSpec.upto sigsTypesSpec)

/-- 'cattlegridlaw05.SigsReads', WHERE WHAT IT READS IS OF BULK AT MOST 1048576: true; the input reads as it did. -/
def sigsReadsUptoRow : OpenClaim := { program := "ytcjoidhbhffcgaa", sum := "eff8f11ea7f1512f4f89ddc9b38a3f34d136b07f566c223ff34302bc834a6f5c", func := "cattlegrid/cattlegridlaw05.SigsReads", spec := "sigsReads", unfollowed := true, recurses := true, apart := false, narrowed := true }
def SigsReadsUptoSaid : Prop := sigsReadsUptoRow.holds Try.pinned (OpenSpec.upto sigsReadsSpec)

/-- 'cattlegridlaw05.SigsSigs', WHERE WHAT IT READS IS OF BULK AT MOST 1048576: true; the input reads as it did. -/
def sigsSigsUptoRow : OpenClaim := { program := "ytcjoidhbhffcgaa", sum := "eff8f11ea7f1512f4f89ddc9b38a3f34d136b07f566c223ff34302bc834a6f5c", func := "cattlegrid/cattlegridlaw05.SigsSigs", spec := "sigsSigs", unfollowed := true, recurses := true, apart := false, narrowed := true }
def SigsSigsUptoSaid : Prop := sigsSigsUptoRow.holds Try.pinned (OpenSpec.upto sigsSigsSpec)

/-- 'cattlegridlaw05.SigsLocals', WHERE WHAT IT READS IS OF BULK AT MOST 1048576: true; the input reads as it did. -/
def sigsLocalsUptoRow : OpenClaim := { program := "ytcjoidhbhffcgaa", sum := "eff8f11ea7f1512f4f89ddc9b38a3f34d136b07f566c223ff34302bc834a6f5c", func := "cattlegrid/cattlegridlaw05.SigsLocals", spec := "sigsLocals", unfollowed := true, recurses := true, apart := false, narrowed := true }
def SigsLocalsUptoSaid : Prop := sigsLocalsUptoRow.holds Try.pinned (OpenSpec.upto sigsLocalsSpec)

/-- 'cattlegridlaw05.SigsOne', WHERE WHAT IT READS IS OF BULK AT MOST 1048576: true; the input reads as it did. -/
def sigsOneUptoRow : OpenClaim := { program := "ytcjoidhbhffcgaa", sum := "eff8f11ea7f1512f4f89ddc9b38a3f34d136b07f566c223ff34302bc834a6f5c", func := "cattlegrid/cattlegridlaw05.SigsOne", spec := "sigsOne", unfollowed := true, recurses := true, apart := false, narrowed := true }
def SigsOneUptoSaid : Prop := sigsOneUptoRow.holds Try.pinned (OpenSpec.upto sigsOneSpec)

end Rows
end Go.Proofs.Ytcjoidhbhffcgaa
