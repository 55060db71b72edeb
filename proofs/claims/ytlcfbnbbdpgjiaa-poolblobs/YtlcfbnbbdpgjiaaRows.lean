/-
  No cell of these rows narrows 'for every input' (looked for: loops, veiled, ifaces, maps, wideKeys, modest, calm, conditions, laid).
  DERIVED. THE GIVEN ROWS OF THIS SEAT. 5 by the template 'for every input the law returns true; each argument reads behind the call as it read before'; 0 by the template 'total and deterministic' (their statements: YtlcfbnbbdpgjiaaTotals.lean).
  GIVEN WITH THE SEED: the statements are not yours to turn. If you find one false, say at which input.
  Laid BY PROGRAM, IN A SANDBOX (cutbox-rows.mjs): the forced cells as the released guide's own fill.sh prints them over the translation 645132f567dbb45c… (all of the seat's roots in one cut). By AI agents, Wed Nov 11 2026. No macro, syntax, notation, axiom, sorry.
-/
import Derived.Test.YtlcfbnbbdpgjiaaChecked
import GoSem.Claim
import GoSem.ClaimJoined
import GoSem.ClaimMapViews
import Derived.JoinedTies
import Derived.KernelRfl
namespace Go.Proofs.Ytlcfbnbbdpgjiaa
/- THE CELL 'sum', in the pinned program and in every row, IS THE sha256 OF THE DUMP (.gsa) THAT YtlcfbnbbdpgjiaaProg.lean LOADS. Nothing in Lean hashes anything: it is a label: what it is worth is what the hold of that sum in a sandbox is worth. -/
noncomputable def Try.pinned : Pinned := { name := "ytlcfbnbbdpgjiaa", sum := "645132f567dbb45ccbb54138c369b8f76b894ac6bee6e9a94b3478602f9760cd", checked := Try.checked }
namespace Rows
def none {H : Type} : Left H := { results := [], args := [] }

/-- 'cattlegridlaw02.PoolNames': WHATEVER THE INPUT: true; the input reads as it did. -/
def poolNamesSpec : ChangeSpec := { name := "poolNames", fn := fun _ => fun
  | [d] => { results := [.lit (.bool true)], args := [d] }
  | _ => none }
def poolNamesRow : OpenClaim := { program := "ytlcfbnbbdpgjiaa", sum := "645132f567dbb45ccbb54138c369b8f76b894ac6bee6e9a94b3478602f9760cd", func := "cattlegrid/cattlegridlaw02.PoolNames", spec := "poolNames", apart := false }
def PoolNamesSaid : Prop := poolNamesRow.holds Try.pinned (OpenSpec.ofChange poolNamesSpec)

/-- ITS FALSE NEIGHBOUR: 'it returns false'. Refute it at one input. -/
def poolNamesWrong : ChangeSpec := { name := "poolNames", fn := fun _ => fun
  | [d] => { results := [.lit (.bool false)], args := [d] }
  | _ => none }
def PoolNamesWrongFalsely : Prop := poolNamesRow.holds Try.pinned (OpenSpec.ofChange poolNamesWrong)

/-- 'cattlegridlaw02.PoolName': WHATEVER THE INPUT: true; the input reads as it did. -/
def poolNameSpec : ChangeSpec := { name := "poolName", fn := fun _ => fun
  | [d1, d2, d3] => { results := [.lit (.bool true)], args := [d1, d2, d3] }
  | _ => none }
def poolNameRow : OpenClaim := { program := "ytlcfbnbbdpgjiaa", sum := "645132f567dbb45ccbb54138c369b8f76b894ac6bee6e9a94b3478602f9760cd", func := "cattlegrid/cattlegridlaw02.PoolName", spec := "poolName", inPlace := ["internal/bytealg.IndexByte"], apart := false }
def PoolNameSaid : Prop := poolNameRow.holds Try.pinned (OpenSpec.ofChange poolNameSpec)

/-- ITS FALSE NEIGHBOUR: 'it returns false'. Refute it at one input. -/
def poolNameWrong : ChangeSpec := { name := "poolName", fn := fun _ => fun
  | [d1, d2, d3] => { results := [.lit (.bool false)], args := [d1, d2, d3] }
  | _ => none }
def PoolNameWrongFalsely : Prop := poolNameRow.holds Try.pinned (OpenSpec.ofChange poolNameWrong)

/-- 'cattlegridlaw02.PoolBlobs': WHATEVER THE INPUT: true; the input reads as it did. -/
def poolBlobsSpec : ChangeSpec := { name := "poolBlobs", fn := fun _ => fun
  | [d] => { results := [.lit (.bool true)], args := [d] }
  | _ => none }
def poolBlobsRow : OpenClaim := { program := "ytlcfbnbbdpgjiaa", sum := "645132f567dbb45ccbb54138c369b8f76b894ac6bee6e9a94b3478602f9760cd", func := "cattlegrid/cattlegridlaw02.PoolBlobs", spec := "poolBlobs", apart := false }
def PoolBlobsSaid : Prop := poolBlobsRow.holds Try.pinned (OpenSpec.ofChange poolBlobsSpec)

/-- ITS FALSE NEIGHBOUR: 'it returns false'. Refute it at one input. -/
def poolBlobsWrong : ChangeSpec := { name := "poolBlobs", fn := fun _ => fun
  | [d] => { results := [.lit (.bool false)], args := [d] }
  | _ => none }
def PoolBlobsWrongFalsely : Prop := poolBlobsRow.holds Try.pinned (OpenSpec.ofChange poolBlobsWrong)

/-- 'cattlegridlaw02.PoolBlob': WHATEVER THE INPUT: true; the input reads as it did. -/
def poolBlobSpec : ChangeSpec := { name := "poolBlob", fn := fun _ => fun
  | [d1, d2] => { results := [.lit (.bool true)], args := [d1, d2] }
  | _ => none }
def poolBlobRow : OpenClaim := { program := "ytlcfbnbbdpgjiaa", sum := "645132f567dbb45ccbb54138c369b8f76b894ac6bee6e9a94b3478602f9760cd", func := "cattlegrid/cattlegridlaw02.PoolBlob", spec := "poolBlob", apart := false }
def PoolBlobSaid : Prop := poolBlobRow.holds Try.pinned (OpenSpec.ofChange poolBlobSpec)

/-- ITS FALSE NEIGHBOUR: 'it returns false'. Refute it at one input. -/
def poolBlobWrong : ChangeSpec := { name := "poolBlob", fn := fun _ => fun
  | [d1, d2] => { results := [.lit (.bool false)], args := [d1, d2] }
  | _ => none }
def PoolBlobWrongFalsely : Prop := poolBlobRow.holds Try.pinned (OpenSpec.ofChange poolBlobWrong)

/-- 'cattlegridlaw02.PoolBack': WHATEVER THE INPUT: true; the input reads as it did. -/
def poolBackSpec : ChangeSpec := { name := "poolBack", fn := fun _ => fun
  | [d1, d2] => { results := [.lit (.bool true)], args := [d1, d2] }
  | _ => none }
def poolBackRow : OpenClaim := { program := "ytlcfbnbbdpgjiaa", sum := "645132f567dbb45ccbb54138c369b8f76b894ac6bee6e9a94b3478602f9760cd", func := "cattlegrid/cattlegridlaw02.PoolBack", spec := "poolBack", inPlace := ["internal/bytealg.IndexByte"], apart := false }
def PoolBackSaid : Prop := poolBackRow.holds Try.pinned (OpenSpec.ofChange poolBackSpec)

/-- ITS FALSE NEIGHBOUR: 'it returns false'. Refute it at one input. -/
def poolBackWrong : ChangeSpec := { name := "poolBack", fn := fun _ => fun
  | [d1, d2] => { results := [.lit (.bool false)], args := [d1, d2] }
  | _ => none }
def PoolBackWrongFalsely : Prop := poolBackRow.holds Try.pinned (OpenSpec.ofChange poolBackWrong)

/- THE SECOND FORM. 'bulk': how many values and letters a reading holds, each counted each time it is reached (what is shared counts as often as it is met; a slice's spare places count too). A statement '..UptoSaid' is the law's where the arguments, and the package variables that the reading takes, are together of bulk at most 1048576: NARROWER than '..Said'. Prove '..Said' where nothing that the law and all that it calls make is longer than what came in: it says more and counts as full. Else prove '..UptoSaid'. A law counts once. -/
mutual
def uptoBulk {H : Type} : DataW H → Nat
  | .lit (.string bytes) => bytes.length + 1
  | .lit _ => 1
  | .nil => 1
  | .ptr d => uptoBulk d + 1
  | .slice elems spare => uptoBulkAll elems + uptoBulkAll spare + 1
  | .agg parts => uptoBulkAll parts + 1
  | .iface _ d => uptoBulk d + 1
  | .map entries => uptoBulkEntries entries + 1
  | .held _ => 1
def uptoBulkAll {H : Type} : List (DataW H) → Nat
  | [] => 0
  | d :: r => uptoBulk d + uptoBulkAll r
def uptoBulkEntries {H : Type} : List (Lit × DataW H) → Nat
  | [] => 0
  | x :: r => uptoBulkEntry x + uptoBulkEntries r
def uptoBulkEntry {H : Type} : Lit × DataW H → Nat
  | (.string bytes, d) => bytes.length + uptoBulk d + 1
  | (_, d) => uptoBulk d + 1
 end
def uptoSmall : (H : Type) → List (DataW H) → Bool := fun _ ds => decide (uptoBulkAll ds ≤ 1048576)
def OpenSpec.upto (s : _root_.Go.ChangeSpec) : _root_.Go.OpenSpec := { _root_.Go.OpenSpec.ofChange s with cond := some uptoSmall }

/-- 'cattlegridlaw02.PoolNames', WHERE WHAT IT READS IS OF BULK AT MOST 1048576: true; the input reads as it did. -/
def poolNamesUptoRow : OpenClaim := { program := "ytlcfbnbbdpgjiaa", sum := "645132f567dbb45ccbb54138c369b8f76b894ac6bee6e9a94b3478602f9760cd", func := "cattlegrid/cattlegridlaw02.PoolNames", spec := "poolNames", apart := false, narrowed := true }
def PoolNamesUptoSaid : Prop := poolNamesUptoRow.holds Try.pinned (OpenSpec.upto poolNamesSpec)

/-- 'cattlegridlaw02.PoolName', WHERE WHAT IT READS IS OF BULK AT MOST 1048576: true; the input reads as it did. -/
def poolNameUptoRow : OpenClaim := { program := "ytlcfbnbbdpgjiaa", sum := "645132f567dbb45ccbb54138c369b8f76b894ac6bee6e9a94b3478602f9760cd", func := "cattlegrid/cattlegridlaw02.PoolName", spec := "poolName", inPlace := ["internal/bytealg.IndexByte"], apart := false, narrowed := true }
def PoolNameUptoSaid : Prop := poolNameUptoRow.holds Try.pinned (OpenSpec.upto poolNameSpec)

/-- 'cattlegridlaw02.PoolBlobs', WHERE WHAT IT READS IS OF BULK AT MOST 1048576: true; the input reads as it did. -/
def poolBlobsUptoRow : OpenClaim := { program := "ytlcfbnbbdpgjiaa", sum := "645132f567dbb45ccbb54138c369b8f76b894ac6bee6e9a94b3478602f9760cd", func := "cattlegrid/cattlegridlaw02.PoolBlobs", spec := "poolBlobs", apart := false, narrowed := true }
def PoolBlobsUptoSaid : Prop := poolBlobsUptoRow.holds Try.pinned (OpenSpec.upto poolBlobsSpec)

/-- 'cattlegridlaw02.PoolBlob', WHERE WHAT IT READS IS OF BULK AT MOST 1048576: true; the input reads as it did. -/
def poolBlobUptoRow : OpenClaim := { program := "ytlcfbnbbdpgjiaa", sum := "645132f567dbb45ccbb54138c369b8f76b894ac6bee6e9a94b3478602f9760cd", func := "cattlegrid/cattlegridlaw02.PoolBlob", spec := "poolBlob", apart := false, narrowed := true }
def PoolBlobUptoSaid : Prop := poolBlobUptoRow.holds Try.pinned (OpenSpec.upto poolBlobSpec)

/-- 'cattlegridlaw02.PoolBack', WHERE WHAT IT READS IS OF BULK AT MOST 1048576: true; the input reads as it did. -/
def poolBackUptoRow : OpenClaim := { program := "ytlcfbnbbdpgjiaa", sum := "645132f567dbb45ccbb54138c369b8f76b894ac6bee6e9a94b3478602f9760cd", func := "cattlegrid/cattlegridlaw02.PoolBack", spec := "poolBack", inPlace := ["internal/bytealg.IndexByte"], apart := false, narrowed := true }
def PoolBackUptoSaid : Prop := poolBackUptoRow.holds Try.pinned (OpenSpec.upto poolBackSpec)

end Rows
end Go.Proofs.Ytlcfbnbbdpgjiaa
