/-
  NARROWER THAN 'FOR EVERY INPUT', by the rows' own cells (each row's printed sentence says how): FitOrder: laid · FitMerges: laid · FitTop: laid.
  DERIVED. THE GIVEN ROWS OF THIS SEAT. 3 by the template 'for every input the law returns true; each argument reads behind the call as it read before'; 0 by the template 'total and deterministic' (their statements: YtapocgcdjkbnhaaDoorTotals.lean).
  GIVEN WITH THE SEED: the statements are not yours to turn. If you find one false, say at which input.
  Laid BY PROGRAM, IN A SANDBOX (cutbox-rows.mjs): the forced cells as the released guide's own fill.sh prints them over the translation 7c7c6cdf367c42ef… (all of the seat's roots in one cut). By AI agents, Wed Nov 11 2026. No macro, syntax, notation, axiom, sorry.
-/
import Derived.Test.YtapocgcdjkbnhaaDoorChecked
import GoSem.Claim
import GoSem.ClaimJoined
import GoSem.ClaimMapViews
import Derived.JoinedTies
import Derived.KernelRfl
namespace Go.Proofs.YtapocgcdjkbnhaaDoor
/- THE CELL 'sum', in the pinned program and in every row, IS THE sha256 OF THE DUMP (.gsa) THAT YtapocgcdjkbnhaaDoorProg.lean LOADS. Nothing in Lean hashes anything: it is a label: what it is worth is what the hold of that sum in a sandbox is worth. -/
noncomputable def Tryd.pinned : Pinned := { name := "ytapocgcdjkbnhaadoor", sum := "7c7c6cdf367c42efcac7e9aae9fdfda925890ac6be87e6b9f0cf3f542f696100", checked := Tryd.checked }
namespace Rows
def none {H : Type} : Left H := { results := [], args := [] }

/- WHAT THE LISTED PACKAGE-LEVEL VARIABLES READ AS WHEN THE CALL BEGINS. Each datum BY PROGRAM (the guide's laid-datum.mjs) off the statement by which the dump's own 'gosem.cut.vars' lays the variable. In a bare row this is a premise. The card (YtapocgcdjkbnhaaDoorCards.lean) ties it to the program's text. -/
def laid_cattlegrid_fit_anyObject {H : Type} : DataW H := .agg [.lit (.int .i64 4), .lit (.int .i64 0), .lit (.int .i64 0), .lit (.bool false)]
def laid_cattlegrid_fit_anyFault {H : Type} : DataW H := .agg [.lit (.int .i64 7), .lit (.int .i64 0), .lit (.int .i64 0), .lit (.bool false)]

/-- 'cattlegridlaw14.FitOrder': WHATEVER THE INPUT: true; the input reads as it did. -/
def fitOrderSpec : ChangeSpec := { name := "fitOrder", fn := fun _ => fun
  | [d1, d2] => { results := [.lit (.bool true)], args := [d1, d2] }
  | _ => none }
def fitOrderRow : OpenClaim := { program := "ytapocgcdjkbnhaadoor", sum := "7c7c6cdf367c42efcac7e9aae9fdfda925890ac6be87e6b9f0cf3f542f696100", func := "cattlegrid/cattlegridlaw14.FitOrder", spec := "fitOrder", unfollowed := true, recurses := true, named := ["cattlegrid/fit.anyFault", "cattlegrid/fit.anyObject"], apart := false, laid := [("cattlegrid/fit.anyObject", laid_cattlegrid_fit_anyObject), ("cattlegrid/fit.anyFault", laid_cattlegrid_fit_anyFault)] }
def FitOrderSaid : Prop := fitOrderRow.holds Tryd.pinned (OpenSpec.ofChange fitOrderSpec)

/-- ITS FALSE NEIGHBOUR: 'it returns false'. Refute it at one input. -/
def fitOrderWrong : ChangeSpec := { name := "fitOrder", fn := fun _ => fun
  | [d1, d2] => { results := [.lit (.bool false)], args := [d1, d2] }
  | _ => none }
def FitOrderWrongFalsely : Prop := fitOrderRow.holds Tryd.pinned (OpenSpec.ofChange fitOrderWrong)

/-- 'cattlegridlaw14.FitMerges': WHATEVER THE INPUT: true; the input reads as it did. -/
def fitMergesSpec : ChangeSpec := { name := "fitMerges", fn := fun _ => fun
  | [d1, d2] => { results := [.lit (.bool true)], args := [d1, d2] }
  | _ => none }
def fitMergesRow : OpenClaim := { program := "ytapocgcdjkbnhaadoor", sum := "7c7c6cdf367c42efcac7e9aae9fdfda925890ac6be87e6b9f0cf3f542f696100", func := "cattlegrid/cattlegridlaw14.FitMerges", spec := "fitMerges", unfollowed := true, recurses := true, named := ["cattlegrid/fit.anyFault", "cattlegrid/fit.anyObject"], apart := false, laid := [("cattlegrid/fit.anyObject", laid_cattlegrid_fit_anyObject), ("cattlegrid/fit.anyFault", laid_cattlegrid_fit_anyFault)] }
def FitMergesSaid : Prop := fitMergesRow.holds Tryd.pinned (OpenSpec.ofChange fitMergesSpec)

/-- ITS FALSE NEIGHBOUR: 'it returns false'. Refute it at one input. -/
def fitMergesWrong : ChangeSpec := { name := "fitMerges", fn := fun _ => fun
  | [d1, d2] => { results := [.lit (.bool false)], args := [d1, d2] }
  | _ => none }
def FitMergesWrongFalsely : Prop := fitMergesRow.holds Tryd.pinned (OpenSpec.ofChange fitMergesWrong)

/-- 'cattlegridlaw14.FitTop': WHATEVER THE INPUT: true; the input reads as it did. -/
def fitTopSpec : ChangeSpec := { name := "fitTop", fn := fun _ => fun
  | [d1, d2, d3] => { results := [.lit (.bool true)], args := [d1, d2, d3] }
  | _ => none }
def fitTopRow : OpenClaim := { program := "ytapocgcdjkbnhaadoor", sum := "7c7c6cdf367c42efcac7e9aae9fdfda925890ac6be87e6b9f0cf3f542f696100", func := "cattlegrid/cattlegridlaw14.FitTop", spec := "fitTop", unfollowed := true, recurses := true, named := ["cattlegrid/fit.anyFault", "cattlegrid/fit.anyObject"], apart := false, laid := [("cattlegrid/fit.anyObject", laid_cattlegrid_fit_anyObject), ("cattlegrid/fit.anyFault", laid_cattlegrid_fit_anyFault)] }
def FitTopSaid : Prop := fitTopRow.holds Tryd.pinned (OpenSpec.ofChange fitTopSpec)

/-- ITS FALSE NEIGHBOUR: 'it returns false'. Refute it at one input. -/
def fitTopWrong : ChangeSpec := { name := "fitTop", fn := fun _ => fun
  | [d1, d2, d3] => { results := [.lit (.bool false)], args := [d1, d2, d3] }
  | _ => none }
def FitTopWrongFalsely : Prop := fitTopRow.holds Tryd.pinned (OpenSpec.ofChange fitTopWrong)

/- THE SECOND FORM. 'bulk': how many values and letters a reading holds, each counted each time it is reached (what is shared counts as often as it is met; a slice's spare places count too). A statement '..UptoSaid' is the law's where the arguments, and the package variables that the reading takes, are together of bulk at most 1048576: NARROWER than '..Said'. Prove '..Said' where nothing that the law and all that it calls make is longer than what came in: it says more and counts as full. Else prove '..UptoSaid'. A law counts once. -/
mutual
def uptoBulk {H : Type} : DataW H → Nat
  | .lit (.string bytes) => bytes.length + 1
  | .lit _ => 1
  | .nil => 1
  | .ptr d => uptoBulk d + 1
  | .slice elems spare => uptoBulkAll elems + uptoBulkAll spare + 1
  | .agg parts => uptoBulkAll parts + 1
  | .iface _ d => uptoBulk d + 1
  | .map entries => uptoBulkEntries entries + 1
  | .held _ => 1
def uptoBulkAll {H : Type} : List (DataW H) → Nat
  | [] => 0
  | d :: r => uptoBulk d + uptoBulkAll r
def uptoBulkEntries {H : Type} : List (Lit × DataW H) → Nat
  | [] => 0
  | x :: r => uptoBulkEntry x + uptoBulkEntries r
def uptoBulkEntry {H : Type} : Lit × DataW H → Nat
  | (.string bytes, d) => bytes.length + uptoBulk d + 1
  | (_, d) => uptoBulk d + 1
 end
def uptoSmall : (H : Type) → List (DataW H) → Bool := fun _ ds => decide (uptoBulkAll ds ≤ 1048576)
def OpenSpec.upto (s : _root_.Go.ChangeSpec) : _root_.Go.OpenSpec := { _root_.Go.OpenSpec.ofChange s with cond := some uptoSmall }

/-- 'cattlegridlaw14.FitOrder', WHERE WHAT IT READS IS OF BULK AT MOST 1048576: true; the input reads as it did. -/
def fitOrderUptoRow : OpenClaim := { program := "ytapocgcdjkbnhaadoor", sum := "7c7c6cdf367c42efcac7e9aae9fdfda925890ac6be87e6b9f0cf3f542f696100", func := "cattlegrid/cattlegridlaw14.FitOrder", spec := "fitOrder", unfollowed := true, recurses := true, named := ["cattlegrid/fit.anyFault", "cattlegrid/fit.anyObject"], apart := false, laid := [("cattlegrid/fit.anyObject", laid_cattlegrid_fit_anyObject), ("cattlegrid/fit.anyFault", laid_cattlegrid_fit_anyFault)], narrowed := true }
def FitOrderUptoSaid : Prop := fitOrderUptoRow.holds Tryd.pinned (OpenSpec.upto fitOrderSpec)

/-- 'cattlegridlaw14.FitMerges', WHERE WHAT IT READS IS OF BULK AT MOST 1048576: true; the input reads as it did. -/
def fitMergesUptoRow : OpenClaim := { program := "ytapocgcdjkbnhaadoor", sum := "7c7c6cdf367c42efcac7e9aae9fdfda925890ac6be87e6b9f0cf3f542f696100", func := "cattlegrid/cattlegridlaw14.FitMerges", spec := "fitMerges", unfollowed := true, recurses := true, named := ["cattlegrid/fit.anyFault", "cattlegrid/fit.anyObject"], apart := false, laid := [("cattlegrid/fit.anyObject", laid_cattlegrid_fit_anyObject), ("cattlegrid/fit.anyFault", laid_cattlegrid_fit_anyFault)], narrowed := true }
def FitMergesUptoSaid : Prop := fitMergesUptoRow.holds Tryd.pinned (OpenSpec.upto fitMergesSpec)

/-- 'cattlegridlaw14.FitTop', WHERE WHAT IT READS IS OF BULK AT MOST 1048576: true; the input reads as it did. -/
def fitTopUptoRow : OpenClaim := { program := "ytapocgcdjkbnhaadoor", sum := "7c7c6cdf367c42efcac7e9aae9fdfda925890ac6be87e6b9f0cf3f542f696100", func := "cattlegrid/cattlegridlaw14.FitTop", spec := "fitTop", unfollowed := true, recurses := true, named := ["cattlegrid/fit.anyFault", "cattlegrid/fit.anyObject"], apart := false, laid := [("cattlegrid/fit.anyObject", laid_cattlegrid_fit_anyObject), ("cattlegrid/fit.anyFault", laid_cattlegrid_fit_anyFault)], narrowed := true }
def FitTopUptoSaid : Prop := fitTopUptoRow.holds Tryd.pinned (OpenSpec.upto fitTopSpec)

end Rows
end Go.Proofs.YtapocgcdjkbnhaaDoor
