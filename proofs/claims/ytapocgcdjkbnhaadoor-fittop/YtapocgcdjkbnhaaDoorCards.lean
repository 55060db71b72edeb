/-
  DERIVED. GIVEN WITH THE SEED: THE CARDS: each row of YtapocgcdjkbnhaaDoorRows.lean that lists a variable, with what it lists TIED to the program's text (the seventh form; the later family's looks); each row that meets fmt, with fmt's text TOLD by the authors' own Lean function (tested against real Go, not proved from fmt's source: count such statements apart). THE CARD IS WHAT COUNTS. Prove the row's statement (the work); the ties are given (YtapocgcdjkbnhaaDoorTie.lean); close each card by the builder's one call (the guide's Derived/Test/ToyasCard.lean, 'card_holds'). Laid BY PROGRAM, IN A SANDBOX (cutbox-door.mjs). By AI agents, Wed Nov 11 2026. No macro, syntax, notation, axiom, sorry.
-/
import Derived.Test.YtapocgcdjkbnhaaDoorRows
import GoSem.ClaimSeven
namespace Go.Proofs.YtapocgcdjkbnhaaDoor
namespace Rows

/-- THE TIED CARD OF 'cattlegridlaw14.FitOrder'. -/
def fitOrderCard : Claim7 := { stood := { row := fitOrderRow, standIns := [], harness := (true, "f9362ae55b37d893e4ea9103d254cdac36bb841251a0e71d51e495f4b3cd1b9c"), looks := false }, kinds := [], alts := [], laidByText := true, laidKinds := [.data, .data], laidTests := true, laidLooks := .later }
def FitOrderCardSaid : Prop := Claim7.holds Tryd.pinned (.plain (OpenSpec.ofChange fitOrderSpec)) fitOrderCard

/-- THE TIED CARD OF 'cattlegridlaw14.FitMerges'. -/
def fitMergesCard : Claim7 := { stood := { row := fitMergesRow, standIns := [], harness := (true, "f9362ae55b37d893e4ea9103d254cdac36bb841251a0e71d51e495f4b3cd1b9c"), looks := false }, kinds := [], alts := [], laidByText := true, laidKinds := [.data, .data], laidTests := true, laidLooks := .later }
def FitMergesCardSaid : Prop := Claim7.holds Tryd.pinned (.plain (OpenSpec.ofChange fitMergesSpec)) fitMergesCard

/-- THE TIED CARD OF 'cattlegridlaw14.FitTop'. -/
def fitTopCard : Claim7 := { stood := { row := fitTopRow, standIns := [], harness := (true, "f9362ae55b37d893e4ea9103d254cdac36bb841251a0e71d51e495f4b3cd1b9c"), looks := false }, kinds := [], alts := [], laidByText := true, laidKinds := [.data, .data], laidTests := true, laidLooks := .later }
def FitTopCardSaid : Prop := Claim7.holds Tryd.pinned (.plain (OpenSpec.ofChange fitTopSpec)) fitTopCard

/-- THE SECOND FORM's CARD OF 'cattlegridlaw14.FitOrder'. -/
def fitOrderUptoCard : Claim7 := { stood := { row := fitOrderUptoRow, standIns := [], harness := (true, "f9362ae55b37d893e4ea9103d254cdac36bb841251a0e71d51e495f4b3cd1b9c"), looks := false }, kinds := [], alts := [], laidByText := true, laidKinds := [.data, .data], laidTests := true, laidLooks := .later }
def FitOrderUptoCardSaid : Prop := Claim7.holds Tryd.pinned (.plain (OpenSpec.upto fitOrderSpec)) fitOrderUptoCard

/-- THE SECOND FORM's CARD OF 'cattlegridlaw14.FitMerges'. -/
def fitMergesUptoCard : Claim7 := { stood := { row := fitMergesUptoRow, standIns := [], harness := (true, "f9362ae55b37d893e4ea9103d254cdac36bb841251a0e71d51e495f4b3cd1b9c"), looks := false }, kinds := [], alts := [], laidByText := true, laidKinds := [.data, .data], laidTests := true, laidLooks := .later }
def FitMergesUptoCardSaid : Prop := Claim7.holds Tryd.pinned (.plain (OpenSpec.upto fitMergesSpec)) fitMergesUptoCard

/-- THE SECOND FORM's CARD OF 'cattlegridlaw14.FitTop'. -/
def fitTopUptoCard : Claim7 := { stood := { row := fitTopUptoRow, standIns := [], harness := (true, "f9362ae55b37d893e4ea9103d254cdac36bb841251a0e71d51e495f4b3cd1b9c"), looks := false }, kinds := [], alts := [], laidByText := true, laidKinds := [.data, .data], laidTests := true, laidLooks := .later }
def FitTopUptoCardSaid : Prop := Claim7.holds Tryd.pinned (.plain (OpenSpec.upto fitTopSpec)) fitTopUptoCard
end Rows
end Go.Proofs.YtapocgcdjkbnhaaDoor
