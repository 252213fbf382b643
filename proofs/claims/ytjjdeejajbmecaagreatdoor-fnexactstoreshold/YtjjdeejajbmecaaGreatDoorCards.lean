/-
  DERIVED. GIVEN WITH THE SEED: THE CARDS: each row of YtjjdeejajbmecaaGreatDoorRows.lean that lists a variable, with what it lists TIED to the program's text (the seventh form; the later family's looks); each row that meets fmt, with fmt's text TOLD by the authors' own Lean function (tested against real Go, not proved from fmt's source: count such statements apart). THE CARD IS WHAT COUNTS. Prove the row's statement (the work); the ties are given (YtjjdeejajbmecaaGreatDoorTie.lean); close each card by the builder's one call (the guide's Derived/Test/ToyasCard.lean, 'card_holds'). Laid BY PROGRAM, IN A SANDBOX (cutbox-door.mjs). By AI agents, Wed Nov 11 2026. No macro, syntax, notation, axiom, sorry.
-/
import Derived.Test.YtjjdeejajbmecaaGreatDoorRows
import GoSem.ClaimSeven
namespace Go.Proofs.YtjjdeejajbmecaaGreatDoor
namespace Rows

/-- THE TIED CARD OF 'laws.FnExactStoresHold'. -/
def fnExactStoresHoldCard : Claim7 := { stood := { row := fnExactStoresHoldRow, standIns := [], harness := (true, "5d9fcd90588d8e6c47ef03704e43b1ce6cd24fb93e132de8b78404ac7d13fe67"), looks := true }, kinds := [], alts := [], laidByText := true, laidKinds := [.handle, .sentinel, .sentinel, .sentinel, .sentinel, .sentinel, .sentinel, .sentinel, .sentinel, .sentinel], laidTests := true, laidLooks := .later }
def FnExactStoresHoldCardSaid : Prop := Claim7.holds Tryz.pinned (.plain (OpenSpec.ofChange fnExactStoresHoldSpec)) fnExactStoresHoldCard

/-- THE SECOND FORM's CARD OF 'laws.FnExactStoresHold'. -/
def fnExactStoresHoldUptoCard : Claim7 := { stood := { row := fnExactStoresHoldUptoRow, standIns := [], harness := (true, "5d9fcd90588d8e6c47ef03704e43b1ce6cd24fb93e132de8b78404ac7d13fe67"), looks := true }, kinds := [], alts := [], laidByText := true, laidKinds := [.handle, .sentinel, .sentinel, .sentinel, .sentinel, .sentinel, .sentinel, .sentinel, .sentinel, .sentinel], laidTests := true, laidLooks := .later }
def FnExactStoresHoldUptoCardSaid : Prop := Claim7.holds Tryz.pinned (.plain (OpenSpec.upto fnExactStoresHoldSpec)) fnExactStoresHoldUptoCard
end Rows
end Go.Proofs.YtjjdeejajbmecaaGreatDoor
