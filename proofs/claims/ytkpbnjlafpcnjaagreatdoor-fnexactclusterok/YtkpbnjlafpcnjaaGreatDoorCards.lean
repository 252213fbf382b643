/-
  DERIVED. GIVEN WITH THE SEED: THE CARDS: each row of YtkpbnjlafpcnjaaGreatDoorRows.lean that lists a variable, with what it lists TIED to the program's text (the seventh form; the later family's looks); each row that meets fmt, with fmt's text TOLD by the authors' own Lean function (tested against real Go, not proved from fmt's source: count such statements apart). THE CARD IS WHAT COUNTS. Prove the row's statement (the work); the ties are given (YtkpbnjlafpcnjaaGreatDoorTie.lean); close each card by the builder's one call (the guide's Derived/Test/ToyasCard.lean, 'card_holds'). Laid BY PROGRAM, IN A SANDBOX (cutbox-door.mjs). By AI agents, Wed Nov 11 2026. No macro, syntax, notation, axiom, sorry.
-/
import Derived.Test.YtkpbnjlafpcnjaaGreatDoorRows
import GoSem.ClaimSeven
namespace Go.Proofs.YtkpbnjlafpcnjaaGreatDoor
namespace Rows

/-- THE TIED CARD OF 'laws.FnExactClusterOK'. -/
def fnExactClusterOKCard : Claim7 := { stood := { row := fnExactClusterOKRow, standIns := [], harness := (true, "7f7fe525b66d49c76ce45d489af64d0f5e7ecc28693a50f230b732d5458e4ce5"), looks := true }, kinds := [], alts := [], laidByText := true, laidKinds := [.handle, .sentinel, .sentinel, .sentinel, .sentinel, .sentinel, .sentinel, .sentinel, .sentinel, .sentinel], laidTests := true, laidLooks := .later }
def FnExactClusterOKCardSaid : Prop := Claim7.holds Tryz.pinned (.plain (OpenSpec.ofChange fnExactClusterOKSpec)) fnExactClusterOKCard

/-- THE SECOND FORM's CARD OF 'laws.FnExactClusterOK'. -/
def fnExactClusterOKUptoCard : Claim7 := { stood := { row := fnExactClusterOKUptoRow, standIns := [], harness := (true, "7f7fe525b66d49c76ce45d489af64d0f5e7ecc28693a50f230b732d5458e4ce5"), looks := true }, kinds := [], alts := [], laidByText := true, laidKinds := [.handle, .sentinel, .sentinel, .sentinel, .sentinel, .sentinel, .sentinel, .sentinel, .sentinel, .sentinel], laidTests := true, laidLooks := .later }
def FnExactClusterOKUptoCardSaid : Prop := Claim7.holds Tryz.pinned (.plain (OpenSpec.upto fnExactClusterOKSpec)) fnExactClusterOKUptoCard
end Rows
end Go.Proofs.YtkpbnjlafpcnjaaGreatDoor
