/-
  DERIVED. GIVEN WITH THE SEED: THE CARDS: each row of YtmmnoepcklfonaaGreatDoorRows.lean that lists a variable, with what it lists TIED to the program's text (the seventh form; the later family's looks); each row that meets fmt, with fmt's text TOLD by the authors' own Lean function (tested against real Go, not proved from fmt's source: count such statements apart). THE CARD IS WHAT COUNTS. Prove the row's statement (the work); the ties are given (YtmmnoepcklfonaaGreatDoorTie.lean); close each card by the builder's one call (the guide's Derived/Test/ToyasCard.lean, 'card_holds'). Laid BY PROGRAM, IN A SANDBOX (cutbox-door.mjs). By AI agents, Wed Nov 11 2026. No macro, syntax, notation, axiom, sorry.
-/
import Derived.Test.YtmmnoepcklfonaaGreatDoorRows
import GoSem.ClaimSeven
namespace Go.Proofs.YtmmnoepcklfonaaGreatDoor
namespace Rows

/-- THE TIED CARD OF 'laws.FnExactClientAccept'. -/
def fnExactClientAcceptCard : Claim7 := { stood := { row := fnExactClientAcceptRow, standIns := [], harness := (true, "da276778529c3ded4f80a792207a691b21ded52acb02b12afad4ca01d9d6c2fe"), looks := false }, kinds := [], alts := [], laidByText := true, laidKinds := [.data, .data, .data, .data], laidTests := true, laidLooks := .later }
def FnExactClientAcceptCardSaid : Prop := Claim7.holds Tryz.pinned (.plain (OpenSpec.ofChange fnExactClientAcceptSpec)) fnExactClientAcceptCard

/-- THE SECOND FORM's CARD OF 'laws.FnExactClientAccept'. -/
def fnExactClientAcceptUptoCard : Claim7 := { stood := { row := fnExactClientAcceptUptoRow, standIns := [], harness := (true, "da276778529c3ded4f80a792207a691b21ded52acb02b12afad4ca01d9d6c2fe"), looks := false }, kinds := [], alts := [], laidByText := true, laidKinds := [.data, .data, .data, .data], laidTests := true, laidLooks := .later }
def FnExactClientAcceptUptoCardSaid : Prop := Claim7.holds Tryz.pinned (.plain (OpenSpec.upto fnExactClientAcceptSpec)) fnExactClientAcceptUptoCard
end Rows
end Go.Proofs.YtmmnoepcklfonaaGreatDoor
