/-
  DERIVED. GIVEN WITH THE SEED: THE CARDS: each row of YtfogppnijdjakaaGreatDoorRows.lean that lists a variable, with what it lists TIED to the program's text (the seventh form; the later family's looks); each row that meets fmt, with fmt's text TOLD by the authors' own Lean function (tested against real Go, not proved from fmt's source: count such statements apart). THE CARD IS WHAT COUNTS. Prove the row's statement (the work); the ties are given (YtfogppnijdjakaaGreatDoorTie.lean); close each card by the builder's one call (the guide's Derived/Test/ToyasCard.lean, 'card_holds'). Laid BY PROGRAM, IN A SANDBOX (cutbox-door.mjs). By AI agents, Wed Nov 11 2026. No macro, syntax, notation, axiom, sorry.
-/
import Derived.Test.YtfogppnijdjakaaGreatDoorRows
import GoSem.ClaimSeven
namespace Go.Proofs.YtfogppnijdjakaaGreatDoor
namespace Rows

/-- THE TIED CARD OF 'laws.FnExactLongestDone'. -/
def fnExactLongestDoneCard : Claim7 := { stood := { row := fnExactLongestDoneRow, standIns := [], harness := (true, "406f366961d129f886a223a834653f1f44c4bf7d930eae4a42585a5fddfb4473"), looks := true }, kinds := [], alts := [], laidByText := true, laidKinds := [.handle, .sentinel, .sentinel, .sentinel, .sentinel, .sentinel, .sentinel, .sentinel, .sentinel, .sentinel], laidTests := true, laidLooks := .later }
def FnExactLongestDoneCardSaid : Prop := Claim7.holds Tryz.pinned (.plain (OpenSpec.ofChange fnExactLongestDoneSpec)) fnExactLongestDoneCard

/-- THE SECOND FORM's CARD OF 'laws.FnExactLongestDone'. -/
def fnExactLongestDoneUptoCard : Claim7 := { stood := { row := fnExactLongestDoneUptoRow, standIns := [], harness := (true, "406f366961d129f886a223a834653f1f44c4bf7d930eae4a42585a5fddfb4473"), looks := true }, kinds := [], alts := [], laidByText := true, laidKinds := [.handle, .sentinel, .sentinel, .sentinel, .sentinel, .sentinel, .sentinel, .sentinel, .sentinel, .sentinel], laidTests := true, laidLooks := .later }
def FnExactLongestDoneUptoCardSaid : Prop := Claim7.holds Tryz.pinned (.plain (OpenSpec.upto fnExactLongestDoneSpec)) fnExactLongestDoneUptoCard
end Rows
end Go.Proofs.YtfogppnijdjakaaGreatDoor
