/-
  DERIVED. GIVEN WITH THE SEED: THE CARDS: each row of YtfolbdhhmhcfpaaGreatDoorRows.lean that lists a variable, with what it lists TIED to the program's text (the seventh form; the later family's looks); each row that meets fmt, with fmt's text TOLD by the authors' own Lean function (tested against real Go, not proved from fmt's source: count such statements apart). THE CARD IS WHAT COUNTS. Prove the row's statement (the work); the ties are given (YtfolbdhhmhcfpaaGreatDoorTie.lean); close each card by the builder's one call (the guide's Derived/Test/ToyasCard.lean, 'card_holds'). Laid BY PROGRAM, IN A SANDBOX (cutbox-door.mjs). By AI agents, Wed Nov 11 2026. No macro, syntax, notation, axiom, sorry.
-/
import Derived.Test.YtfolbdhhmhcfpaaGreatDoorRows
import GoSem.ClaimSeven
namespace Go.Proofs.YtfolbdhhmhcfpaaGreatDoor
namespace Rows

/-- THE TIED CARD OF 'laws.FnExactCommitsAgree'. -/
def fnExactCommitsAgreeCard : Claim7 := { stood := { row := fnExactCommitsAgreeRow, standIns := [], harness := (true, "70d8fb8279a0dff55457b9147b0f7a3b6b212260577f65b6565c916508bb2a9a"), looks := true }, kinds := [], alts := [], laidByText := true, laidKinds := [.handle, .sentinel, .sentinel, .sentinel, .sentinel, .sentinel, .sentinel, .sentinel, .sentinel, .sentinel], laidTests := true, laidLooks := .later }
def FnExactCommitsAgreeCardSaid : Prop := Claim7.holds Tryz.pinned (.plain (OpenSpec.ofChange fnExactCommitsAgreeSpec)) fnExactCommitsAgreeCard

/-- THE SECOND FORM's CARD OF 'laws.FnExactCommitsAgree'. -/
def fnExactCommitsAgreeUptoCard : Claim7 := { stood := { row := fnExactCommitsAgreeUptoRow, standIns := [], harness := (true, "70d8fb8279a0dff55457b9147b0f7a3b6b212260577f65b6565c916508bb2a9a"), looks := true }, kinds := [], alts := [], laidByText := true, laidKinds := [.handle, .sentinel, .sentinel, .sentinel, .sentinel, .sentinel, .sentinel, .sentinel, .sentinel, .sentinel], laidTests := true, laidLooks := .later }
def FnExactCommitsAgreeUptoCardSaid : Prop := Claim7.holds Tryz.pinned (.plain (OpenSpec.upto fnExactCommitsAgreeSpec)) fnExactCommitsAgreeUptoCard
end Rows
end Go.Proofs.YtfolbdhhmhcfpaaGreatDoor
