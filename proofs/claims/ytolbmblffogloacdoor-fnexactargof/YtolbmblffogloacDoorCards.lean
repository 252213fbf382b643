/-
  DERIVED. GIVEN WITH THE SEED: THE CARDS: each row of YtolbmblffogloacDoorRows.lean that lists a variable, with what it lists TIED to the program's text (the seventh form; the later family's looks); each row that meets fmt, with fmt's text TOLD by the authors' own Lean function (tested against real Go, not proved from fmt's source: count such statements apart). THE CARD IS WHAT COUNTS. Prove the row's statement (the work); the ties are given (YtolbmblffogloacDoorTie.lean); close each card by the builder's one call (the guide's Derived/Test/ToyasCard.lean, 'card_holds'). Laid BY PROGRAM, IN A SANDBOX (cutbox-door.mjs). By AI agents, Wed Nov 11 2026. No macro, syntax, notation, axiom, sorry.
-/
import Derived.Test.YtolbmblffogloacDoorRows
import GoSem.ClaimSeven
namespace Go.Proofs.YtolbmblffogloacDoor
namespace Rows

/-- THE TIED CARD OF 'laws.FnExactArgOf'. -/
def fnExactArgOfCard : Claim7 := { stood := { row := fnExactArgOfRow, standIns := [], harness := (true, "e00d98878f9de092a3fffe559125699b4c7bb23b9b833b4571ce1120be1c2730"), looks := false }, kinds := [], alts := [], laidByText := true, laidKinds := [.data], laidTests := true, laidLooks := .later }
def FnExactArgOfCardSaid : Prop := Claim7.holds Tryd.pinned (.plain (OpenSpec.ofChange fnExactArgOfSpec)) fnExactArgOfCard

/-- THE SECOND FORM's CARD OF 'laws.FnExactArgOf'. -/
def fnExactArgOfUptoCard : Claim7 := { stood := { row := fnExactArgOfUptoRow, standIns := [], harness := (true, "e00d98878f9de092a3fffe559125699b4c7bb23b9b833b4571ce1120be1c2730"), looks := false }, kinds := [], alts := [], laidByText := true, laidKinds := [.data], laidTests := true, laidLooks := .later }
def FnExactArgOfUptoCardSaid : Prop := Claim7.holds Tryd.pinned (.plain (OpenSpec.upto fnExactArgOfSpec)) fnExactArgOfUptoCard
end Rows
end Go.Proofs.YtolbmblffogloacDoor
