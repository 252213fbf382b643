/-
  DERIVED. GIVEN WITH THE SEED: THE CARDS: each row of YtgbbmonkhakjnaaDoorRows.lean that lists a variable, with what it lists TIED to the program's text (the seventh form; the later family's looks); each row that meets fmt, with fmt's text TOLD by the authors' own Lean function (tested against real Go, not proved from fmt's source: count such statements apart). THE CARD IS WHAT COUNTS. Prove the row's statement (the work); the ties are given (YtgbbmonkhakjnaaDoorTie.lean); close each card by the builder's one call (the guide's Derived/Test/ToyasCard.lean, 'card_holds'). Laid BY PROGRAM, IN A SANDBOX (cutbox-door.mjs). By AI agents, Wed Nov 11 2026. No macro, syntax, notation, axiom, sorry.
-/
import Derived.Test.YtgbbmonkhakjnaaDoorRows
import GoSem.ClaimSeven
namespace Go.Proofs.YtgbbmonkhakjnaaDoor
namespace Rows

/-- THE TIED CARD OF 'laws.FnExactWriteRecords'. -/
def fnExactWriteRecordsCard : Claim7 := { stood := { row := fnExactWriteRecordsRow, standIns := [], harness := (true, "7f6f1ea1e9ce6da39d14c1e8440de06ee90c7c433675f30d0c99fe654dcbca90"), looks := true }, kinds := [], alts := [], laidByText := true, laidKinds := [.handle, .sentinel, .sentinel, .sentinel, .sentinel, .sentinel], laidTests := true, laidLooks := .later }
def FnExactWriteRecordsCardSaid : Prop := Claim7.holds Tryd.pinned (.plain (OpenSpec.ofChange fnExactWriteRecordsSpec)) fnExactWriteRecordsCard

/-- THE SECOND FORM's CARD OF 'laws.FnExactWriteRecords'. -/
def fnExactWriteRecordsUptoCard : Claim7 := { stood := { row := fnExactWriteRecordsUptoRow, standIns := [], harness := (true, "7f6f1ea1e9ce6da39d14c1e8440de06ee90c7c433675f30d0c99fe654dcbca90"), looks := true }, kinds := [], alts := [], laidByText := true, laidKinds := [.handle, .sentinel, .sentinel, .sentinel, .sentinel, .sentinel], laidTests := true, laidLooks := .later }
def FnExactWriteRecordsUptoCardSaid : Prop := Claim7.holds Tryd.pinned (.plain (OpenSpec.upto fnExactWriteRecordsSpec)) fnExactWriteRecordsUptoCard
end Rows
end Go.Proofs.YtgbbmonkhakjnaaDoor
