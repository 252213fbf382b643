/-
  DERIVED. GIVEN WITH THE SEED: THE CARDS: each row of YtninnmcehcaadaaDoorRows.lean that lists a variable, with what it lists TIED to the program's text (the seventh form; the later family's looks); each row that meets fmt, with fmt's text TOLD by the authors' own Lean function (tested against real Go, not proved from fmt's source: count such statements apart). THE CARD IS WHAT COUNTS. Prove the row's statement (the work); the ties are given (YtninnmcehcaadaaDoorTie.lean); close each card by the builder's one call (the guide's Derived/Test/ToyasCard.lean, 'card_holds'). Laid BY PROGRAM, IN A SANDBOX (cutbox-door.mjs). By AI agents, Wed Nov 11 2026. No macro, syntax, notation, axiom, sorry.
-/
import Derived.Test.YtninnmcehcaadaaDoorRows
import GoSem.ClaimSeven
namespace Go.Proofs.YtninnmcehcaadaaDoor
namespace Rows

/-- THE TIED CARD OF 'laws.FnExactApplyRecord'. -/
def fnExactApplyRecordCard : Claim7 := { stood := { row := fnExactApplyRecordRow, standIns := [], harness := (true, "9225d0d79177a0e43e8e5c08ac12e9f4fa8be89297d22df0b0a9ef27ba4109d4"), looks := true }, kinds := [], alts := [], laidByText := true, laidKinds := [.handle, .sentinel, .sentinel, .sentinel, .sentinel, .sentinel, .sentinel, .sentinel, .sentinel], laidTests := true, laidLooks := .later }
def FnExactApplyRecordCardSaid : Prop := Claim7.holds Tryd.pinned (.plain (OpenSpec.ofChange fnExactApplyRecordSpec)) fnExactApplyRecordCard

/-- THE SECOND FORM's CARD OF 'laws.FnExactApplyRecord'. -/
def fnExactApplyRecordUptoCard : Claim7 := { stood := { row := fnExactApplyRecordUptoRow, standIns := [], harness := (true, "9225d0d79177a0e43e8e5c08ac12e9f4fa8be89297d22df0b0a9ef27ba4109d4"), looks := true }, kinds := [], alts := [], laidByText := true, laidKinds := [.handle, .sentinel, .sentinel, .sentinel, .sentinel, .sentinel, .sentinel, .sentinel, .sentinel], laidTests := true, laidLooks := .later }
def FnExactApplyRecordUptoCardSaid : Prop := Claim7.holds Tryd.pinned (.plain (OpenSpec.upto fnExactApplyRecordSpec)) fnExactApplyRecordUptoCard
end Rows
end Go.Proofs.YtninnmcehcaadaaDoor
