/-
  DERIVED. GIVEN WITH THE SEED: THE CARDS: each row of YtpcdjpfffanlbaaDoorRows.lean that lists a variable, with what it lists TIED to the program's text (the seventh form; the later family's looks); each row that meets fmt, with fmt's text TOLD by the authors' own Lean function (tested against real Go, not proved from fmt's source: count such statements apart). THE CARD IS WHAT COUNTS. Prove the row's statement (the work); the ties are given (YtpcdjpfffanlbaaDoorTie.lean); close each card by the builder's one call (the guide's Derived/Test/ToyasCard.lean, 'card_holds'). Laid BY PROGRAM, IN A SANDBOX (cutbox-door.mjs). By AI agents, Wed Nov 11 2026. No macro, syntax, notation, axiom, sorry.
-/
import Derived.Test.YtpcdjpfffanlbaaDoorRows
import GoSem.ClaimSeven
namespace Go.Proofs.YtpcdjpfffanlbaaDoor
namespace Rows

/-- THE TIED CARD OF 'laws.FnExactReadScreen'. -/
def fnExactReadScreenCard : Claim7 := { stood := { row := fnExactReadScreenRow, standIns := [], harness := (true, "459a7b9dbd22886fd044b4240ad35cc96abc0e5890326c997a6474b9a69f483d"), looks := true }, kinds := [], alts := [], laidByText := true, laidKinds := [.handle, .sentinel, .sentinel, .sentinel], laidTests := true, laidLooks := .later }
def FnExactReadScreenCardSaid : Prop := Claim7.holds Tryd.pinned (.plain (OpenSpec.ofChange fnExactReadScreenSpec)) fnExactReadScreenCard

/-- THE SECOND FORM's CARD OF 'laws.FnExactReadScreen'. -/
def fnExactReadScreenUptoCard : Claim7 := { stood := { row := fnExactReadScreenUptoRow, standIns := [], harness := (true, "459a7b9dbd22886fd044b4240ad35cc96abc0e5890326c997a6474b9a69f483d"), looks := true }, kinds := [], alts := [], laidByText := true, laidKinds := [.handle, .sentinel, .sentinel, .sentinel], laidTests := true, laidLooks := .later }
def FnExactReadScreenUptoCardSaid : Prop := Claim7.holds Tryd.pinned (.plain (OpenSpec.upto fnExactReadScreenSpec)) fnExactReadScreenUptoCard
end Rows
end Go.Proofs.YtpcdjpfffanlbaaDoor
