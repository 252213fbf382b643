/-
  DERIVED. GIVEN WITH THE SEED: THE CARDS: each row of YtblhediekdeffaaDoorRows.lean that lists a variable, with what it lists TIED to the program's text (the seventh form; the later family's looks); each row that meets fmt, with fmt's text TOLD by the authors' own Lean function (tested against real Go, not proved from fmt's source: count such statements apart). THE CARD IS WHAT COUNTS. Prove the row's statement (the work); the ties are given (YtblhediekdeffaaDoorTie.lean); close each card by the builder's one call (the guide's Derived/Test/ToyasCard.lean, 'card_holds'). Laid BY PROGRAM, IN A SANDBOX (cutbox-door.mjs). By AI agents, Wed Nov 11 2026. No macro, syntax, notation, axiom, sorry.
-/
import Derived.Test.YtblhediekdeffaaDoorRows
import GoSem.ClaimSeven
namespace Go.Proofs.YtblhediekdeffaaDoor
namespace Rows

/-- THE TIED CARD OF 'laws.FnExactReadView'. -/
def fnExactReadViewCard : Claim7 := { stood := { row := fnExactReadViewRow, standIns := [], harness := (true, "1675010c76a5e197ee8816e5edf978b323a0af425962403bffb53c4af2f8e8e5"), looks := true }, kinds := [], alts := [], laidByText := true, laidKinds := [.handle, .sentinel, .sentinel, .sentinel], laidTests := true, laidLooks := .later }
def FnExactReadViewCardSaid : Prop := Claim7.holds Tryd.pinned (.plain (OpenSpec.ofChange fnExactReadViewSpec)) fnExactReadViewCard

/-- THE SECOND FORM's CARD OF 'laws.FnExactReadView'. -/
def fnExactReadViewUptoCard : Claim7 := { stood := { row := fnExactReadViewUptoRow, standIns := [], harness := (true, "1675010c76a5e197ee8816e5edf978b323a0af425962403bffb53c4af2f8e8e5"), looks := true }, kinds := [], alts := [], laidByText := true, laidKinds := [.handle, .sentinel, .sentinel, .sentinel], laidTests := true, laidLooks := .later }
def FnExactReadViewUptoCardSaid : Prop := Claim7.holds Tryd.pinned (.plain (OpenSpec.upto fnExactReadViewSpec)) fnExactReadViewUptoCard
end Rows
end Go.Proofs.YtblhediekdeffaaDoor
