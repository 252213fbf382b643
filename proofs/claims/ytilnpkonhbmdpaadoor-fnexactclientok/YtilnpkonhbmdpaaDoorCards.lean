/-
  DERIVED. GIVEN WITH THE SEED: THE CARDS: each row of YtilnpkonhbmdpaaDoorRows.lean that lists a variable, with what it lists TIED to the program's text (the seventh form; the later family's looks); each row that meets fmt, with fmt's text TOLD by the authors' own Lean function (tested against real Go, not proved from fmt's source: count such statements apart). THE CARD IS WHAT COUNTS. Prove the row's statement (the work); the ties are given (YtilnpkonhbmdpaaDoorTie.lean); close each card by the builder's one call (the guide's Derived/Test/ToyasCard.lean, 'card_holds'). Laid BY PROGRAM, IN A SANDBOX (cutbox-door.mjs). By AI agents, Wed Nov 11 2026. No macro, syntax, notation, axiom, sorry.
-/
import Derived.Test.YtilnpkonhbmdpaaDoorRows
import GoSem.ClaimSeven
namespace Go.Proofs.YtilnpkonhbmdpaaDoor
namespace Rows

/-- THE TIED CARD OF 'laws.FnExactClientOK'. -/
def fnExactClientOKCard : Claim7 := { stood := { row := fnExactClientOKRow, standIns := [], harness := (true, "1404abdb66e6758719d29d6009d2a32fd73ce876f3246b302af8ef6ec4a3a80c"), looks := false }, kinds := [], alts := [], laidByText := true, laidKinds := [.data, .data, .data, .data], laidTests := true, laidLooks := .later }
def FnExactClientOKCardSaid : Prop := Claim7.holds Tryd.pinned (.plain (OpenSpec.ofChange fnExactClientOKSpec)) fnExactClientOKCard

/-- THE SECOND FORM's CARD OF 'laws.FnExactClientOK'. -/
def fnExactClientOKUptoCard : Claim7 := { stood := { row := fnExactClientOKUptoRow, standIns := [], harness := (true, "1404abdb66e6758719d29d6009d2a32fd73ce876f3246b302af8ef6ec4a3a80c"), looks := false }, kinds := [], alts := [], laidByText := true, laidKinds := [.data, .data, .data, .data], laidTests := true, laidLooks := .later }
def FnExactClientOKUptoCardSaid : Prop := Claim7.holds Tryd.pinned (.plain (OpenSpec.upto fnExactClientOKSpec)) fnExactClientOKUptoCard
end Rows
end Go.Proofs.YtilnpkonhbmdpaaDoor
