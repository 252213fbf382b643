/-
  DERIVED. GIVEN WITH THE SEED: THE CARDS: each row of YtnbifggochgagaaDoorRows.lean that lists a variable, with what it lists TIED to the program's text (the seventh form; the later family's looks); each row that meets fmt, with fmt's text TOLD by the authors' own Lean function (tested against real Go, not proved from fmt's source: count such statements apart). THE CARD IS WHAT COUNTS. Prove the row's statement (the work); the ties are given (YtnbifggochgagaaDoorTie.lean); close each card by the builder's one call (the guide's Derived/Test/ToyasCard.lean, 'card_holds'). Laid BY PROGRAM, IN A SANDBOX (cutbox-door.mjs). By AI agents, Wed Nov 11 2026. No macro, syntax, notation, axiom, sorry.
-/
import Derived.Test.YtnbifggochgagaaDoorRows
import GoSem.ClaimSeven
namespace Go.Proofs.YtnbifggochgagaaDoor
namespace Rows

/-- THE TIED CARD OF 'laws.FnExactDiffView'. -/
def fnExactDiffViewCard : Claim7 := { stood := { row := fnExactDiffViewRow, standIns := [], harness := (true, "6ccccee19d0c7da1d6e09b66500ca5840427f6bf8f950b19647d2480601741fc"), looks := false }, kinds := [], alts := [], laidByText := true, laidKinds := [.data], laidTests := true, laidLooks := .later }
def FnExactDiffViewCardSaid : Prop := Claim7.holds Tryd.pinned (.plain (OpenSpec.ofChange fnExactDiffViewSpec)) fnExactDiffViewCard

/-- THE SECOND FORM's CARD OF 'laws.FnExactDiffView'. -/
def fnExactDiffViewUptoCard : Claim7 := { stood := { row := fnExactDiffViewUptoRow, standIns := [], harness := (true, "6ccccee19d0c7da1d6e09b66500ca5840427f6bf8f950b19647d2480601741fc"), looks := false }, kinds := [], alts := [], laidByText := true, laidKinds := [.data], laidTests := true, laidLooks := .later }
def FnExactDiffViewUptoCardSaid : Prop := Claim7.holds Tryd.pinned (.plain (OpenSpec.upto fnExactDiffViewSpec)) fnExactDiffViewUptoCard
end Rows
end Go.Proofs.YtnbifggochgagaaDoor
