/-
  DERIVED. GIVEN WITH THE SEED: THE CARDS: each row of YtagjhbogidldjaaDoorRows.lean that lists a variable, with what it lists TIED to the program's text (the seventh form; the later family's looks); each row that meets fmt, with fmt's text TOLD by the authors' own Lean function (tested against real Go, not proved from fmt's source: count such statements apart). THE CARD IS WHAT COUNTS. Prove the row's statement (the work); the ties are given (YtagjhbogidldjaaDoorTie.lean); close each card by the builder's one call (the guide's Derived/Test/ToyasCard.lean, 'card_holds'). Laid BY PROGRAM, IN A SANDBOX (cutbox-door.mjs). By AI agents, Wed Nov 11 2026. No macro, syntax, notation, axiom, sorry.
-/
import Derived.Test.YtagjhbogidldjaaDoorRows
import GoSem.ClaimSeven
namespace Go.Proofs.YtagjhbogidldjaaDoor
namespace Rows

/-- THE TIED CARD OF 'laws.FnExactIssueToken'. -/
def fnExactIssueTokenCard : Claim7 := { stood := { row := fnExactIssueTokenRow, standIns := [], harness := (true, "5db2fb3587a83b3b8f81c51e93a045b80a9d384c9ef0f8e46067af9d96a592ce"), looks := false }, kinds := [], alts := [], laidByText := true, laidKinds := [.data, .data, .data, .data], laidTests := true, laidLooks := .later }
def FnExactIssueTokenCardSaid : Prop := Claim7.holds Tryd.pinned (.plain (OpenSpec.ofChange fnExactIssueTokenSpec)) fnExactIssueTokenCard

/-- THE SECOND FORM's CARD OF 'laws.FnExactIssueToken'. -/
def fnExactIssueTokenUptoCard : Claim7 := { stood := { row := fnExactIssueTokenUptoRow, standIns := [], harness := (true, "5db2fb3587a83b3b8f81c51e93a045b80a9d384c9ef0f8e46067af9d96a592ce"), looks := false }, kinds := [], alts := [], laidByText := true, laidKinds := [.data, .data, .data, .data], laidTests := true, laidLooks := .later }
def FnExactIssueTokenUptoCardSaid : Prop := Claim7.holds Tryd.pinned (.plain (OpenSpec.upto fnExactIssueTokenSpec)) fnExactIssueTokenUptoCard
end Rows
end Go.Proofs.YtagjhbogidldjaaDoor
