/-
  DERIVED. GIVEN WITH THE SEED: THE CARDS: each row of YtcgklaplofnemaaDoorRows.lean that lists a variable, with what it lists TIED to the program's text (the seventh form; the later family's looks); each row that meets fmt, with fmt's text TOLD by the authors' own Lean function (tested against real Go, not proved from fmt's source: count such statements apart). THE CARD IS WHAT COUNTS. Prove the row's statement (the work); the ties are given (YtcgklaplofnemaaDoorTie.lean); close each card by the builder's one call (the guide's Derived/Test/ToyasCard.lean, 'card_holds'). Laid BY PROGRAM, IN A SANDBOX (cutbox-door.mjs). By AI agents, Wed Nov 11 2026. No macro, syntax, notation, axiom, sorry.
-/
import Derived.Test.YtcgklaplofnemaaDoorRows
import GoSem.ClaimSeven
namespace Go.Proofs.YtcgklaplofnemaaDoor
namespace Rows

/-- THE TIED CARD OF 'laws.FnExactNewClient'. -/
def fnExactNewClientCard : Claim7 := { stood := { row := fnExactNewClientRow, standIns := [], harness := (true, "9f98e8f4ef591a7072b2fee42c9c369a475c5945f1fc507d64a4f81046421143"), looks := false }, kinds := [], alts := [], laidByText := true, laidKinds := [.data, .data, .data, .data], laidTests := true, laidLooks := .later }
def FnExactNewClientCardSaid : Prop := Claim7.holds Tryd.pinned (.plain (OpenSpec.ofChange fnExactNewClientSpec)) fnExactNewClientCard

/-- THE SECOND FORM's CARD OF 'laws.FnExactNewClient'. -/
def fnExactNewClientUptoCard : Claim7 := { stood := { row := fnExactNewClientUptoRow, standIns := [], harness := (true, "9f98e8f4ef591a7072b2fee42c9c369a475c5945f1fc507d64a4f81046421143"), looks := false }, kinds := [], alts := [], laidByText := true, laidKinds := [.data, .data, .data, .data], laidTests := true, laidLooks := .later }
def FnExactNewClientUptoCardSaid : Prop := Claim7.holds Tryd.pinned (.plain (OpenSpec.upto fnExactNewClientSpec)) fnExactNewClientUptoCard
end Rows
end Go.Proofs.YtcgklaplofnemaaDoor
