/-
  DERIVED. GIVEN WITH THE SEED: THE CARDS: each row of YtiacdkkcjdbjfaaDoorRows.lean that lists a variable, with what it lists TIED to the program's text (the seventh form; the later family's looks); each row that meets fmt, with fmt's text TOLD by the authors' own Lean function (tested against real Go, not proved from fmt's source: count such statements apart). THE CARD IS WHAT COUNTS. Prove the row's statement (the work); the ties are given (YtiacdkkcjdbjfaaDoorTie.lean); close each card by the builder's one call (the guide's Derived/Test/ToyasCard.lean, 'card_holds'). Laid BY PROGRAM, IN A SANDBOX (cutbox-door.mjs). By AI agents, Wed Nov 11 2026. No macro, syntax, notation, axiom, sorry.
-/
import Derived.Test.YtiacdkkcjdbjfaaDoorRows
import GoSem.ClaimSeven
namespace Go.Proofs.YtiacdkkcjdbjfaaDoor
namespace Rows

/-- THE TIED CARD OF 'laws.FnExactFullView'. -/
def fnExactFullViewCard : Claim7 := { stood := { row := fnExactFullViewRow, standIns := [], harness := (true, "3212cde5291a872022411a11f9252bf22681ba18b6a35aee0988f2476dc1075b"), looks := false }, kinds := [], alts := [], laidByText := true, laidKinds := [.data], laidTests := true, laidLooks := .later }
def FnExactFullViewCardSaid : Prop := Claim7.holds Tryd.pinned (.plain (OpenSpec.ofChange fnExactFullViewSpec)) fnExactFullViewCard

/-- THE SECOND FORM's CARD OF 'laws.FnExactFullView'. -/
def fnExactFullViewUptoCard : Claim7 := { stood := { row := fnExactFullViewUptoRow, standIns := [], harness := (true, "3212cde5291a872022411a11f9252bf22681ba18b6a35aee0988f2476dc1075b"), looks := false }, kinds := [], alts := [], laidByText := true, laidKinds := [.data], laidTests := true, laidLooks := .later }
def FnExactFullViewUptoCardSaid : Prop := Claim7.holds Tryd.pinned (.plain (OpenSpec.upto fnExactFullViewSpec)) fnExactFullViewUptoCard
end Rows
end Go.Proofs.YtiacdkkcjdbjfaaDoor
