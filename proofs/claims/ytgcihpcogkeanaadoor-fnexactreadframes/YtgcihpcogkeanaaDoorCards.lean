/-
  DERIVED. GIVEN WITH THE SEED: THE CARDS: each row of YtgcihpcogkeanaaDoorRows.lean that lists a variable, with what it lists TIED to the program's text (the seventh form; the later family's looks); each row that meets fmt, with fmt's text TOLD by the authors' own Lean function (tested against real Go, not proved from fmt's source: count such statements apart). THE CARD IS WHAT COUNTS. Prove the row's statement (the work); the ties are given (YtgcihpcogkeanaaDoorTie.lean); close each card by the builder's one call (the guide's Derived/Test/ToyasCard.lean, 'card_holds'). Laid BY PROGRAM, IN A SANDBOX (cutbox-door.mjs). By AI agents, Wed Nov 11 2026. No macro, syntax, notation, axiom, sorry.
-/
import Derived.Test.YtgcihpcogkeanaaDoorRows
import GoSem.ClaimSeven
namespace Go.Proofs.YtgcihpcogkeanaaDoor
namespace Rows

/-- THE TIED CARD OF 'laws.FnExactReadFrames'. -/
def fnExactReadFramesCard : Claim7 := { stood := { row := fnExactReadFramesRow, standIns := [], harness := (true, "36ee147eafc3c352b8ca20f0d0e225167316b1cb988924f406f9a0a0cdabc0ab"), looks := true }, kinds := [], alts := [], laidByText := true, laidKinds := [.handle, .sentinel, .sentinel, .sentinel], laidTests := true, laidLooks := .later }
def FnExactReadFramesCardSaid : Prop := Claim7.holds Tryd.pinned (.plain (OpenSpec.ofChange fnExactReadFramesSpec)) fnExactReadFramesCard

/-- THE SECOND FORM's CARD OF 'laws.FnExactReadFrames'. -/
def fnExactReadFramesUptoCard : Claim7 := { stood := { row := fnExactReadFramesUptoRow, standIns := [], harness := (true, "36ee147eafc3c352b8ca20f0d0e225167316b1cb988924f406f9a0a0cdabc0ab"), looks := true }, kinds := [], alts := [], laidByText := true, laidKinds := [.handle, .sentinel, .sentinel, .sentinel], laidTests := true, laidLooks := .later }
def FnExactReadFramesUptoCardSaid : Prop := Claim7.holds Tryd.pinned (.plain (OpenSpec.upto fnExactReadFramesSpec)) fnExactReadFramesUptoCard
end Rows
end Go.Proofs.YtgcihpcogkeanaaDoor
