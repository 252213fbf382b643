/-
  DERIVED. GIVEN WITH THE SEED: THE CARDS: each row of YtoghgmdiojnglaaDoorRows.lean that lists a variable, with what it lists TIED to the program's text (the seventh form; the later family's looks); each row that meets fmt, with fmt's text TOLD by the authors' own Lean function (tested against real Go, not proved from fmt's source: count such statements apart). THE CARD IS WHAT COUNTS. Prove the row's statement (the work); the ties are given (YtoghgmdiojnglaaDoorTie.lean); close each card by the builder's one call (the guide's Derived/Test/ToyasCard.lean, 'card_holds'). Laid BY PROGRAM, IN A SANDBOX (cutbox-door.mjs). By AI agents, Wed Nov 11 2026. No macro, syntax, notation, axiom, sorry.
-/
import Derived.Test.YtoghgmdiojnglaaDoorRows
import GoSem.ClaimSeven
namespace Go.Proofs.YtoghgmdiojnglaaDoor
namespace Rows

/-- THE TIED CARD OF 'laws.FnExactTokenMark'. -/
def fnExactTokenMarkCard : Claim7 := { stood := { row := fnExactTokenMarkRow, standIns := [], harness := (true, "6c1286fb0cc8538d4f08b47433e645065e73d29227fbcefa090a3c6f6bbf5923"), looks := false }, kinds := [], alts := [], laidByText := true, laidKinds := [.data, .data, .data, .data], laidTests := true, laidLooks := .later }
def FnExactTokenMarkCardSaid : Prop := Claim7.holds Tryd.pinned (.plain (OpenSpec.ofChange fnExactTokenMarkSpec)) fnExactTokenMarkCard

/-- THE SECOND FORM's CARD OF 'laws.FnExactTokenMark'. -/
def fnExactTokenMarkUptoCard : Claim7 := { stood := { row := fnExactTokenMarkUptoRow, standIns := [], harness := (true, "6c1286fb0cc8538d4f08b47433e645065e73d29227fbcefa090a3c6f6bbf5923"), looks := false }, kinds := [], alts := [], laidByText := true, laidKinds := [.data, .data, .data, .data], laidTests := true, laidLooks := .later }
def FnExactTokenMarkUptoCardSaid : Prop := Claim7.holds Tryd.pinned (.plain (OpenSpec.upto fnExactTokenMarkSpec)) fnExactTokenMarkUptoCard
end Rows
end Go.Proofs.YtoghgmdiojnglaaDoor
