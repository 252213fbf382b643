/-
  DERIVED. GIVEN WITH THE SEED: THE CARDS: each row of YtgggghgbgndmhaaDoorRows.lean that lists a variable, with what it lists TIED to the program's text (the seventh form; the later family's looks); each row that meets fmt, with fmt's text TOLD by the authors' own Lean function (tested against real Go, not proved from fmt's source: count such statements apart). THE CARD IS WHAT COUNTS. Prove the row's statement (the work); the ties are given (YtgggghgbgndmhaaDoorTie.lean); close each card by the builder's one call (the guide's Derived/Test/ToyasCard.lean, 'card_holds'). Laid BY PROGRAM, IN A SANDBOX (cutbox-door.mjs). By AI agents, Wed Nov 11 2026. No macro, syntax, notation, axiom, sorry.
-/
import Derived.Test.YtgggghgbgndmhaaDoorRows
import GoSem.ClaimSeven
namespace Go.Proofs.YtgggghgbgndmhaaDoor
namespace Rows

/-- THE TIED CARD OF 'laws.FnExactReadFields'. -/
def fnExactReadFieldsCard : Claim7 := { stood := { row := fnExactReadFieldsRow, standIns := [], harness := (true, "af828540c23b1393ab1419f16fc463c50815db797dfaa682abf0e7a1dd8124b2"), looks := true }, kinds := [], alts := [], laidByText := true, laidKinds := [.handle, .sentinel, .sentinel, .sentinel], laidTests := true, laidLooks := .later }
def FnExactReadFieldsCardSaid : Prop := Claim7.holds Tryd.pinned (.plain (OpenSpec.ofChange fnExactReadFieldsSpec)) fnExactReadFieldsCard

/-- THE TIED CARD OF 'laws.FnExactArgOf'. -/
def fnExactArgOfCard : Claim7 := { stood := { row := fnExactArgOfRow, standIns := [], harness := (true, "af828540c23b1393ab1419f16fc463c50815db797dfaa682abf0e7a1dd8124b2"), looks := true }, kinds := [], alts := [], laidByText := true, laidKinds := [.data], laidTests := true, laidLooks := .later }
def FnExactArgOfCardSaid : Prop := Claim7.holds Tryd.pinned (.plain (OpenSpec.ofChange fnExactArgOfSpec)) fnExactArgOfCard

/-- THE SECOND FORM's CARD OF 'laws.FnExactReadFields'. -/
def fnExactReadFieldsUptoCard : Claim7 := { stood := { row := fnExactReadFieldsUptoRow, standIns := [], harness := (true, "af828540c23b1393ab1419f16fc463c50815db797dfaa682abf0e7a1dd8124b2"), looks := true }, kinds := [], alts := [], laidByText := true, laidKinds := [.handle, .sentinel, .sentinel, .sentinel], laidTests := true, laidLooks := .later }
def FnExactReadFieldsUptoCardSaid : Prop := Claim7.holds Tryd.pinned (.plain (OpenSpec.upto fnExactReadFieldsSpec)) fnExactReadFieldsUptoCard

/-- THE SECOND FORM's CARD OF 'laws.FnExactArgOf'. -/
def fnExactArgOfUptoCard : Claim7 := { stood := { row := fnExactArgOfUptoRow, standIns := [], harness := (true, "af828540c23b1393ab1419f16fc463c50815db797dfaa682abf0e7a1dd8124b2"), looks := true }, kinds := [], alts := [], laidByText := true, laidKinds := [.data], laidTests := true, laidLooks := .later }
def FnExactArgOfUptoCardSaid : Prop := Claim7.holds Tryd.pinned (.plain (OpenSpec.upto fnExactArgOfSpec)) fnExactArgOfUptoCard
end Rows
end Go.Proofs.YtgggghgbgndmhaaDoor
