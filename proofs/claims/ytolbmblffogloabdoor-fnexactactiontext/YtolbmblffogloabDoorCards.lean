/-
  DERIVED. GIVEN WITH THE SEED: THE CARDS: each row of YtolbmblffogloabDoorRows.lean that lists a variable, with what it lists TIED to the program's text (the seventh form; the later family's looks); each row that meets fmt, with fmt's text TOLD by the authors' own Lean function (tested against real Go, not proved from fmt's source: count such statements apart). THE CARD IS WHAT COUNTS. Prove the row's statement (the work); the ties are given (YtolbmblffogloabDoorTie.lean); close each card by the builder's one call (the guide's Derived/Test/ToyasCard.lean, 'card_holds'). Laid BY PROGRAM, IN A SANDBOX (cutbox-door.mjs). By AI agents, Wed Nov 11 2026. No macro, syntax, notation, axiom, sorry.
-/
import Derived.Test.YtolbmblffogloabDoorRows
import GoSem.ClaimSeven
namespace Go.Proofs.YtolbmblffogloabDoor
namespace Rows

/-- THE TIED CARD OF 'laws.FnExactReadFields'. -/
def fnExactReadFieldsCard : Claim7 := { stood := { row := fnExactReadFieldsRow, standIns := [], harness := (true, "f1e6280f6bdfbfb78102d1c2fbd31150a5d54e2c8b232344dc5b5775dbab5bda"), looks := true }, kinds := [], alts := [], laidByText := true, laidKinds := [.handle, .sentinel, .sentinel, .sentinel], laidTests := true, laidLooks := .later }
def FnExactReadFieldsCardSaid : Prop := Claim7.holds Tryd.pinned (.plain (OpenSpec.ofChange fnExactReadFieldsSpec)) fnExactReadFieldsCard

/-- THE TIED CARD OF 'laws.FnExactParserOK'. -/
def fnExactParserOKCard : Claim7 := { stood := { row := fnExactParserOKRow, standIns := [], harness := (true, "f1e6280f6bdfbfb78102d1c2fbd31150a5d54e2c8b232344dc5b5775dbab5bda"), looks := true }, kinds := [], alts := [], laidByText := true, laidKinds := [.data, .data, .pinned], laidTests := true, laidLooks := .later }
def FnExactParserOKCardSaid : Prop := Claim7.holds Tryd.pinned (.plain (OpenSpec.ofChange fnExactParserOKSpec)) fnExactParserOKCard

/-- THE TIED CARD OF 'laws.FnExactParseByte'. -/
def fnExactParseByteCard : Claim7 := { stood := { row := fnExactParseByteRow, standIns := [], harness := (true, "f1e6280f6bdfbfb78102d1c2fbd31150a5d54e2c8b232344dc5b5775dbab5bda"), looks := true }, kinds := [], alts := [], laidByText := true, laidKinds := [.data, .data, .data, .pinned], laidTests := true, laidLooks := .later }
def FnExactParseByteCardSaid : Prop := Claim7.holds Tryd.pinned (.plain (OpenSpec.ofChange fnExactParseByteSpec)) fnExactParseByteCard

/-- THE TIED CARD OF 'laws.FnExactParseBytes'. -/
def fnExactParseBytesCard : Claim7 := { stood := { row := fnExactParseBytesRow, standIns := [], harness := (true, "f1e6280f6bdfbfb78102d1c2fbd31150a5d54e2c8b232344dc5b5775dbab5bda"), looks := true }, kinds := [], alts := [], laidByText := true, laidKinds := [.data, .data, .data, .pinned], laidTests := true, laidLooks := .later }
def FnExactParseBytesCardSaid : Prop := Claim7.holds Tryd.pinned (.plain (OpenSpec.ofChange fnExactParseBytesSpec)) fnExactParseBytesCard

/-- THE TIED CARD OF 'laws.FnExactActionOK'. -/
def fnExactActionOKCard : Claim7 := { stood := { row := fnExactActionOKRow, standIns := [], harness := (true, "f1e6280f6bdfbfb78102d1c2fbd31150a5d54e2c8b232344dc5b5775dbab5bda"), looks := true }, kinds := [], alts := [], laidByText := true, laidKinds := [.data], laidTests := true, laidLooks := .later }
def FnExactActionOKCardSaid : Prop := Claim7.holds Tryd.pinned (.plain (OpenSpec.ofChange fnExactActionOKSpec)) fnExactActionOKCard

/-- THE TIED CARD OF 'laws.FnExactActionText'. -/
def fnExactActionTextCard : Claim7 := { stood := { row := fnExactActionTextRow, standIns := [], harness := (true, "f1e6280f6bdfbfb78102d1c2fbd31150a5d54e2c8b232344dc5b5775dbab5bda"), looks := true }, kinds := [], alts := [], laidByText := true, laidKinds := [.data, .data, .data, .data], laidTests := true, laidLooks := .later }
def FnExactActionTextCardSaid : Prop := Claim7.holds Tryd.pinned (.plain (OpenSpec.ofChange fnExactActionTextSpec)) fnExactActionTextCard

/-- THE SECOND FORM's CARD OF 'laws.FnExactReadFields'. -/
def fnExactReadFieldsUptoCard : Claim7 := { stood := { row := fnExactReadFieldsUptoRow, standIns := [], harness := (true, "f1e6280f6bdfbfb78102d1c2fbd31150a5d54e2c8b232344dc5b5775dbab5bda"), looks := true }, kinds := [], alts := [], laidByText := true, laidKinds := [.handle, .sentinel, .sentinel, .sentinel], laidTests := true, laidLooks := .later }
def FnExactReadFieldsUptoCardSaid : Prop := Claim7.holds Tryd.pinned (.plain (OpenSpec.upto fnExactReadFieldsSpec)) fnExactReadFieldsUptoCard

/-- THE SECOND FORM's CARD OF 'laws.FnExactParserOK'. -/
def fnExactParserOKUptoCard : Claim7 := { stood := { row := fnExactParserOKUptoRow, standIns := [], harness := (true, "f1e6280f6bdfbfb78102d1c2fbd31150a5d54e2c8b232344dc5b5775dbab5bda"), looks := true }, kinds := [], alts := [], laidByText := true, laidKinds := [.data, .data, .pinned], laidTests := true, laidLooks := .later }
def FnExactParserOKUptoCardSaid : Prop := Claim7.holds Tryd.pinned (.plain (OpenSpec.upto fnExactParserOKSpec)) fnExactParserOKUptoCard

/-- THE SECOND FORM's CARD OF 'laws.FnExactParseByte'. -/
def fnExactParseByteUptoCard : Claim7 := { stood := { row := fnExactParseByteUptoRow, standIns := [], harness := (true, "f1e6280f6bdfbfb78102d1c2fbd31150a5d54e2c8b232344dc5b5775dbab5bda"), looks := true }, kinds := [], alts := [], laidByText := true, laidKinds := [.data, .data, .data, .pinned], laidTests := true, laidLooks := .later }
def FnExactParseByteUptoCardSaid : Prop := Claim7.holds Tryd.pinned (.plain (OpenSpec.upto fnExactParseByteSpec)) fnExactParseByteUptoCard

/-- THE SECOND FORM's CARD OF 'laws.FnExactParseBytes'. -/
def fnExactParseBytesUptoCard : Claim7 := { stood := { row := fnExactParseBytesUptoRow, standIns := [], harness := (true, "f1e6280f6bdfbfb78102d1c2fbd31150a5d54e2c8b232344dc5b5775dbab5bda"), looks := true }, kinds := [], alts := [], laidByText := true, laidKinds := [.data, .data, .data, .pinned], laidTests := true, laidLooks := .later }
def FnExactParseBytesUptoCardSaid : Prop := Claim7.holds Tryd.pinned (.plain (OpenSpec.upto fnExactParseBytesSpec)) fnExactParseBytesUptoCard

/-- THE SECOND FORM's CARD OF 'laws.FnExactActionOK'. -/
def fnExactActionOKUptoCard : Claim7 := { stood := { row := fnExactActionOKUptoRow, standIns := [], harness := (true, "f1e6280f6bdfbfb78102d1c2fbd31150a5d54e2c8b232344dc5b5775dbab5bda"), looks := true }, kinds := [], alts := [], laidByText := true, laidKinds := [.data], laidTests := true, laidLooks := .later }
def FnExactActionOKUptoCardSaid : Prop := Claim7.holds Tryd.pinned (.plain (OpenSpec.upto fnExactActionOKSpec)) fnExactActionOKUptoCard

/-- THE SECOND FORM's CARD OF 'laws.FnExactActionText'. -/
def fnExactActionTextUptoCard : Claim7 := { stood := { row := fnExactActionTextUptoRow, standIns := [], harness := (true, "f1e6280f6bdfbfb78102d1c2fbd31150a5d54e2c8b232344dc5b5775dbab5bda"), looks := true }, kinds := [], alts := [], laidByText := true, laidKinds := [.data, .data, .data, .data], laidTests := true, laidLooks := .later }
def FnExactActionTextUptoCardSaid : Prop := Claim7.holds Tryd.pinned (.plain (OpenSpec.upto fnExactActionTextSpec)) fnExactActionTextUptoCard
end Rows
end Go.Proofs.YtolbmblffogloabDoor
