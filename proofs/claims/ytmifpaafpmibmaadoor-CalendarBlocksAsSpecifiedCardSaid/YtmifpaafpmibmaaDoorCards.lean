/-
  DERIVED. GIVEN WITH THE SEED: THE CARDS: each row of YtmifpaafpmibmaaDoorRows.lean that lists a variable, with what it lists TIED to the program's text (the seventh form; the later family's looks); each row that meets fmt, with fmt's text TOLD by the authors' own Lean function (tested against real Go, not proved from fmt's source: count such statements apart). THE CARD IS WHAT COUNTS. Prove the row's statement (the work); the ties are given (YtmifpaafpmibmaaDoorTie.lean); close each card by the builder's one call (the guide's Derived/Test/ToyasCard.lean, 'card_holds'). Laid BY PROGRAM, IN A SANDBOX (cutbox-door.mjs). By AI agents, Wed Nov 11 2026. No macro, syntax, notation, axiom, sorry.
-/
import Derived.Test.YtmifpaafpmibmaaDoorRows
import GoSem.ClaimSeven
namespace Go.Proofs.YtmifpaafpmibmaaDoor
namespace Rows

/-- THE TIED CARD OF 'rivermarklaw06.CalendarBlocksAsSpecified'. -/
def calendarBlocksAsSpecifiedCard : Claim7 := { stood := { row := calendarBlocksAsSpecifiedRow, standIns := [], harness := (true, "2270fd020f0008f24c90b44395e507236b9f97dd676506eceed57cbe9a43151d"), looks := false }, kinds := [], alts := [], laidByText := true, laidKinds := [.data], laidTests := true, laidLooks := .later }
def CalendarBlocksAsSpecifiedCardSaid : Prop := Claim7.holds Tryd.pinned (.plain (OpenSpec.ofChange calendarBlocksAsSpecifiedSpec)) calendarBlocksAsSpecifiedCard

/-- THE TIED CARD OF 'rivermarklaw06.CalendarCoversAsSpecified'. -/
def calendarCoversAsSpecifiedCard : Claim7 := { stood := { row := calendarCoversAsSpecifiedRow, standIns := [], harness := (true, "2270fd020f0008f24c90b44395e507236b9f97dd676506eceed57cbe9a43151d"), looks := false }, kinds := [], alts := [], laidByText := true, laidKinds := [.data], laidTests := true, laidLooks := .later }
def CalendarCoversAsSpecifiedCardSaid : Prop := Claim7.holds Tryd.pinned (.plain (OpenSpec.ofChange calendarCoversAsSpecifiedSpec)) calendarCoversAsSpecifiedCard

/-- THE SECOND FORM's CARD OF 'rivermarklaw06.CalendarBlocksAsSpecified'. -/
def calendarBlocksAsSpecifiedUptoCard : Claim7 := { stood := { row := calendarBlocksAsSpecifiedUptoRow, standIns := [], harness := (true, "2270fd020f0008f24c90b44395e507236b9f97dd676506eceed57cbe9a43151d"), looks := false }, kinds := [], alts := [], laidByText := true, laidKinds := [.data], laidTests := true, laidLooks := .later }
def CalendarBlocksAsSpecifiedUptoCardSaid : Prop := Claim7.holds Tryd.pinned (.plain (OpenSpec.upto calendarBlocksAsSpecifiedSpec)) calendarBlocksAsSpecifiedUptoCard

/-- THE SECOND FORM's CARD OF 'rivermarklaw06.CalendarCoversAsSpecified'. -/
def calendarCoversAsSpecifiedUptoCard : Claim7 := { stood := { row := calendarCoversAsSpecifiedUptoRow, standIns := [], harness := (true, "2270fd020f0008f24c90b44395e507236b9f97dd676506eceed57cbe9a43151d"), looks := false }, kinds := [], alts := [], laidByText := true, laidKinds := [.data], laidTests := true, laidLooks := .later }
def CalendarCoversAsSpecifiedUptoCardSaid : Prop := Claim7.holds Tryd.pinned (.plain (OpenSpec.upto calendarCoversAsSpecifiedSpec)) calendarCoversAsSpecifiedUptoCard
end Rows
end Go.Proofs.YtmifpaafpmibmaaDoor
