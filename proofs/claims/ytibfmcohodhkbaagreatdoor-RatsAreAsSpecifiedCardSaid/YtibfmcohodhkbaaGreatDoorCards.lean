/-
  DERIVED. GIVEN WITH THE SEED: THE CARDS: each row of YtibfmcohodhkbaaGreatDoorRows.lean that lists a variable, with what it lists TIED to the program's text (the seventh form; the later family's looks); each row that meets fmt, with fmt's text TOLD by the authors' own Lean function (tested against real Go, not proved from fmt's source: count such statements apart). THE CARD IS WHAT COUNTS. Prove the row's statement (the work); the ties are given (YtibfmcohodhkbaaGreatDoorTie.lean); close each card by the builder's one call (the guide's Derived/Test/ToyasCard.lean, 'card_holds'). Laid BY PROGRAM, IN A SANDBOX (cutbox-door.mjs). By AI agents, Wed Nov 11 2026. No macro, syntax, notation, axiom, sorry.
-/
import Derived.Test.YtibfmcohodhkbaaGreatDoorRows
import GoSem.ClaimSeven
namespace Go.Proofs.YtibfmcohodhkbaaGreatDoor
namespace Rows

/-- THE TIED CARD OF 'rivermarklaw05.RatsAreAsSpecified'. -/
def ratsAreAsSpecifiedCard : Claim7 := { stood := { row := ratsAreAsSpecifiedRow, standIns := [], harness := (true, "fa69583e6aa3c464ff9b0a09361aee90e428e44b30b929b3613e460db1ce91ac"), looks := false }, kinds := [], alts := [], laidByText := true, laidKinds := [.data, .data, .data, .data, .pinned], laidTests := true, laidLooks := .later }
def RatsAreAsSpecifiedCardSaid : Prop := Claim7.holds Tryz.pinned (.plain (OpenSpec.ofChange ratsAreAsSpecifiedSpec)) ratsAreAsSpecifiedCard

/-- THE TIED CARD OF 'rivermarklaw05.RatTextsAsSpecified'. -/
def ratTextsAsSpecifiedCard : Claim7 := { stood := { row := ratTextsAsSpecifiedRow, standIns := [], harness := (true, "fa69583e6aa3c464ff9b0a09361aee90e428e44b30b929b3613e460db1ce91ac"), looks := false }, kinds := [], alts := [], laidByText := true, laidKinds := [.data, .data, .data, .data, .pinned], laidTests := true, laidLooks := .later }
def RatTextsAsSpecifiedCardSaid : Prop := Claim7.holds Tryz.pinned (.plain (OpenSpec.ofChange ratTextsAsSpecifiedSpec)) ratTextsAsSpecifiedCard

/-- THE TIED CARD OF 'rivermarklaw05.RatsAreOrdered'. -/
def ratsAreOrderedCard : Claim7 := { stood := { row := ratsAreOrderedRow, standIns := [], harness := (true, "fa69583e6aa3c464ff9b0a09361aee90e428e44b30b929b3613e460db1ce91ac"), looks := false }, kinds := [], alts := [], laidByText := true, laidKinds := [.data, .data, .data, .data, .pinned], laidTests := true, laidLooks := .later }
def RatsAreOrderedCardSaid : Prop := Claim7.holds Tryz.pinned (.plain (OpenSpec.ofChange ratsAreOrderedSpec)) ratsAreOrderedCard

/-- THE SECOND FORM's CARD OF 'rivermarklaw05.RatsAreAsSpecified'. -/
def ratsAreAsSpecifiedUptoCard : Claim7 := { stood := { row := ratsAreAsSpecifiedUptoRow, standIns := [], harness := (true, "fa69583e6aa3c464ff9b0a09361aee90e428e44b30b929b3613e460db1ce91ac"), looks := false }, kinds := [], alts := [], laidByText := true, laidKinds := [.data, .data, .data, .data, .pinned], laidTests := true, laidLooks := .later }
def RatsAreAsSpecifiedUptoCardSaid : Prop := Claim7.holds Tryz.pinned (.plain (OpenSpec.upto ratsAreAsSpecifiedSpec)) ratsAreAsSpecifiedUptoCard

/-- THE SECOND FORM's CARD OF 'rivermarklaw05.RatTextsAsSpecified'. -/
def ratTextsAsSpecifiedUptoCard : Claim7 := { stood := { row := ratTextsAsSpecifiedUptoRow, standIns := [], harness := (true, "fa69583e6aa3c464ff9b0a09361aee90e428e44b30b929b3613e460db1ce91ac"), looks := false }, kinds := [], alts := [], laidByText := true, laidKinds := [.data, .data, .data, .data, .pinned], laidTests := true, laidLooks := .later }
def RatTextsAsSpecifiedUptoCardSaid : Prop := Claim7.holds Tryz.pinned (.plain (OpenSpec.upto ratTextsAsSpecifiedSpec)) ratTextsAsSpecifiedUptoCard

/-- THE SECOND FORM's CARD OF 'rivermarklaw05.RatsAreOrdered'. -/
def ratsAreOrderedUptoCard : Claim7 := { stood := { row := ratsAreOrderedUptoRow, standIns := [], harness := (true, "fa69583e6aa3c464ff9b0a09361aee90e428e44b30b929b3613e460db1ce91ac"), looks := false }, kinds := [], alts := [], laidByText := true, laidKinds := [.data, .data, .data, .data, .pinned], laidTests := true, laidLooks := .later }
def RatsAreOrderedUptoCardSaid : Prop := Claim7.holds Tryz.pinned (.plain (OpenSpec.upto ratsAreOrderedSpec)) ratsAreOrderedUptoCard
end Rows
end Go.Proofs.YtibfmcohodhkbaaGreatDoor
