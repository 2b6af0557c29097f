/-
  DERIVED. GIVEN WITH THE SEED: THE CARDS: each row of YtpmlihhofmblpaaGreatDoorRows.lean that lists a variable, with what it lists TIED to the program's text (the seventh form; the later family's looks); each row that meets fmt, with fmt's text TOLD by the authors' own Lean function (tested against real Go, not proved from fmt's source: count such statements apart). THE CARD IS WHAT COUNTS. Prove the row's statement (the work); the ties are given (YtpmlihhofmblpaaGreatDoorTie.lean); close each card by the builder's one call (the guide's Derived/Test/ToyasCard.lean, 'card_holds'). Laid BY PROGRAM, IN A SANDBOX (cutbox-door.mjs). By AI agents, Wed Nov 11 2026. No macro, syntax, notation, axiom, sorry.
-/
import Derived.Test.YtpmlihhofmblpaaGreatDoorRows
import GoSem.ClaimSeven
namespace Go.Proofs.YtpmlihhofmblpaaGreatDoor
namespace Rows

/-- THE TIED CARD OF 'rivermarklaw05.RatTextsAsSpecified'. -/
def ratTextsAsSpecifiedCard : Claim7 := { stood := { row := ratTextsAsSpecifiedRow, standIns := [], harness := (true, "fac3075f6e1b7ceece6c8e1f8f58afa2981686a55aaf11df69f50797ca0943fc"), looks := false }, kinds := [], alts := [], laidByText := true, laidKinds := [.data, .data, .data, .data, .pinned], laidTests := true, laidLooks := .later }
def RatTextsAsSpecifiedCardSaid : Prop := Claim7.holds Tryz.pinned (.plain (OpenSpec.ofChange ratTextsAsSpecifiedSpec)) ratTextsAsSpecifiedCard

/-- THE SECOND FORM's CARD OF 'rivermarklaw05.RatTextsAsSpecified'. -/
def ratTextsAsSpecifiedUptoCard : Claim7 := { stood := { row := ratTextsAsSpecifiedUptoRow, standIns := [], harness := (true, "fac3075f6e1b7ceece6c8e1f8f58afa2981686a55aaf11df69f50797ca0943fc"), looks := false }, kinds := [], alts := [], laidByText := true, laidKinds := [.data, .data, .data, .data, .pinned], laidTests := true, laidLooks := .later }
def RatTextsAsSpecifiedUptoCardSaid : Prop := Claim7.holds Tryz.pinned (.plain (OpenSpec.upto ratTextsAsSpecifiedSpec)) ratTextsAsSpecifiedUptoCard
end Rows
end Go.Proofs.YtpmlihhofmblpaaGreatDoor
