/-
  DERIVED. GIVEN WITH THE SEED: THE CARDS: each row of YtjfkmigaehcnbaaGreatDoorRows.lean that lists a variable, with what it lists TIED to the program's text (the seventh form; the later family's looks); each row that meets fmt, with fmt's text TOLD by the authors' own Lean function (tested against real Go, not proved from fmt's source: count such statements apart). THE CARD IS WHAT COUNTS. Prove the row's statement (the work); the ties are given (YtjfkmigaehcnbaaGreatDoorTie.lean); close each card by the builder's one call (the guide's Derived/Test/ToyasCard.lean, 'card_holds'). Laid BY PROGRAM, IN A SANDBOX (cutbox-door.mjs). By AI agents, Wed Nov 11 2026. No macro, syntax, notation, axiom, sorry.
-/
import Derived.Test.YtjfkmigaehcnbaaGreatDoorRows
import GoSem.ClaimSeven
namespace Go.Proofs.YtjfkmigaehcnbaaGreatDoor
namespace Rows

/-- THE TIED CARD OF 'rivermarklaw05.RatsAreAsSpecified'. -/
def ratsAreAsSpecifiedCard : Claim7 := { stood := { row := ratsAreAsSpecifiedRow, standIns := [], harness := (true, "1f61b389acec0781fe009b8e2ce5a3d6e6a8f85dc7b6128b3608be6d0110e70e"), looks := false }, kinds := [], alts := [], laidByText := true, laidKinds := [.data, .data, .data, .data, .pinned], laidTests := true, laidLooks := .later }
def RatsAreAsSpecifiedCardSaid : Prop := Claim7.holds Tryz.pinned (.plain (OpenSpec.ofChange ratsAreAsSpecifiedSpec)) ratsAreAsSpecifiedCard

/-- THE TIED CARD OF 'rivermarklaw05.RatTextsAsSpecified'. -/
def ratTextsAsSpecifiedCard : Claim7 := { stood := { row := ratTextsAsSpecifiedRow, standIns := [], harness := (true, "1f61b389acec0781fe009b8e2ce5a3d6e6a8f85dc7b6128b3608be6d0110e70e"), looks := false }, kinds := [], alts := [], laidByText := true, laidKinds := [.data, .data, .data, .data, .pinned], laidTests := true, laidLooks := .later }
def RatTextsAsSpecifiedCardSaid : Prop := Claim7.holds Tryz.pinned (.plain (OpenSpec.ofChange ratTextsAsSpecifiedSpec)) ratTextsAsSpecifiedCard

/-- THE TIED CARD OF 'rivermarklaw05.RatsAreAField'. -/
def ratsAreAFieldCard : Claim7 := { stood := { row := ratsAreAFieldRow, standIns := [], harness := (true, "1f61b389acec0781fe009b8e2ce5a3d6e6a8f85dc7b6128b3608be6d0110e70e"), looks := false }, kinds := [], alts := [], laidByText := true, laidKinds := [.data, .data, .data, .data, .pinned], laidTests := true, laidLooks := .later }
def RatsAreAFieldCardSaid : Prop := Claim7.holds Tryz.pinned (.plain (OpenSpec.ofChange ratsAreAFieldSpec)) ratsAreAFieldCard

/-- THE TIED CARD OF 'rivermarklaw05.RatsAreOrdered'. -/
def ratsAreOrderedCard : Claim7 := { stood := { row := ratsAreOrderedRow, standIns := [], harness := (true, "1f61b389acec0781fe009b8e2ce5a3d6e6a8f85dc7b6128b3608be6d0110e70e"), looks := false }, kinds := [], alts := [], laidByText := true, laidKinds := [.data, .data, .data, .data, .pinned], laidTests := true, laidLooks := .later }
def RatsAreOrderedCardSaid : Prop := Claim7.holds Tryz.pinned (.plain (OpenSpec.ofChange ratsAreOrderedSpec)) ratsAreOrderedCard

/-- THE TIED CARD OF 'rivermarklaw05.RatTextsComeBack'. -/
def ratTextsComeBackCard : Claim7 := { stood := { row := ratTextsComeBackRow, standIns := [], harness := (true, "1f61b389acec0781fe009b8e2ce5a3d6e6a8f85dc7b6128b3608be6d0110e70e"), looks := false }, kinds := [], alts := [], laidByText := true, laidKinds := [.data, .data, .data, .data, .pinned], laidTests := true, laidLooks := .later }
def RatTextsComeBackCardSaid : Prop := Claim7.holds Tryz.pinned (.plain (OpenSpec.ofChange ratTextsComeBackSpec)) ratTextsComeBackCard

/-- THE SECOND FORM's CARD OF 'rivermarklaw05.RatsAreAsSpecified'. -/
def ratsAreAsSpecifiedUptoCard : Claim7 := { stood := { row := ratsAreAsSpecifiedUptoRow, standIns := [], harness := (true, "1f61b389acec0781fe009b8e2ce5a3d6e6a8f85dc7b6128b3608be6d0110e70e"), looks := false }, kinds := [], alts := [], laidByText := true, laidKinds := [.data, .data, .data, .data, .pinned], laidTests := true, laidLooks := .later }
def RatsAreAsSpecifiedUptoCardSaid : Prop := Claim7.holds Tryz.pinned (.plain (OpenSpec.upto ratsAreAsSpecifiedSpec)) ratsAreAsSpecifiedUptoCard

/-- THE SECOND FORM's CARD OF 'rivermarklaw05.RatTextsAsSpecified'. -/
def ratTextsAsSpecifiedUptoCard : Claim7 := { stood := { row := ratTextsAsSpecifiedUptoRow, standIns := [], harness := (true, "1f61b389acec0781fe009b8e2ce5a3d6e6a8f85dc7b6128b3608be6d0110e70e"), looks := false }, kinds := [], alts := [], laidByText := true, laidKinds := [.data, .data, .data, .data, .pinned], laidTests := true, laidLooks := .later }
def RatTextsAsSpecifiedUptoCardSaid : Prop := Claim7.holds Tryz.pinned (.plain (OpenSpec.upto ratTextsAsSpecifiedSpec)) ratTextsAsSpecifiedUptoCard

/-- THE SECOND FORM's CARD OF 'rivermarklaw05.RatsAreAField'. -/
def ratsAreAFieldUptoCard : Claim7 := { stood := { row := ratsAreAFieldUptoRow, standIns := [], harness := (true, "1f61b389acec0781fe009b8e2ce5a3d6e6a8f85dc7b6128b3608be6d0110e70e"), looks := false }, kinds := [], alts := [], laidByText := true, laidKinds := [.data, .data, .data, .data, .pinned], laidTests := true, laidLooks := .later }
def RatsAreAFieldUptoCardSaid : Prop := Claim7.holds Tryz.pinned (.plain (OpenSpec.upto ratsAreAFieldSpec)) ratsAreAFieldUptoCard

/-- THE SECOND FORM's CARD OF 'rivermarklaw05.RatsAreOrdered'. -/
def ratsAreOrderedUptoCard : Claim7 := { stood := { row := ratsAreOrderedUptoRow, standIns := [], harness := (true, "1f61b389acec0781fe009b8e2ce5a3d6e6a8f85dc7b6128b3608be6d0110e70e"), looks := false }, kinds := [], alts := [], laidByText := true, laidKinds := [.data, .data, .data, .data, .pinned], laidTests := true, laidLooks := .later }
def RatsAreOrderedUptoCardSaid : Prop := Claim7.holds Tryz.pinned (.plain (OpenSpec.upto ratsAreOrderedSpec)) ratsAreOrderedUptoCard

/-- THE SECOND FORM's CARD OF 'rivermarklaw05.RatTextsComeBack'. -/
def ratTextsComeBackUptoCard : Claim7 := { stood := { row := ratTextsComeBackUptoRow, standIns := [], harness := (true, "1f61b389acec0781fe009b8e2ce5a3d6e6a8f85dc7b6128b3608be6d0110e70e"), looks := false }, kinds := [], alts := [], laidByText := true, laidKinds := [.data, .data, .data, .data, .pinned], laidTests := true, laidLooks := .later }
def RatTextsComeBackUptoCardSaid : Prop := Claim7.holds Tryz.pinned (.plain (OpenSpec.upto ratTextsComeBackSpec)) ratTextsComeBackUptoCard
end Rows
end Go.Proofs.YtjfkmigaehcnbaaGreatDoor
