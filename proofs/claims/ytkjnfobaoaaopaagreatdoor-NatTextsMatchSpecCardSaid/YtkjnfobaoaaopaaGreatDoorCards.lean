/-
  DERIVED. GIVEN WITH THE SEED: THE CARDS: each row of YtkjnfobaoaaopaaGreatDoorRows.lean that lists a variable, with what it lists TIED to the program's text (the seventh form; the later family's looks); each row that meets fmt, with fmt's text TOLD by the authors' own Lean function (tested against real Go, not proved from fmt's source: count such statements apart). THE CARD IS WHAT COUNTS. Prove the row's statement (the work); the ties are given (YtkjnfobaoaaopaaGreatDoorTie.lean); close each card by the builder's one call (the guide's Derived/Test/ToyasCard.lean, 'card_holds'). Laid BY PROGRAM, IN A SANDBOX (cutbox-door.mjs). By AI agents, Wed Nov 11 2026. No macro, syntax, notation, axiom, sorry.
-/
import Derived.Test.YtkjnfobaoaaopaaGreatDoorRows
import GoSem.ClaimSeven
namespace Go.Proofs.YtkjnfobaoaaopaaGreatDoor
namespace Rows

/-- THE TIED CARD OF 'rivermarklaw04.NatMatchesSpec'. -/
def natMatchesSpecCard : Claim7 := { stood := { row := natMatchesSpecRow, standIns := [], harness := (true, "08c7ae4c54d9bff45861b2b10f1508a186c28c66986347ca0231330049638eab"), looks := false }, kinds := [], alts := [], laidByText := true, laidKinds := [.data, .data, .data, .data, .pinned], laidTests := true, laidLooks := .later }
def NatMatchesSpecCardSaid : Prop := Claim7.holds Tryz.pinned (.plain (OpenSpec.ofChange natMatchesSpecSpec)) natMatchesSpecCard

/-- THE TIED CARD OF 'rivermarklaw04.NatTextsMatchSpec'. -/
def natTextsMatchSpecCard : Claim7 := { stood := { row := natTextsMatchSpecRow, standIns := [], harness := (true, "08c7ae4c54d9bff45861b2b10f1508a186c28c66986347ca0231330049638eab"), looks := false }, kinds := [], alts := [], laidByText := true, laidKinds := [.data, .data, .data, .data, .pinned], laidTests := true, laidLooks := .later }
def NatTextsMatchSpecCardSaid : Prop := Claim7.holds Tryz.pinned (.plain (OpenSpec.ofChange natTextsMatchSpecSpec)) natTextsMatchSpecCard

/-- THE SECOND FORM's CARD OF 'rivermarklaw04.NatMatchesSpec'. -/
def natMatchesSpecUptoCard : Claim7 := { stood := { row := natMatchesSpecUptoRow, standIns := [], harness := (true, "08c7ae4c54d9bff45861b2b10f1508a186c28c66986347ca0231330049638eab"), looks := false }, kinds := [], alts := [], laidByText := true, laidKinds := [.data, .data, .data, .data, .pinned], laidTests := true, laidLooks := .later }
def NatMatchesSpecUptoCardSaid : Prop := Claim7.holds Tryz.pinned (.plain (OpenSpec.upto natMatchesSpecSpec)) natMatchesSpecUptoCard

/-- THE SECOND FORM's CARD OF 'rivermarklaw04.NatTextsMatchSpec'. -/
def natTextsMatchSpecUptoCard : Claim7 := { stood := { row := natTextsMatchSpecUptoRow, standIns := [], harness := (true, "08c7ae4c54d9bff45861b2b10f1508a186c28c66986347ca0231330049638eab"), looks := false }, kinds := [], alts := [], laidByText := true, laidKinds := [.data, .data, .data, .data, .pinned], laidTests := true, laidLooks := .later }
def NatTextsMatchSpecUptoCardSaid : Prop := Claim7.holds Tryz.pinned (.plain (OpenSpec.upto natTextsMatchSpecSpec)) natTextsMatchSpecUptoCard
end Rows
end Go.Proofs.YtkjnfobaoaaopaaGreatDoor
