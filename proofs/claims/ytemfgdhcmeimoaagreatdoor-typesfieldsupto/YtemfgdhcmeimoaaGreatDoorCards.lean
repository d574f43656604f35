/-
  DERIVED. GIVEN WITH THE SEED: THE CARDS: each row of YtemfgdhcmeimoaaGreatDoorRows.lean that lists a variable, with what it lists TIED to the program's text (the seventh form; the later family's looks); each row that meets fmt, with fmt's text TOLD by the authors' own Lean function (tested against real Go, not proved from fmt's source: count such statements apart). THE CARD IS WHAT COUNTS. Prove the row's statement (the work); the ties are given (YtemfgdhcmeimoaaGreatDoorTie.lean); close each card by the builder's one call (the guide's Derived/Test/ToyasCard.lean, 'card_holds'). Laid BY PROGRAM, IN A SANDBOX (cutbox-door.mjs). By AI agents, Wed Nov 11 2026. No macro, syntax, notation, axiom, sorry.
-/
import Derived.Test.YtemfgdhcmeimoaaGreatDoorRows
import GoSem.ClaimSeven
namespace Go.Proofs.YtemfgdhcmeimoaaGreatDoor
namespace Rows

/-- THE TIED CARD OF 'marqueelaw11.TypesFields'. -/
def typesFieldsCard : Claim7 := { stood := { row := typesFieldsRow, standIns := [], harness := (true, "3614f46880c3e693cc3d0f77744e866c778c3f8ce8b0596753e4fb2749eb4334"), looks := true }, kinds := [], alts := [], laidByText := true, laidKinds := [.data, .data, .data, .data, .sentinel, .sentinel, .data, .pinned, .pinned], laidTests := true, laidLooks := .later }
def TypesFieldsCardSaid : Prop := Claim7.holds Tryz.pinned (.plain (OpenSpec.ofChange typesFieldsSpec)) typesFieldsCard

/-- THE SECOND FORM's CARD OF 'marqueelaw11.TypesFields'. -/
def typesFieldsUptoCard : Claim7 := { stood := { row := typesFieldsUptoRow, standIns := [], harness := (true, "3614f46880c3e693cc3d0f77744e866c778c3f8ce8b0596753e4fb2749eb4334"), looks := true }, kinds := [], alts := [], laidByText := true, laidKinds := [.data, .data, .data, .data, .sentinel, .sentinel, .data, .pinned, .pinned], laidTests := true, laidLooks := .later }
def TypesFieldsUptoCardSaid : Prop := Claim7.holds Tryz.pinned (.plain (OpenSpec.upto typesFieldsSpec)) typesFieldsUptoCard
end Rows
end Go.Proofs.YtemfgdhcmeimoaaGreatDoor
