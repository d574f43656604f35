/-
  DERIVED. GIVEN WITH THE SEED: THE CARDS: each row of YtglnljfdkiihbaaGreatDoorRows.lean that lists a variable, with what it lists TIED to the program's text (the seventh form; the later family's looks); each row that meets fmt, with fmt's text TOLD by the authors' own Lean function (tested against real Go, not proved from fmt's source: count such statements apart). THE CARD IS WHAT COUNTS. Prove the row's statement (the work); the ties are given (YtglnljfdkiihbaaGreatDoorTie.lean); close each card by the builder's one call (the guide's Derived/Test/ToyasCard.lean, 'card_holds'). Laid BY PROGRAM, IN A SANDBOX (cutbox-door.mjs). By AI agents, Wed Nov 11 2026. No macro, syntax, notation, axiom, sorry.
-/
import Derived.Test.YtglnljfdkiihbaaGreatDoorRows
import GoSem.ClaimSeven
namespace Go.Proofs.YtglnljfdkiihbaaGreatDoor
namespace Rows

/-- THE TIED CARD OF 'marqueelaw16.ViewsNobody'. -/
def viewsNobodyCard : Claim7 := { stood := { row := viewsNobodyRow, standIns := [], harness := (true, "e208900dc7c6ee6b093563ec71a7423e7d6398a32a7ab6a364583622a875dbe3"), looks := false }, kinds := [], alts := [], laidByText := true, laidKinds := [.data], laidTests := true, laidLooks := .later }
def ViewsNobodyCardSaid : Prop := Claim7.holds Tryz.pinned (.plain (OpenSpec.ofChange viewsNobodySpec)) viewsNobodyCard

/-- THE SECOND FORM's CARD OF 'marqueelaw16.ViewsNobody'. -/
def viewsNobodyUptoCard : Claim7 := { stood := { row := viewsNobodyUptoRow, standIns := [], harness := (true, "e208900dc7c6ee6b093563ec71a7423e7d6398a32a7ab6a364583622a875dbe3"), looks := false }, kinds := [], alts := [], laidByText := true, laidKinds := [.data], laidTests := true, laidLooks := .later }
def ViewsNobodyUptoCardSaid : Prop := Claim7.holds Tryz.pinned (.plain (OpenSpec.upto viewsNobodySpec)) viewsNobodyUptoCard
end Rows
end Go.Proofs.YtglnljfdkiihbaaGreatDoor
