/-
  DERIVED. GIVEN WITH THE SEED: THE CARDS: each row of YtfjpdflilmcnhaaGreatDoorRows.lean that lists a variable, with what it lists TIED to the program's text (the seventh form; the later family's looks); each row that meets fmt, with fmt's text TOLD by the authors' own Lean function (tested against real Go, not proved from fmt's source: count such statements apart). THE CARD IS WHAT COUNTS. Prove the row's statement (the work); the ties are given (YtfjpdflilmcnhaaGreatDoorTie.lean); close each card by the builder's one call (the guide's Derived/Test/ToyasCard.lean, 'card_holds'). Laid BY PROGRAM, IN A SANDBOX (cutbox-door.mjs). By AI agents, Wed Nov 11 2026. No macro, syntax, notation, axiom, sorry.
-/
import Derived.Test.YtfjpdflilmcnhaaGreatDoorRows
import GoSem.ClaimSeven
namespace Go.Proofs.YtfjpdflilmcnhaaGreatDoor
namespace Rows

/-- THE TIED CARD OF 'marqueelaw15.ContentHolds'. -/
def contentHoldsCard : Claim7 := { stood := { row := contentHoldsRow, standIns := [], harness := (true, "7f1abbbe9ad4f1f40b9f2603f503fdb81b9db4bad3b2a5f5fdc14960ddd27dd1"), looks := false }, kinds := [], alts := [], laidByText := true, laidKinds := [.data], laidTests := true, laidLooks := .later }
def ContentHoldsCardSaid : Prop := Claim7.holds Tryz.pinned (.plain (OpenSpec.ofChange contentHoldsSpec)) contentHoldsCard

/-- THE TIED CARD OF 'marqueelaw15.ContentNext'. -/
def contentNextCard : Claim7 := { stood := { row := contentNextRow, standIns := [], harness := (true, "7f1abbbe9ad4f1f40b9f2603f503fdb81b9db4bad3b2a5f5fdc14960ddd27dd1"), looks := false }, kinds := [], alts := [], laidByText := true, laidKinds := [.data], laidTests := true, laidLooks := .later }
def ContentNextCardSaid : Prop := Claim7.holds Tryz.pinned (.plain (OpenSpec.ofChange contentNextSpec)) contentNextCard

/-- THE SECOND FORM's CARD OF 'marqueelaw15.ContentHolds'. -/
def contentHoldsUptoCard : Claim7 := { stood := { row := contentHoldsUptoRow, standIns := [], harness := (true, "7f1abbbe9ad4f1f40b9f2603f503fdb81b9db4bad3b2a5f5fdc14960ddd27dd1"), looks := false }, kinds := [], alts := [], laidByText := true, laidKinds := [.data], laidTests := true, laidLooks := .later }
def ContentHoldsUptoCardSaid : Prop := Claim7.holds Tryz.pinned (.plain (OpenSpec.upto contentHoldsSpec)) contentHoldsUptoCard

/-- THE SECOND FORM's CARD OF 'marqueelaw15.ContentNext'. -/
def contentNextUptoCard : Claim7 := { stood := { row := contentNextUptoRow, standIns := [], harness := (true, "7f1abbbe9ad4f1f40b9f2603f503fdb81b9db4bad3b2a5f5fdc14960ddd27dd1"), looks := false }, kinds := [], alts := [], laidByText := true, laidKinds := [.data], laidTests := true, laidLooks := .later }
def ContentNextUptoCardSaid : Prop := Claim7.holds Tryz.pinned (.plain (OpenSpec.upto contentNextSpec)) contentNextUptoCard
end Rows
end Go.Proofs.YtfjpdflilmcnhaaGreatDoor
