/-
  DERIVED. GIVEN WITH THE SEED: THE CARDS: each row of YtfjpdflilmcnhaaDoorRows.lean that lists a variable, with what it lists TIED to the program's text (the seventh form; the later family's looks); each row that meets fmt, with fmt's text TOLD by the authors' own Lean function (tested against real Go, not proved from fmt's source: count such statements apart). THE CARD IS WHAT COUNTS. Prove the row's statement (the work); the ties are given (YtfjpdflilmcnhaaDoorTie.lean); close each card by the builder's one call (the guide's Derived/Test/ToyasCard.lean, 'card_holds'). Laid BY PROGRAM, IN A SANDBOX (cutbox-door.mjs). By AI agents, Wed Nov 11 2026. No macro, syntax, notation, axiom, sorry.
-/
import Derived.Test.YtfjpdflilmcnhaaDoorRows
import GoSem.ClaimSeven
namespace Go.Proofs.YtfjpdflilmcnhaaDoor
namespace Rows

/-- THE TIED CARD OF 'marqueelaw15.ContentChecks'. -/
def contentChecksCard : Claim7 := { stood := { row := contentChecksRow, standIns := [], harness := (true, "f4c356dff3a5f956bbe14d3ac5358f1d1b5565ddb24ede1f909d49a87a9c8477"), looks := false }, kinds := [], alts := [], laidByText := true, laidKinds := [.data], laidTests := true, laidLooks := .later }
def ContentChecksCardSaid : Prop := Claim7.holds Tryd.pinned (.plain (OpenSpec.ofChange contentChecksSpec)) contentChecksCard

/-- THE TIED CARD OF 'marqueelaw15.ContentStill'. -/
def contentStillCard : Claim7 := { stood := { row := contentStillRow, standIns := [], harness := (true, "f4c356dff3a5f956bbe14d3ac5358f1d1b5565ddb24ede1f909d49a87a9c8477"), looks := false }, kinds := [], alts := [], laidByText := true, laidKinds := [.data], laidTests := true, laidLooks := .later }
def ContentStillCardSaid : Prop := Claim7.holds Tryd.pinned (.plain (OpenSpec.ofChange contentStillSpec)) contentStillCard

/-- THE TIED CARD OF 'marqueelaw15.ContentBounds'. -/
def contentBoundsCard : Claim7 := { stood := { row := contentBoundsRow, standIns := [], harness := (true, "f4c356dff3a5f956bbe14d3ac5358f1d1b5565ddb24ede1f909d49a87a9c8477"), looks := false }, kinds := [], alts := [], laidByText := true, laidKinds := [.data], laidTests := true, laidLooks := .later }
def ContentBoundsCardSaid : Prop := Claim7.holds Tryd.pinned (.plain (OpenSpec.ofChange contentBoundsSpec)) contentBoundsCard

/-- THE TIED CARD OF 'marqueelaw15.ContentDiffs'. -/
def contentDiffsCard : Claim7 := { stood := { row := contentDiffsRow, standIns := [], harness := (true, "f4c356dff3a5f956bbe14d3ac5358f1d1b5565ddb24ede1f909d49a87a9c8477"), looks := false }, kinds := [], alts := [], laidByText := true, laidKinds := [.data], laidTests := true, laidLooks := .later }
def ContentDiffsCardSaid : Prop := Claim7.holds Tryd.pinned (.plain (OpenSpec.ofChange contentDiffsSpec)) contentDiffsCard

/-- THE SECOND FORM's CARD OF 'marqueelaw15.ContentChecks'. -/
def contentChecksUptoCard : Claim7 := { stood := { row := contentChecksUptoRow, standIns := [], harness := (true, "f4c356dff3a5f956bbe14d3ac5358f1d1b5565ddb24ede1f909d49a87a9c8477"), looks := false }, kinds := [], alts := [], laidByText := true, laidKinds := [.data], laidTests := true, laidLooks := .later }
def ContentChecksUptoCardSaid : Prop := Claim7.holds Tryd.pinned (.plain (OpenSpec.upto contentChecksSpec)) contentChecksUptoCard

/-- THE SECOND FORM's CARD OF 'marqueelaw15.ContentStill'. -/
def contentStillUptoCard : Claim7 := { stood := { row := contentStillUptoRow, standIns := [], harness := (true, "f4c356dff3a5f956bbe14d3ac5358f1d1b5565ddb24ede1f909d49a87a9c8477"), looks := false }, kinds := [], alts := [], laidByText := true, laidKinds := [.data], laidTests := true, laidLooks := .later }
def ContentStillUptoCardSaid : Prop := Claim7.holds Tryd.pinned (.plain (OpenSpec.upto contentStillSpec)) contentStillUptoCard

/-- THE SECOND FORM's CARD OF 'marqueelaw15.ContentBounds'. -/
def contentBoundsUptoCard : Claim7 := { stood := { row := contentBoundsUptoRow, standIns := [], harness := (true, "f4c356dff3a5f956bbe14d3ac5358f1d1b5565ddb24ede1f909d49a87a9c8477"), looks := false }, kinds := [], alts := [], laidByText := true, laidKinds := [.data], laidTests := true, laidLooks := .later }
def ContentBoundsUptoCardSaid : Prop := Claim7.holds Tryd.pinned (.plain (OpenSpec.upto contentBoundsSpec)) contentBoundsUptoCard

/-- THE SECOND FORM's CARD OF 'marqueelaw15.ContentDiffs'. -/
def contentDiffsUptoCard : Claim7 := { stood := { row := contentDiffsUptoRow, standIns := [], harness := (true, "f4c356dff3a5f956bbe14d3ac5358f1d1b5565ddb24ede1f909d49a87a9c8477"), looks := false }, kinds := [], alts := [], laidByText := true, laidKinds := [.data], laidTests := true, laidLooks := .later }
def ContentDiffsUptoCardSaid : Prop := Claim7.holds Tryd.pinned (.plain (OpenSpec.upto contentDiffsSpec)) contentDiffsUptoCard
end Rows
end Go.Proofs.YtfjpdflilmcnhaaDoor
