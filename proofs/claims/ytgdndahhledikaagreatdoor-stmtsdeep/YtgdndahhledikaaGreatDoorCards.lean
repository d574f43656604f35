/-
  DERIVED. GIVEN WITH THE SEED: THE CARDS: each row of YtgdndahhledikaaGreatDoorRows.lean that lists a variable, with what it lists TIED to the program's text (the seventh form; the later family's looks); each row that meets fmt, with fmt's text TOLD by the authors' own Lean function (tested against real Go, not proved from fmt's source: count such statements apart). THE CARD IS WHAT COUNTS. Prove the row's statement (the work); the ties are given (YtgdndahhledikaaGreatDoorTie.lean); close each card by the builder's one call (the guide's Derived/Test/ToyasCard.lean, 'card_holds'). Laid BY PROGRAM, IN A SANDBOX (cutbox-door.mjs). By AI agents, Wed Nov 11 2026. No macro, syntax, notation, axiom, sorry.
-/
import Derived.Test.YtgdndahhledikaaGreatDoorRows
import GoSem.ClaimSeven
namespace Go.Proofs.YtgdndahhledikaaGreatDoor
namespace Rows

/-- THE TIED CARD OF 'marqueelaw08.StmtsBlanks'. -/
def stmtsBlanksCard : Claim7 := { stood := { row := stmtsBlanksRow, standIns := [], harness := (true, "38fae12f004bb6854bb8b67f798d450c02a58698ebf293850bfec527bb03cd73"), looks := true }, kinds := [], alts := [], laidByText := true, laidKinds := [.data, .data, .data, .data, .sentinel, .sentinel, .data, .pinned, .pinned], laidTests := true, laidLooks := .later }
def StmtsBlanksCardSaid : Prop := Claim7.holds Tryz.pinned (.plain (OpenSpec.ofChange stmtsBlanksSpec)) stmtsBlanksCard

/-- THE TIED CARD OF 'marqueelaw08.StmtsDeep'. -/
def stmtsDeepCard : Claim7 := { stood := { row := stmtsDeepRow, standIns := [], harness := (true, "38fae12f004bb6854bb8b67f798d450c02a58698ebf293850bfec527bb03cd73"), looks := true }, kinds := [], alts := [], laidByText := true, laidKinds := [.data, .data, .data, .data, .sentinel, .sentinel, .data, .pinned, .pinned], laidTests := true, laidLooks := .later }
def StmtsDeepCardSaid : Prop := Claim7.holds Tryz.pinned (.plain (OpenSpec.ofChange stmtsDeepSpec)) stmtsDeepCard

/-- THE TIED CARD OF 'marqueelaw08.StmtsLong'. -/
def stmtsLongCard : Claim7 := { stood := { row := stmtsLongRow, standIns := [], harness := (true, "38fae12f004bb6854bb8b67f798d450c02a58698ebf293850bfec527bb03cd73"), looks := true }, kinds := [], alts := [], laidByText := true, laidKinds := [.data, .data, .data, .data, .sentinel, .sentinel, .data, .pinned, .pinned], laidTests := true, laidLooks := .later }
def StmtsLongCardSaid : Prop := Claim7.holds Tryz.pinned (.plain (OpenSpec.ofChange stmtsLongSpec)) stmtsLongCard

/-- THE SECOND FORM's CARD OF 'marqueelaw08.StmtsBlanks'. -/
def stmtsBlanksUptoCard : Claim7 := { stood := { row := stmtsBlanksUptoRow, standIns := [], harness := (true, "38fae12f004bb6854bb8b67f798d450c02a58698ebf293850bfec527bb03cd73"), looks := true }, kinds := [], alts := [], laidByText := true, laidKinds := [.data, .data, .data, .data, .sentinel, .sentinel, .data, .pinned, .pinned], laidTests := true, laidLooks := .later }
def StmtsBlanksUptoCardSaid : Prop := Claim7.holds Tryz.pinned (.plain (OpenSpec.upto stmtsBlanksSpec)) stmtsBlanksUptoCard

/-- THE SECOND FORM's CARD OF 'marqueelaw08.StmtsDeep'. -/
def stmtsDeepUptoCard : Claim7 := { stood := { row := stmtsDeepUptoRow, standIns := [], harness := (true, "38fae12f004bb6854bb8b67f798d450c02a58698ebf293850bfec527bb03cd73"), looks := true }, kinds := [], alts := [], laidByText := true, laidKinds := [.data, .data, .data, .data, .sentinel, .sentinel, .data, .pinned, .pinned], laidTests := true, laidLooks := .later }
def StmtsDeepUptoCardSaid : Prop := Claim7.holds Tryz.pinned (.plain (OpenSpec.upto stmtsDeepSpec)) stmtsDeepUptoCard

/-- THE SECOND FORM's CARD OF 'marqueelaw08.StmtsLong'. -/
def stmtsLongUptoCard : Claim7 := { stood := { row := stmtsLongUptoRow, standIns := [], harness := (true, "38fae12f004bb6854bb8b67f798d450c02a58698ebf293850bfec527bb03cd73"), looks := true }, kinds := [], alts := [], laidByText := true, laidKinds := [.data, .data, .data, .data, .sentinel, .sentinel, .data, .pinned, .pinned], laidTests := true, laidLooks := .later }
def StmtsLongUptoCardSaid : Prop := Claim7.holds Tryz.pinned (.plain (OpenSpec.upto stmtsLongSpec)) stmtsLongUptoCard
end Rows
end Go.Proofs.YtgdndahhledikaaGreatDoor
