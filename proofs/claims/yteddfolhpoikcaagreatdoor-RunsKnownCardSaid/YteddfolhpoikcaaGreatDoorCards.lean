/-
  DERIVED. GIVEN WITH THE SEED: THE CARDS: each row of YteddfolhpoikcaaGreatDoorRows.lean that lists a variable, with what it lists TIED to the program's text (the seventh form; the later family's looks); each row that meets fmt, with fmt's text TOLD by the authors' own Lean function (tested against real Go, not proved from fmt's source: count such statements apart). THE CARD IS WHAT COUNTS. Prove the row's statement (the work); the ties are given (YteddfolhpoikcaaGreatDoorTie.lean); close each card by the builder's one call (the guide's Derived/Test/ToyasCard.lean, 'card_holds'). Laid BY PROGRAM, IN A SANDBOX (cutbox-door.mjs). By AI agents, Wed Nov 11 2026. No macro, syntax, notation, axiom, sorry.
-/
import Derived.Test.YteddfolhpoikcaaGreatDoorRows
import GoSem.ClaimSeven
namespace Go.Proofs.YteddfolhpoikcaaGreatDoor
namespace Rows

/-- THE TIED CARD OF 'circalaw09.RunsPairs'. -/
def runsPairsCard : Claim7 := { stood := { row := runsPairsRow, standIns := [], harness := (true, "b1bbb583910d0a414b349d60e76a3f796f450b8149de431ac0d3b84007ae72b1"), looks := true }, kinds := [], alts := [], laidByText := true, laidKinds := [.data, .data, .data, .data, .sentinel, .sentinel, .data, .data, .pinned], laidTests := true, laidLooks := .later }
def RunsPairsCardSaid : Prop := Claim7.holds Tryz.pinned (.plain (OpenSpec.ofChange runsPairsSpec)) runsPairsCard

/-- THE TIED CARD OF 'circalaw09.RunsOne'. -/
def runsOneCard : Claim7 := { stood := { row := runsOneRow, standIns := [], harness := (true, "b1bbb583910d0a414b349d60e76a3f796f450b8149de431ac0d3b84007ae72b1"), looks := true }, kinds := [], alts := [], laidByText := true, laidKinds := [.data, .data, .data, .data, .sentinel, .sentinel, .data, .data, .pinned], laidTests := true, laidLooks := .later }
def RunsOneCardSaid : Prop := Claim7.holds Tryz.pinned (.plain (OpenSpec.ofChange runsOneSpec)) runsOneCard

/-- THE TIED CARD OF 'circalaw09.RunsText'. -/
def runsTextCard : Claim7 := { stood := { row := runsTextRow, standIns := [], harness := (true, "b1bbb583910d0a414b349d60e76a3f796f450b8149de431ac0d3b84007ae72b1"), looks := true }, kinds := [], alts := [], laidByText := true, laidKinds := [.data, .data, .data, .data, .sentinel, .sentinel, .data, .data, .pinned], laidTests := true, laidLooks := .later }
def RunsTextCardSaid : Prop := Claim7.holds Tryz.pinned (.plain (OpenSpec.ofChange runsTextSpec)) runsTextCard

/-- THE TIED CARD OF 'circalaw09.RunsParse'. -/
def runsParseCard : Claim7 := { stood := { row := runsParseRow, standIns := [], harness := (true, "b1bbb583910d0a414b349d60e76a3f796f450b8149de431ac0d3b84007ae72b1"), looks := true }, kinds := [], alts := [], laidByText := true, laidKinds := [.data, .data, .data, .data, .sentinel, .sentinel, .data, .data, .pinned], laidTests := true, laidLooks := .later }
def RunsParseCardSaid : Prop := Claim7.holds Tryz.pinned (.plain (OpenSpec.ofChange runsParseSpec)) runsParseCard

/-- THE TIED CARD OF 'circalaw09.RunsKnown'. -/
def runsKnownCard : Claim7 := { stood := { row := runsKnownRow, standIns := [], harness := (true, "b1bbb583910d0a414b349d60e76a3f796f450b8149de431ac0d3b84007ae72b1"), looks := true }, kinds := [], alts := [], laidByText := true, laidKinds := [.data, .data, .data, .data, .sentinel, .sentinel, .data, .data, .pinned], laidTests := true, laidLooks := .later }
def RunsKnownCardSaid : Prop := Claim7.holds Tryz.pinned (.plain (OpenSpec.ofChange runsKnownSpec)) runsKnownCard

/-- THE SECOND FORM's CARD OF 'circalaw09.RunsPairs'. -/
def runsPairsUptoCard : Claim7 := { stood := { row := runsPairsUptoRow, standIns := [], harness := (true, "b1bbb583910d0a414b349d60e76a3f796f450b8149de431ac0d3b84007ae72b1"), looks := true }, kinds := [], alts := [], laidByText := true, laidKinds := [.data, .data, .data, .data, .sentinel, .sentinel, .data, .data, .pinned], laidTests := true, laidLooks := .later }
def RunsPairsUptoCardSaid : Prop := Claim7.holds Tryz.pinned (.plain (OpenSpec.upto runsPairsSpec)) runsPairsUptoCard

/-- THE SECOND FORM's CARD OF 'circalaw09.RunsOne'. -/
def runsOneUptoCard : Claim7 := { stood := { row := runsOneUptoRow, standIns := [], harness := (true, "b1bbb583910d0a414b349d60e76a3f796f450b8149de431ac0d3b84007ae72b1"), looks := true }, kinds := [], alts := [], laidByText := true, laidKinds := [.data, .data, .data, .data, .sentinel, .sentinel, .data, .data, .pinned], laidTests := true, laidLooks := .later }
def RunsOneUptoCardSaid : Prop := Claim7.holds Tryz.pinned (.plain (OpenSpec.upto runsOneSpec)) runsOneUptoCard

/-- THE SECOND FORM's CARD OF 'circalaw09.RunsText'. -/
def runsTextUptoCard : Claim7 := { stood := { row := runsTextUptoRow, standIns := [], harness := (true, "b1bbb583910d0a414b349d60e76a3f796f450b8149de431ac0d3b84007ae72b1"), looks := true }, kinds := [], alts := [], laidByText := true, laidKinds := [.data, .data, .data, .data, .sentinel, .sentinel, .data, .data, .pinned], laidTests := true, laidLooks := .later }
def RunsTextUptoCardSaid : Prop := Claim7.holds Tryz.pinned (.plain (OpenSpec.upto runsTextSpec)) runsTextUptoCard

/-- THE SECOND FORM's CARD OF 'circalaw09.RunsParse'. -/
def runsParseUptoCard : Claim7 := { stood := { row := runsParseUptoRow, standIns := [], harness := (true, "b1bbb583910d0a414b349d60e76a3f796f450b8149de431ac0d3b84007ae72b1"), looks := true }, kinds := [], alts := [], laidByText := true, laidKinds := [.data, .data, .data, .data, .sentinel, .sentinel, .data, .data, .pinned], laidTests := true, laidLooks := .later }
def RunsParseUptoCardSaid : Prop := Claim7.holds Tryz.pinned (.plain (OpenSpec.upto runsParseSpec)) runsParseUptoCard

/-- THE SECOND FORM's CARD OF 'circalaw09.RunsKnown'. -/
def runsKnownUptoCard : Claim7 := { stood := { row := runsKnownUptoRow, standIns := [], harness := (true, "b1bbb583910d0a414b349d60e76a3f796f450b8149de431ac0d3b84007ae72b1"), looks := true }, kinds := [], alts := [], laidByText := true, laidKinds := [.data, .data, .data, .data, .sentinel, .sentinel, .data, .data, .pinned], laidTests := true, laidLooks := .later }
def RunsKnownUptoCardSaid : Prop := Claim7.holds Tryz.pinned (.plain (OpenSpec.upto runsKnownSpec)) runsKnownUptoCard
end Rows
end Go.Proofs.YteddfolhpoikcaaGreatDoor
