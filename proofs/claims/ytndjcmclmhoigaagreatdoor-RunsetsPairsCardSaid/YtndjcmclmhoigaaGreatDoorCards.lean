/-
  DERIVED. GIVEN WITH THE SEED: THE CARDS: each row of YtndjcmclmhoigaaGreatDoorRows.lean that lists a variable, with what it lists TIED to the program's text (the seventh form; the later family's looks); each row that meets fmt, with fmt's text TOLD by the authors' own Lean function (tested against real Go, not proved from fmt's source: count such statements apart). THE CARD IS WHAT COUNTS. Prove the row's statement (the work); the ties are given (YtndjcmclmhoigaaGreatDoorTie.lean); close each card by the builder's one call (the guide's Derived/Test/ToyasCard.lean, 'card_holds'). Laid BY PROGRAM, IN A SANDBOX (cutbox-door.mjs). By AI agents, Wed Nov 11 2026. No macro, syntax, notation, axiom, sorry.
-/
import Derived.Test.YtndjcmclmhoigaaGreatDoorRows
import GoSem.ClaimSeven
namespace Go.Proofs.YtndjcmclmhoigaaGreatDoor
namespace Rows

/-- THE TIED CARD OF 'circalaw09.RunsPairs'. -/
def runsPairsCard : Claim7 := { stood := { row := runsPairsRow, standIns := [], harness := (true, "3226d7727e4ef67da83bfdc8cc494739200dbf1fcf3f54c02a22a3eead7ec850"), looks := true }, kinds := [], alts := [], laidByText := true, laidKinds := [.data, .data, .data, .data, .sentinel, .sentinel, .data, .data, .pinned], laidTests := true, laidLooks := .later }
def RunsPairsCardSaid : Prop := Claim7.holds Tryz.pinned (.plain (OpenSpec.ofChange runsPairsSpec)) runsPairsCard

/-- THE TIED CARD OF 'circalaw09.RunsOne'. -/
def runsOneCard : Claim7 := { stood := { row := runsOneRow, standIns := [], harness := (true, "3226d7727e4ef67da83bfdc8cc494739200dbf1fcf3f54c02a22a3eead7ec850"), looks := true }, kinds := [], alts := [], laidByText := true, laidKinds := [.data, .data, .data, .data, .sentinel, .sentinel, .data, .data, .pinned], laidTests := true, laidLooks := .later }
def RunsOneCardSaid : Prop := Claim7.holds Tryz.pinned (.plain (OpenSpec.ofChange runsOneSpec)) runsOneCard

/-- THE TIED CARD OF 'circalaw09.RunsText'. -/
def runsTextCard : Claim7 := { stood := { row := runsTextRow, standIns := [], harness := (true, "3226d7727e4ef67da83bfdc8cc494739200dbf1fcf3f54c02a22a3eead7ec850"), looks := true }, kinds := [], alts := [], laidByText := true, laidKinds := [.data, .data, .data, .data, .sentinel, .sentinel, .data, .data, .pinned], laidTests := true, laidLooks := .later }
def RunsTextCardSaid : Prop := Claim7.holds Tryz.pinned (.plain (OpenSpec.ofChange runsTextSpec)) runsTextCard

/-- THE TIED CARD OF 'circalaw09.RunsParse'. -/
def runsParseCard : Claim7 := { stood := { row := runsParseRow, standIns := [], harness := (true, "3226d7727e4ef67da83bfdc8cc494739200dbf1fcf3f54c02a22a3eead7ec850"), looks := true }, kinds := [], alts := [], laidByText := true, laidKinds := [.data, .data, .data, .data, .sentinel, .sentinel, .data, .data, .pinned], laidTests := true, laidLooks := .later }
def RunsParseCardSaid : Prop := Claim7.holds Tryz.pinned (.plain (OpenSpec.ofChange runsParseSpec)) runsParseCard

/-- THE TIED CARD OF 'circalaw09.RunsKnown'. -/
def runsKnownCard : Claim7 := { stood := { row := runsKnownRow, standIns := [], harness := (true, "3226d7727e4ef67da83bfdc8cc494739200dbf1fcf3f54c02a22a3eead7ec850"), looks := true }, kinds := [], alts := [], laidByText := true, laidKinds := [.data, .data, .data, .data, .sentinel, .sentinel, .data, .data, .pinned], laidTests := true, laidLooks := .later }
def RunsKnownCardSaid : Prop := Claim7.holds Tryz.pinned (.plain (OpenSpec.ofChange runsKnownSpec)) runsKnownCard

/-- THE TIED CARD OF 'circalaw10.RunsetsOf'. -/
def runsetsOfCard : Claim7 := { stood := { row := runsetsOfRow, standIns := [], harness := (true, "3226d7727e4ef67da83bfdc8cc494739200dbf1fcf3f54c02a22a3eead7ec850"), looks := true }, kinds := [], alts := [], laidByText := true, laidKinds := [.data, .data, .data, .data, .sentinel, .sentinel, .data, .data, .data, .data, .pinned], laidTests := true, laidLooks := .later }
def RunsetsOfCardSaid : Prop := Claim7.holds Tryz.pinned (.plain (OpenSpec.ofChange runsetsOfSpec)) runsetsOfCard

/-- THE TIED CARD OF 'circalaw10.RunsetsPairs'. -/
def runsetsPairsCard : Claim7 := { stood := { row := runsetsPairsRow, standIns := [], harness := (true, "3226d7727e4ef67da83bfdc8cc494739200dbf1fcf3f54c02a22a3eead7ec850"), looks := true }, kinds := [], alts := [], laidByText := true, laidKinds := [.data, .data, .data, .data, .sentinel, .sentinel, .data, .data, .data, .data, .pinned], laidTests := true, laidLooks := .later }
def RunsetsPairsCardSaid : Prop := Claim7.holds Tryz.pinned (.plain (OpenSpec.ofChange runsetsPairsSpec)) runsetsPairsCard

/-- THE TIED CARD OF 'circalaw10.RunsetsOne'. -/
def runsetsOneCard : Claim7 := { stood := { row := runsetsOneRow, standIns := [], harness := (true, "3226d7727e4ef67da83bfdc8cc494739200dbf1fcf3f54c02a22a3eead7ec850"), looks := true }, kinds := [], alts := [], laidByText := true, laidKinds := [.data, .data, .data, .data, .sentinel, .sentinel, .data, .data, .data, .data, .pinned], laidTests := true, laidLooks := .later }
def RunsetsOneCardSaid : Prop := Claim7.holds Tryz.pinned (.plain (OpenSpec.ofChange runsetsOneSpec)) runsetsOneCard

/-- THE TIED CARD OF 'circalaw10.RunsetsPlain'. -/
def runsetsPlainCard : Claim7 := { stood := { row := runsetsPlainRow, standIns := [], harness := (true, "3226d7727e4ef67da83bfdc8cc494739200dbf1fcf3f54c02a22a3eead7ec850"), looks := true }, kinds := [], alts := [], laidByText := true, laidKinds := [.data, .data, .data, .data, .sentinel, .sentinel, .data, .data, .data, .data, .pinned], laidTests := true, laidLooks := .later }
def RunsetsPlainCardSaid : Prop := Claim7.holds Tryz.pinned (.plain (OpenSpec.ofChange runsetsPlainSpec)) runsetsPlainCard

/-- THE TIED CARD OF 'circalaw10.RunsetsText'. -/
def runsetsTextCard : Claim7 := { stood := { row := runsetsTextRow, standIns := [], harness := (true, "3226d7727e4ef67da83bfdc8cc494739200dbf1fcf3f54c02a22a3eead7ec850"), looks := true }, kinds := [], alts := [], laidByText := true, laidKinds := [.data, .data, .data, .data, .sentinel, .sentinel, .data, .data, .data, .data, .pinned], laidTests := true, laidLooks := .later }
def RunsetsTextCardSaid : Prop := Claim7.holds Tryz.pinned (.plain (OpenSpec.ofChange runsetsTextSpec)) runsetsTextCard

/-- THE TIED CARD OF 'circalaw10.RunsetsKnown'. -/
def runsetsKnownCard : Claim7 := { stood := { row := runsetsKnownRow, standIns := [], harness := (true, "3226d7727e4ef67da83bfdc8cc494739200dbf1fcf3f54c02a22a3eead7ec850"), looks := true }, kinds := [], alts := [], laidByText := true, laidKinds := [.data, .data, .data, .data, .sentinel, .sentinel, .data, .data, .data, .data, .pinned], laidTests := true, laidLooks := .later }
def RunsetsKnownCardSaid : Prop := Claim7.holds Tryz.pinned (.plain (OpenSpec.ofChange runsetsKnownSpec)) runsetsKnownCard

/-- THE SECOND FORM's CARD OF 'circalaw09.RunsPairs'. -/
def runsPairsUptoCard : Claim7 := { stood := { row := runsPairsUptoRow, standIns := [], harness := (true, "3226d7727e4ef67da83bfdc8cc494739200dbf1fcf3f54c02a22a3eead7ec850"), looks := true }, kinds := [], alts := [], laidByText := true, laidKinds := [.data, .data, .data, .data, .sentinel, .sentinel, .data, .data, .pinned], laidTests := true, laidLooks := .later }
def RunsPairsUptoCardSaid : Prop := Claim7.holds Tryz.pinned (.plain (OpenSpec.upto runsPairsSpec)) runsPairsUptoCard

/-- THE SECOND FORM's CARD OF 'circalaw09.RunsOne'. -/
def runsOneUptoCard : Claim7 := { stood := { row := runsOneUptoRow, standIns := [], harness := (true, "3226d7727e4ef67da83bfdc8cc494739200dbf1fcf3f54c02a22a3eead7ec850"), looks := true }, kinds := [], alts := [], laidByText := true, laidKinds := [.data, .data, .data, .data, .sentinel, .sentinel, .data, .data, .pinned], laidTests := true, laidLooks := .later }
def RunsOneUptoCardSaid : Prop := Claim7.holds Tryz.pinned (.plain (OpenSpec.upto runsOneSpec)) runsOneUptoCard

/-- THE SECOND FORM's CARD OF 'circalaw09.RunsText'. -/
def runsTextUptoCard : Claim7 := { stood := { row := runsTextUptoRow, standIns := [], harness := (true, "3226d7727e4ef67da83bfdc8cc494739200dbf1fcf3f54c02a22a3eead7ec850"), looks := true }, kinds := [], alts := [], laidByText := true, laidKinds := [.data, .data, .data, .data, .sentinel, .sentinel, .data, .data, .pinned], laidTests := true, laidLooks := .later }
def RunsTextUptoCardSaid : Prop := Claim7.holds Tryz.pinned (.plain (OpenSpec.upto runsTextSpec)) runsTextUptoCard

/-- THE SECOND FORM's CARD OF 'circalaw09.RunsParse'. -/
def runsParseUptoCard : Claim7 := { stood := { row := runsParseUptoRow, standIns := [], harness := (true, "3226d7727e4ef67da83bfdc8cc494739200dbf1fcf3f54c02a22a3eead7ec850"), looks := true }, kinds := [], alts := [], laidByText := true, laidKinds := [.data, .data, .data, .data, .sentinel, .sentinel, .data, .data, .pinned], laidTests := true, laidLooks := .later }
def RunsParseUptoCardSaid : Prop := Claim7.holds Tryz.pinned (.plain (OpenSpec.upto runsParseSpec)) runsParseUptoCard

/-- THE SECOND FORM's CARD OF 'circalaw09.RunsKnown'. -/
def runsKnownUptoCard : Claim7 := { stood := { row := runsKnownUptoRow, standIns := [], harness := (true, "3226d7727e4ef67da83bfdc8cc494739200dbf1fcf3f54c02a22a3eead7ec850"), looks := true }, kinds := [], alts := [], laidByText := true, laidKinds := [.data, .data, .data, .data, .sentinel, .sentinel, .data, .data, .pinned], laidTests := true, laidLooks := .later }
def RunsKnownUptoCardSaid : Prop := Claim7.holds Tryz.pinned (.plain (OpenSpec.upto runsKnownSpec)) runsKnownUptoCard

/-- THE SECOND FORM's CARD OF 'circalaw10.RunsetsOf'. -/
def runsetsOfUptoCard : Claim7 := { stood := { row := runsetsOfUptoRow, standIns := [], harness := (true, "3226d7727e4ef67da83bfdc8cc494739200dbf1fcf3f54c02a22a3eead7ec850"), looks := true }, kinds := [], alts := [], laidByText := true, laidKinds := [.data, .data, .data, .data, .sentinel, .sentinel, .data, .data, .data, .data, .pinned], laidTests := true, laidLooks := .later }
def RunsetsOfUptoCardSaid : Prop := Claim7.holds Tryz.pinned (.plain (OpenSpec.upto runsetsOfSpec)) runsetsOfUptoCard

/-- THE SECOND FORM's CARD OF 'circalaw10.RunsetsPairs'. -/
def runsetsPairsUptoCard : Claim7 := { stood := { row := runsetsPairsUptoRow, standIns := [], harness := (true, "3226d7727e4ef67da83bfdc8cc494739200dbf1fcf3f54c02a22a3eead7ec850"), looks := true }, kinds := [], alts := [], laidByText := true, laidKinds := [.data, .data, .data, .data, .sentinel, .sentinel, .data, .data, .data, .data, .pinned], laidTests := true, laidLooks := .later }
def RunsetsPairsUptoCardSaid : Prop := Claim7.holds Tryz.pinned (.plain (OpenSpec.upto runsetsPairsSpec)) runsetsPairsUptoCard

/-- THE SECOND FORM's CARD OF 'circalaw10.RunsetsOne'. -/
def runsetsOneUptoCard : Claim7 := { stood := { row := runsetsOneUptoRow, standIns := [], harness := (true, "3226d7727e4ef67da83bfdc8cc494739200dbf1fcf3f54c02a22a3eead7ec850"), looks := true }, kinds := [], alts := [], laidByText := true, laidKinds := [.data, .data, .data, .data, .sentinel, .sentinel, .data, .data, .data, .data, .pinned], laidTests := true, laidLooks := .later }
def RunsetsOneUptoCardSaid : Prop := Claim7.holds Tryz.pinned (.plain (OpenSpec.upto runsetsOneSpec)) runsetsOneUptoCard

/-- THE SECOND FORM's CARD OF 'circalaw10.RunsetsPlain'. -/
def runsetsPlainUptoCard : Claim7 := { stood := { row := runsetsPlainUptoRow, standIns := [], harness := (true, "3226d7727e4ef67da83bfdc8cc494739200dbf1fcf3f54c02a22a3eead7ec850"), looks := true }, kinds := [], alts := [], laidByText := true, laidKinds := [.data, .data, .data, .data, .sentinel, .sentinel, .data, .data, .data, .data, .pinned], laidTests := true, laidLooks := .later }
def RunsetsPlainUptoCardSaid : Prop := Claim7.holds Tryz.pinned (.plain (OpenSpec.upto runsetsPlainSpec)) runsetsPlainUptoCard

/-- THE SECOND FORM's CARD OF 'circalaw10.RunsetsText'. -/
def runsetsTextUptoCard : Claim7 := { stood := { row := runsetsTextUptoRow, standIns := [], harness := (true, "3226d7727e4ef67da83bfdc8cc494739200dbf1fcf3f54c02a22a3eead7ec850"), looks := true }, kinds := [], alts := [], laidByText := true, laidKinds := [.data, .data, .data, .data, .sentinel, .sentinel, .data, .data, .data, .data, .pinned], laidTests := true, laidLooks := .later }
def RunsetsTextUptoCardSaid : Prop := Claim7.holds Tryz.pinned (.plain (OpenSpec.upto runsetsTextSpec)) runsetsTextUptoCard

/-- THE SECOND FORM's CARD OF 'circalaw10.RunsetsKnown'. -/
def runsetsKnownUptoCard : Claim7 := { stood := { row := runsetsKnownUptoRow, standIns := [], harness := (true, "3226d7727e4ef67da83bfdc8cc494739200dbf1fcf3f54c02a22a3eead7ec850"), looks := true }, kinds := [], alts := [], laidByText := true, laidKinds := [.data, .data, .data, .data, .sentinel, .sentinel, .data, .data, .data, .data, .pinned], laidTests := true, laidLooks := .later }
def RunsetsKnownUptoCardSaid : Prop := Claim7.holds Tryz.pinned (.plain (OpenSpec.upto runsetsKnownSpec)) runsetsKnownUptoCard
end Rows
end Go.Proofs.YtndjcmclmhoigaaGreatDoor
