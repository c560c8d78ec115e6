/-
  DERIVED. GIVEN WITH THE SEED: THE CARDS: each row of YteddfolhpoikcaaDoorRows.lean that lists a variable, with what it lists TIED to the program's text (the seventh form; the later family's looks); each row that meets fmt, with fmt's text TOLD by the authors' own Lean function (tested against real Go, not proved from fmt's source: count such statements apart). THE CARD IS WHAT COUNTS. Prove the row's statement (the work); the ties are given (YteddfolhpoikcaaDoorTie.lean); close each card by the builder's one call (the guide's Derived/Test/ToyasCard.lean, 'card_holds'). Laid BY PROGRAM, IN A SANDBOX (cutbox-door.mjs). By AI agents, Wed Nov 11 2026. No macro, syntax, notation, axiom, sorry.
-/
import Derived.Test.YteddfolhpoikcaaDoorRows
import GoSem.ClaimSeven
namespace Go.Proofs.YteddfolhpoikcaaDoor
namespace Rows

/-- THE TIED CARD OF 'circalaw08.EndsOrder'. -/
def endsOrderCard : Claim7 := { stood := { row := endsOrderRow, standIns := [], harness := (true, "cd959d960eaae079f61e60b2d4727f3ffe49f3ed526b3ef275561615d5aa7ef3"), looks := true }, kinds := [], alts := [], laidByText := true, laidKinds := [.data, .data, .data, .data, .sentinel, .sentinel, .data, .data, .pinned], laidTests := true, laidLooks := .later }
def EndsOrderCardSaid : Prop := Claim7.holds Tryd.pinned (.plain (OpenSpec.ofChange endsOrderSpec)) endsOrderCard

/-- THE TIED CARD OF 'circalaw08.EndsNext'. -/
def endsNextCard : Claim7 := { stood := { row := endsNextRow, standIns := [], harness := (true, "cd959d960eaae079f61e60b2d4727f3ffe49f3ed526b3ef275561615d5aa7ef3"), looks := true }, kinds := [], alts := [], laidByText := true, laidKinds := [.data, .data, .data, .data, .sentinel, .sentinel, .data, .data, .pinned], laidTests := true, laidLooks := .later }
def EndsNextCardSaid : Prop := Claim7.holds Tryd.pinned (.plain (OpenSpec.ofChange endsNextSpec)) endsNextCard

/-- THE TIED CARD OF 'circalaw08.EndsText'. -/
def endsTextCard : Claim7 := { stood := { row := endsTextRow, standIns := [], harness := (true, "cd959d960eaae079f61e60b2d4727f3ffe49f3ed526b3ef275561615d5aa7ef3"), looks := true }, kinds := [], alts := [], laidByText := true, laidKinds := [.data, .data, .data, .data, .sentinel, .sentinel, .data, .data, .pinned], laidTests := true, laidLooks := .later }
def EndsTextCardSaid : Prop := Claim7.holds Tryd.pinned (.plain (OpenSpec.ofChange endsTextSpec)) endsTextCard

/-- THE TIED CARD OF 'circalaw08.EndsParse'. -/
def endsParseCard : Claim7 := { stood := { row := endsParseRow, standIns := [], harness := (true, "cd959d960eaae079f61e60b2d4727f3ffe49f3ed526b3ef275561615d5aa7ef3"), looks := true }, kinds := [], alts := [], laidByText := true, laidKinds := [.data, .data, .data, .data, .sentinel, .sentinel, .data, .data, .pinned], laidTests := true, laidLooks := .later }
def EndsParseCardSaid : Prop := Claim7.holds Tryd.pinned (.plain (OpenSpec.ofChange endsParseSpec)) endsParseCard

/-- THE TIED CARD OF 'circalaw08.EndsKnown'. -/
def endsKnownCard : Claim7 := { stood := { row := endsKnownRow, standIns := [], harness := (true, "cd959d960eaae079f61e60b2d4727f3ffe49f3ed526b3ef275561615d5aa7ef3"), looks := true }, kinds := [], alts := [], laidByText := true, laidKinds := [.data, .data, .data, .data, .sentinel, .sentinel, .data, .data, .pinned], laidTests := true, laidLooks := .later }
def EndsKnownCardSaid : Prop := Claim7.holds Tryd.pinned (.plain (OpenSpec.ofChange endsKnownSpec)) endsKnownCard

/-- THE TIED CARD OF 'circalaw09.RunsPlain'. -/
def runsPlainCard : Claim7 := { stood := { row := runsPlainRow, standIns := [], harness := (true, "cd959d960eaae079f61e60b2d4727f3ffe49f3ed526b3ef275561615d5aa7ef3"), looks := true }, kinds := [], alts := [], laidByText := true, laidKinds := [.data, .data, .data, .data, .sentinel, .sentinel, .data, .data, .pinned], laidTests := true, laidLooks := .later }
def RunsPlainCardSaid : Prop := Claim7.holds Tryd.pinned (.plain (OpenSpec.ofChange runsPlainSpec)) runsPlainCard

/-- THE SECOND FORM's CARD OF 'circalaw08.EndsOrder'. -/
def endsOrderUptoCard : Claim7 := { stood := { row := endsOrderUptoRow, standIns := [], harness := (true, "cd959d960eaae079f61e60b2d4727f3ffe49f3ed526b3ef275561615d5aa7ef3"), looks := true }, kinds := [], alts := [], laidByText := true, laidKinds := [.data, .data, .data, .data, .sentinel, .sentinel, .data, .data, .pinned], laidTests := true, laidLooks := .later }
def EndsOrderUptoCardSaid : Prop := Claim7.holds Tryd.pinned (.plain (OpenSpec.upto endsOrderSpec)) endsOrderUptoCard

/-- THE SECOND FORM's CARD OF 'circalaw08.EndsNext'. -/
def endsNextUptoCard : Claim7 := { stood := { row := endsNextUptoRow, standIns := [], harness := (true, "cd959d960eaae079f61e60b2d4727f3ffe49f3ed526b3ef275561615d5aa7ef3"), looks := true }, kinds := [], alts := [], laidByText := true, laidKinds := [.data, .data, .data, .data, .sentinel, .sentinel, .data, .data, .pinned], laidTests := true, laidLooks := .later }
def EndsNextUptoCardSaid : Prop := Claim7.holds Tryd.pinned (.plain (OpenSpec.upto endsNextSpec)) endsNextUptoCard

/-- THE SECOND FORM's CARD OF 'circalaw08.EndsText'. -/
def endsTextUptoCard : Claim7 := { stood := { row := endsTextUptoRow, standIns := [], harness := (true, "cd959d960eaae079f61e60b2d4727f3ffe49f3ed526b3ef275561615d5aa7ef3"), looks := true }, kinds := [], alts := [], laidByText := true, laidKinds := [.data, .data, .data, .data, .sentinel, .sentinel, .data, .data, .pinned], laidTests := true, laidLooks := .later }
def EndsTextUptoCardSaid : Prop := Claim7.holds Tryd.pinned (.plain (OpenSpec.upto endsTextSpec)) endsTextUptoCard

/-- THE SECOND FORM's CARD OF 'circalaw08.EndsParse'. -/
def endsParseUptoCard : Claim7 := { stood := { row := endsParseUptoRow, standIns := [], harness := (true, "cd959d960eaae079f61e60b2d4727f3ffe49f3ed526b3ef275561615d5aa7ef3"), looks := true }, kinds := [], alts := [], laidByText := true, laidKinds := [.data, .data, .data, .data, .sentinel, .sentinel, .data, .data, .pinned], laidTests := true, laidLooks := .later }
def EndsParseUptoCardSaid : Prop := Claim7.holds Tryd.pinned (.plain (OpenSpec.upto endsParseSpec)) endsParseUptoCard

/-- THE SECOND FORM's CARD OF 'circalaw08.EndsKnown'. -/
def endsKnownUptoCard : Claim7 := { stood := { row := endsKnownUptoRow, standIns := [], harness := (true, "cd959d960eaae079f61e60b2d4727f3ffe49f3ed526b3ef275561615d5aa7ef3"), looks := true }, kinds := [], alts := [], laidByText := true, laidKinds := [.data, .data, .data, .data, .sentinel, .sentinel, .data, .data, .pinned], laidTests := true, laidLooks := .later }
def EndsKnownUptoCardSaid : Prop := Claim7.holds Tryd.pinned (.plain (OpenSpec.upto endsKnownSpec)) endsKnownUptoCard

/-- THE SECOND FORM's CARD OF 'circalaw09.RunsPlain'. -/
def runsPlainUptoCard : Claim7 := { stood := { row := runsPlainUptoRow, standIns := [], harness := (true, "cd959d960eaae079f61e60b2d4727f3ffe49f3ed526b3ef275561615d5aa7ef3"), looks := true }, kinds := [], alts := [], laidByText := true, laidKinds := [.data, .data, .data, .data, .sentinel, .sentinel, .data, .data, .pinned], laidTests := true, laidLooks := .later }
def RunsPlainUptoCardSaid : Prop := Claim7.holds Tryd.pinned (.plain (OpenSpec.upto runsPlainSpec)) runsPlainUptoCard
end Rows
end Go.Proofs.YteddfolhpoikcaaDoor
