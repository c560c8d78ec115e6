/-
  DERIVED. GIVEN WITH THE SEED: THE CARDS: each row of YtdjcpobnbjeohaaDoorRows.lean that lists a variable, with what it lists TIED to the program's text (the seventh form; the later family's looks); each row that meets fmt, with fmt's text TOLD by the authors' own Lean function (tested against real Go, not proved from fmt's source: count such statements apart). THE CARD IS WHAT COUNTS. Prove the row's statement (the work); the ties are given (YtdjcpobnbjeohaaDoorTie.lean); close each card by the builder's one call (the guide's Derived/Test/ToyasCard.lean, 'card_holds'). Laid BY PROGRAM, IN A SANDBOX (cutbox-door.mjs). By AI agents, Wed Nov 11 2026. No macro, syntax, notation, axiom, sorry.
-/
import Derived.Test.YtdjcpobnbjeohaaDoorRows
import GoSem.ClaimSeven
namespace Go.Proofs.YtdjcpobnbjeohaaDoor
namespace Rows

/-- THE TIED CARD OF 'circalaw04.YearsStart'. -/
def yearsStartCard : Claim7 := { stood := { row := yearsStartRow, standIns := [], harness := (true, "8166c2492dfc7861bce37d03d21cbab32bfdeed9da620b2463dfa9297c4acae2"), looks := false }, kinds := [], alts := [], laidByText := true, laidKinds := [.data], laidTests := true, laidLooks := .later }
def YearsStartCardSaid : Prop := Claim7.holds Tryd.pinned (.plain (OpenSpec.ofChange yearsStartSpec)) yearsStartCard

/-- THE TIED CARD OF 'circalaw04.YearsOf'. -/
def yearsOfCard : Claim7 := { stood := { row := yearsOfRow, standIns := [], harness := (true, "8166c2492dfc7861bce37d03d21cbab32bfdeed9da620b2463dfa9297c4acae2"), looks := false }, kinds := [], alts := [], laidByText := true, laidKinds := [.data], laidTests := true, laidLooks := .later }
def YearsOfCardSaid : Prop := Claim7.holds Tryd.pinned (.plain (OpenSpec.ofChange yearsOfSpec)) yearsOfCard

/-- THE TIED CARD OF 'circalaw04.YearsLeaps'. -/
def yearsLeapsCard : Claim7 := { stood := { row := yearsLeapsRow, standIns := [], harness := (true, "8166c2492dfc7861bce37d03d21cbab32bfdeed9da620b2463dfa9297c4acae2"), looks := false }, kinds := [], alts := [], laidByText := true, laidKinds := [.data], laidTests := true, laidLooks := .later }
def YearsLeapsCardSaid : Prop := Claim7.holds Tryd.pinned (.plain (OpenSpec.ofChange yearsLeapsSpec)) yearsLeapsCard

/-- THE TIED CARD OF 'circalaw04.YearsKnown'. -/
def yearsKnownCard : Claim7 := { stood := { row := yearsKnownRow, standIns := [], harness := (true, "8166c2492dfc7861bce37d03d21cbab32bfdeed9da620b2463dfa9297c4acae2"), looks := false }, kinds := [], alts := [], laidByText := true, laidKinds := [.data], laidTests := true, laidLooks := .later }
def YearsKnownCardSaid : Prop := Claim7.holds Tryd.pinned (.plain (OpenSpec.ofChange yearsKnownSpec)) yearsKnownCard

/-- THE SECOND FORM's CARD OF 'circalaw04.YearsStart'. -/
def yearsStartUptoCard : Claim7 := { stood := { row := yearsStartUptoRow, standIns := [], harness := (true, "8166c2492dfc7861bce37d03d21cbab32bfdeed9da620b2463dfa9297c4acae2"), looks := false }, kinds := [], alts := [], laidByText := true, laidKinds := [.data], laidTests := true, laidLooks := .later }
def YearsStartUptoCardSaid : Prop := Claim7.holds Tryd.pinned (.plain (OpenSpec.upto yearsStartSpec)) yearsStartUptoCard

/-- THE SECOND FORM's CARD OF 'circalaw04.YearsOf'. -/
def yearsOfUptoCard : Claim7 := { stood := { row := yearsOfUptoRow, standIns := [], harness := (true, "8166c2492dfc7861bce37d03d21cbab32bfdeed9da620b2463dfa9297c4acae2"), looks := false }, kinds := [], alts := [], laidByText := true, laidKinds := [.data], laidTests := true, laidLooks := .later }
def YearsOfUptoCardSaid : Prop := Claim7.holds Tryd.pinned (.plain (OpenSpec.upto yearsOfSpec)) yearsOfUptoCard

/-- THE SECOND FORM's CARD OF 'circalaw04.YearsLeaps'. -/
def yearsLeapsUptoCard : Claim7 := { stood := { row := yearsLeapsUptoRow, standIns := [], harness := (true, "8166c2492dfc7861bce37d03d21cbab32bfdeed9da620b2463dfa9297c4acae2"), looks := false }, kinds := [], alts := [], laidByText := true, laidKinds := [.data], laidTests := true, laidLooks := .later }
def YearsLeapsUptoCardSaid : Prop := Claim7.holds Tryd.pinned (.plain (OpenSpec.upto yearsLeapsSpec)) yearsLeapsUptoCard

/-- THE SECOND FORM's CARD OF 'circalaw04.YearsKnown'. -/
def yearsKnownUptoCard : Claim7 := { stood := { row := yearsKnownUptoRow, standIns := [], harness := (true, "8166c2492dfc7861bce37d03d21cbab32bfdeed9da620b2463dfa9297c4acae2"), looks := false }, kinds := [], alts := [], laidByText := true, laidKinds := [.data], laidTests := true, laidLooks := .later }
def YearsKnownUptoCardSaid : Prop := Claim7.holds Tryd.pinned (.plain (OpenSpec.upto yearsKnownSpec)) yearsKnownUptoCard
end Rows
end Go.Proofs.YtdjcpobnbjeohaaDoor
