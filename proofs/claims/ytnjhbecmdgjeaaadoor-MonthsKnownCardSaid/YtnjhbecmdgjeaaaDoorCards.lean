/-
  DERIVED. GIVEN WITH THE SEED: THE CARDS: each row of YtnjhbecmdgjeaaaDoorRows.lean that lists a variable, with what it lists TIED to the program's text (the seventh form; the later family's looks); each row that meets fmt, with fmt's text TOLD by the authors' own Lean function (tested against real Go, not proved from fmt's source: count such statements apart). THE CARD IS WHAT COUNTS. Prove the row's statement (the work); the ties are given (YtnjhbecmdgjeaaaDoorTie.lean); close each card by the builder's one call (the guide's Derived/Test/ToyasCard.lean, 'card_holds'). Laid BY PROGRAM, IN A SANDBOX (cutbox-door.mjs). By AI agents, Wed Nov 11 2026. No macro, syntax, notation, axiom, sorry.
-/
import Derived.Test.YtnjhbecmdgjeaaaDoorRows
import GoSem.ClaimSeven
namespace Go.Proofs.YtnjhbecmdgjeaaaDoor
namespace Rows

/-- THE TIED CARD OF 'circalaw05.MonthsDays'. -/
def monthsDaysCard : Claim7 := { stood := { row := monthsDaysRow, standIns := [], harness := (true, "e1383cdc8ef89f9963e3c9fbaece31cbc66440e65198b44ebd29ba175f331a2b"), looks := false }, kinds := [], alts := [], laidByText := true, laidKinds := [.data, .data], laidTests := true, laidLooks := .later }
def MonthsDaysCardSaid : Prop := Claim7.holds Tryd.pinned (.plain (OpenSpec.ofChange monthsDaysSpec)) monthsDaysCard

/-- THE TIED CARD OF 'circalaw05.MonthsOf'. -/
def monthsOfCard : Claim7 := { stood := { row := monthsOfRow, standIns := [], harness := (true, "e1383cdc8ef89f9963e3c9fbaece31cbc66440e65198b44ebd29ba175f331a2b"), looks := false }, kinds := [], alts := [], laidByText := true, laidKinds := [.data, .data], laidTests := true, laidLooks := .later }
def MonthsOfCardSaid : Prop := Claim7.holds Tryd.pinned (.plain (OpenSpec.ofChange monthsOfSpec)) monthsOfCard

/-- THE TIED CARD OF 'circalaw05.MonthsAdd'. -/
def monthsAddCard : Claim7 := { stood := { row := monthsAddRow, standIns := [], harness := (true, "e1383cdc8ef89f9963e3c9fbaece31cbc66440e65198b44ebd29ba175f331a2b"), looks := false }, kinds := [], alts := [], laidByText := true, laidKinds := [.data, .data], laidTests := true, laidLooks := .later }
def MonthsAddCardSaid : Prop := Claim7.holds Tryd.pinned (.plain (OpenSpec.ofChange monthsAddSpec)) monthsAddCard

/-- THE TIED CARD OF 'circalaw05.MonthsBetween'. -/
def monthsBetweenCard : Claim7 := { stood := { row := monthsBetweenRow, standIns := [], harness := (true, "e1383cdc8ef89f9963e3c9fbaece31cbc66440e65198b44ebd29ba175f331a2b"), looks := false }, kinds := [], alts := [], laidByText := true, laidKinds := [.data, .data], laidTests := true, laidLooks := .later }
def MonthsBetweenCardSaid : Prop := Claim7.holds Tryd.pinned (.plain (OpenSpec.ofChange monthsBetweenSpec)) monthsBetweenCard

/-- THE TIED CARD OF 'circalaw05.MonthsKnown'. -/
def monthsKnownCard : Claim7 := { stood := { row := monthsKnownRow, standIns := [], harness := (true, "e1383cdc8ef89f9963e3c9fbaece31cbc66440e65198b44ebd29ba175f331a2b"), looks := false }, kinds := [], alts := [], laidByText := true, laidKinds := [.data, .data], laidTests := true, laidLooks := .later }
def MonthsKnownCardSaid : Prop := Claim7.holds Tryd.pinned (.plain (OpenSpec.ofChange monthsKnownSpec)) monthsKnownCard

/-- THE SECOND FORM's CARD OF 'circalaw05.MonthsDays'. -/
def monthsDaysUptoCard : Claim7 := { stood := { row := monthsDaysUptoRow, standIns := [], harness := (true, "e1383cdc8ef89f9963e3c9fbaece31cbc66440e65198b44ebd29ba175f331a2b"), looks := false }, kinds := [], alts := [], laidByText := true, laidKinds := [.data, .data], laidTests := true, laidLooks := .later }
def MonthsDaysUptoCardSaid : Prop := Claim7.holds Tryd.pinned (.plain (OpenSpec.upto monthsDaysSpec)) monthsDaysUptoCard

/-- THE SECOND FORM's CARD OF 'circalaw05.MonthsOf'. -/
def monthsOfUptoCard : Claim7 := { stood := { row := monthsOfUptoRow, standIns := [], harness := (true, "e1383cdc8ef89f9963e3c9fbaece31cbc66440e65198b44ebd29ba175f331a2b"), looks := false }, kinds := [], alts := [], laidByText := true, laidKinds := [.data, .data], laidTests := true, laidLooks := .later }
def MonthsOfUptoCardSaid : Prop := Claim7.holds Tryd.pinned (.plain (OpenSpec.upto monthsOfSpec)) monthsOfUptoCard

/-- THE SECOND FORM's CARD OF 'circalaw05.MonthsAdd'. -/
def monthsAddUptoCard : Claim7 := { stood := { row := monthsAddUptoRow, standIns := [], harness := (true, "e1383cdc8ef89f9963e3c9fbaece31cbc66440e65198b44ebd29ba175f331a2b"), looks := false }, kinds := [], alts := [], laidByText := true, laidKinds := [.data, .data], laidTests := true, laidLooks := .later }
def MonthsAddUptoCardSaid : Prop := Claim7.holds Tryd.pinned (.plain (OpenSpec.upto monthsAddSpec)) monthsAddUptoCard

/-- THE SECOND FORM's CARD OF 'circalaw05.MonthsBetween'. -/
def monthsBetweenUptoCard : Claim7 := { stood := { row := monthsBetweenUptoRow, standIns := [], harness := (true, "e1383cdc8ef89f9963e3c9fbaece31cbc66440e65198b44ebd29ba175f331a2b"), looks := false }, kinds := [], alts := [], laidByText := true, laidKinds := [.data, .data], laidTests := true, laidLooks := .later }
def MonthsBetweenUptoCardSaid : Prop := Claim7.holds Tryd.pinned (.plain (OpenSpec.upto monthsBetweenSpec)) monthsBetweenUptoCard

/-- THE SECOND FORM's CARD OF 'circalaw05.MonthsKnown'. -/
def monthsKnownUptoCard : Claim7 := { stood := { row := monthsKnownUptoRow, standIns := [], harness := (true, "e1383cdc8ef89f9963e3c9fbaece31cbc66440e65198b44ebd29ba175f331a2b"), looks := false }, kinds := [], alts := [], laidByText := true, laidKinds := [.data, .data], laidTests := true, laidLooks := .later }
def MonthsKnownUptoCardSaid : Prop := Claim7.holds Tryd.pinned (.plain (OpenSpec.upto monthsKnownSpec)) monthsKnownUptoCard
end Rows
end Go.Proofs.YtnjhbecmdgjeaaaDoor
