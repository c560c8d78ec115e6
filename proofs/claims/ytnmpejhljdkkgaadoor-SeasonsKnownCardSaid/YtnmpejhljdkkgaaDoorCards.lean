/-
  DERIVED. GIVEN WITH THE SEED: THE CARDS: each row of YtnmpejhljdkkgaaDoorRows.lean that lists a variable, with what it lists TIED to the program's text (the seventh form; the later family's looks); each row that meets fmt, with fmt's text TOLD by the authors' own Lean function (tested against real Go, not proved from fmt's source: count such statements apart). THE CARD IS WHAT COUNTS. Prove the row's statement (the work); the ties are given (YtnmpejhljdkkgaaDoorTie.lean); close each card by the builder's one call (the guide's Derived/Test/ToyasCard.lean, 'card_holds'). Laid BY PROGRAM, IN A SANDBOX (cutbox-door.mjs). By AI agents, Wed Nov 11 2026. No macro, syntax, notation, axiom, sorry.
-/
import Derived.Test.YtnmpejhljdkkgaaDoorRows
import GoSem.ClaimSeven
namespace Go.Proofs.YtnmpejhljdkkgaaDoor
namespace Rows

/-- THE TIED CARD OF 'circalaw07.SeasonsRun'. -/
def seasonsRunCard : Claim7 := { stood := { row := seasonsRunRow, standIns := [], harness := (true, "df0ef219285bd3d6b52aff39ebcb21fe2353743df1f81048949821b98b9516ec"), looks := false }, kinds := [], alts := [], laidByText := true, laidKinds := [.data, .data, .data], laidTests := true, laidLooks := .later }
def SeasonsRunCardSaid : Prop := Claim7.holds Tryd.pinned (.plain (OpenSpec.ofChange seasonsRunSpec)) seasonsRunCard

/-- THE TIED CARD OF 'circalaw07.SeasonsOf'. -/
def seasonsOfCard : Claim7 := { stood := { row := seasonsOfRow, standIns := [], harness := (true, "df0ef219285bd3d6b52aff39ebcb21fe2353743df1f81048949821b98b9516ec"), looks := false }, kinds := [], alts := [], laidByText := true, laidKinds := [.data, .data, .data], laidTests := true, laidLooks := .later }
def SeasonsOfCardSaid : Prop := Claim7.holds Tryd.pinned (.plain (OpenSpec.ofChange seasonsOfSpec)) seasonsOfCard

/-- THE TIED CARD OF 'circalaw07.SeasonsParts'. -/
def seasonsPartsCard : Claim7 := { stood := { row := seasonsPartsRow, standIns := [], harness := (true, "df0ef219285bd3d6b52aff39ebcb21fe2353743df1f81048949821b98b9516ec"), looks := false }, kinds := [], alts := [], laidByText := true, laidKinds := [.data, .data, .data], laidTests := true, laidLooks := .later }
def SeasonsPartsCardSaid : Prop := Claim7.holds Tryd.pinned (.plain (OpenSpec.ofChange seasonsPartsSpec)) seasonsPartsCard

/-- THE TIED CARD OF 'circalaw07.SeasonsKnown'. -/
def seasonsKnownCard : Claim7 := { stood := { row := seasonsKnownRow, standIns := [], harness := (true, "df0ef219285bd3d6b52aff39ebcb21fe2353743df1f81048949821b98b9516ec"), looks := false }, kinds := [], alts := [], laidByText := true, laidKinds := [.data, .data, .data], laidTests := true, laidLooks := .later }
def SeasonsKnownCardSaid : Prop := Claim7.holds Tryd.pinned (.plain (OpenSpec.ofChange seasonsKnownSpec)) seasonsKnownCard

/-- THE SECOND FORM's CARD OF 'circalaw07.SeasonsRun'. -/
def seasonsRunUptoCard : Claim7 := { stood := { row := seasonsRunUptoRow, standIns := [], harness := (true, "df0ef219285bd3d6b52aff39ebcb21fe2353743df1f81048949821b98b9516ec"), looks := false }, kinds := [], alts := [], laidByText := true, laidKinds := [.data, .data, .data], laidTests := true, laidLooks := .later }
def SeasonsRunUptoCardSaid : Prop := Claim7.holds Tryd.pinned (.plain (OpenSpec.upto seasonsRunSpec)) seasonsRunUptoCard

/-- THE SECOND FORM's CARD OF 'circalaw07.SeasonsOf'. -/
def seasonsOfUptoCard : Claim7 := { stood := { row := seasonsOfUptoRow, standIns := [], harness := (true, "df0ef219285bd3d6b52aff39ebcb21fe2353743df1f81048949821b98b9516ec"), looks := false }, kinds := [], alts := [], laidByText := true, laidKinds := [.data, .data, .data], laidTests := true, laidLooks := .later }
def SeasonsOfUptoCardSaid : Prop := Claim7.holds Tryd.pinned (.plain (OpenSpec.upto seasonsOfSpec)) seasonsOfUptoCard

/-- THE SECOND FORM's CARD OF 'circalaw07.SeasonsParts'. -/
def seasonsPartsUptoCard : Claim7 := { stood := { row := seasonsPartsUptoRow, standIns := [], harness := (true, "df0ef219285bd3d6b52aff39ebcb21fe2353743df1f81048949821b98b9516ec"), looks := false }, kinds := [], alts := [], laidByText := true, laidKinds := [.data, .data, .data], laidTests := true, laidLooks := .later }
def SeasonsPartsUptoCardSaid : Prop := Claim7.holds Tryd.pinned (.plain (OpenSpec.upto seasonsPartsSpec)) seasonsPartsUptoCard

/-- THE SECOND FORM's CARD OF 'circalaw07.SeasonsKnown'. -/
def seasonsKnownUptoCard : Claim7 := { stood := { row := seasonsKnownUptoRow, standIns := [], harness := (true, "df0ef219285bd3d6b52aff39ebcb21fe2353743df1f81048949821b98b9516ec"), looks := false }, kinds := [], alts := [], laidByText := true, laidKinds := [.data, .data, .data], laidTests := true, laidLooks := .later }
def SeasonsKnownUptoCardSaid : Prop := Claim7.holds Tryd.pinned (.plain (OpenSpec.upto seasonsKnownSpec)) seasonsKnownUptoCard
end Rows
end Go.Proofs.YtnmpejhljdkkgaaDoor
