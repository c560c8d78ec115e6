/-
 DERIVED. Package runs, as its structure of contracts.
-/
import Derived.Test.YteddfolhpoikcaaGreatDoorPRnPubA
import Derived.Test.YteddfolhpoikcaaGreatDoorPRnDvT
import Derived.Test.YteddfolhpoikcaaGreatDoorPCo
namespace Go.Proofs.YteddfolhpoikcaaGreatDoor
open Go.RowKit

theorem runFns : RunFns LaidRn := { runFnsA with
 of_ok := fun w hL x0 x1 y0 y1 h => dOfR_ok x0 x1 y0 y1 h w hL.en
 of_bad := fun w hL x0 x1 y0 y1 h => dOfR_bad x0 x1 y0 y1 h w hL.en
 cmp := fun w hL ha hb hv => dCmpR_is ha hb hv w hL.en
 text_ok := fun w hL ha hc => dTextR_ok ha hc w hL.en
 text_bad := fun w hL ha hc h0 => dTextR_bad ha hc h0 w hL.en }
end Go.Proofs.YteddfolhpoikcaaGreatDoor
