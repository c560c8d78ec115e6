/-
 DERIVED. CONTRACT of the reference of layer 9 (runs): Parse. Written by mkrnrefp.py.
 DERIVED. CONTRACT of the reference of layer 10 (runsets): Parse.
-/
import Derived.Test.YtndjcmclmhoigaaGreatDoorPA5
import Derived.Test.YtndjcmclmhoigaaGreatDoorPA9
import Derived.Test.YtndjcmclmhoigaaGreatDoorPB2
import Derived.Test.YtndjcmclmhoigaaGreatDoorPA7
import Derived.Test.YtndjcmclmhoigaaGreatDoorPA6
namespace Go.Proofs.YtndjcmclmhoigaaGreatDoor
open Go.RowKit
set_option maxRecDepth 100000

/-- the result's block, still zero -/
structure Zr (w W : World) : Prop where
 below : Below w.heap.size w W
 z : W.heap[w.heap.size]? = some (.cells #[.int .i8 0, .int .i64 0, .int .i8 0, .int .i64 0] 26 (0, 0))
theorem Zr.step {w W W' : World} (h : Zr w W) (hb : Below W.heap.size W W') : Zr w W' :=
 ⟨h.below.trans (hb.mono h.below.size), by rw [hb.block _ (Array.getElem?_eq_some_iff.1 h.z).1]; exact h.z⟩
end Go.Proofs.YtndjcmclmhoigaaGreatDoor
namespace Go.Proofs.YtndjcmclmhoigaaGreatDoor
open Go.RowKit
set_option maxRecDepth 100000

variable {w W W' : World} {l : List UInt8}
end Go.Proofs.YtndjcmclmhoigaaGreatDoor
