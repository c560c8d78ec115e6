/-
 DERIVED. CONTRACT of the reference of layer 10 (runsets): Count. Written by mkrscnt.py.
-/
import Derived.Test.YtndjcmclmhoigaaGreatDoorPB1
import Derived.Test.YtndjcmclmhoigaaGreatDoorPA6
import Derived.Test.YtndjcmclmhoigaaGreatDoorPA3
namespace Go.Proofs.YtndjcmclmhoigaaGreatDoor
open Go.RowKit
set_option maxRecDepth 100000

variable {w W W' : World} {a b : Option Addr} {l m : List Rn}
end Go.Proofs.YtndjcmclmhoigaaGreatDoor
