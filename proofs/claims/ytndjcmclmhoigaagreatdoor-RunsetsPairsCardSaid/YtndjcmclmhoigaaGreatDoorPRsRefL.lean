/-
 DERIVED. CONTRACT of the reference of layer 10 (runsets): less. Written by mkrsless.py.
-/
import Derived.Test.YtndjcmclmhoigaaGreatDoorPA7
namespace Go.Proofs.YtndjcmclmhoigaaGreatDoor
open Go.RowKit
set_option maxRecDepth 100000

end Go.Proofs.YtndjcmclmhoigaaGreatDoor
