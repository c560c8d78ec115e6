/-
 DERIVED. CONTRACT of the reference's Parse.
 DERIVED. CONTRACT of the reference's Add: other signs; all signs.
 DERIVED. CONTRACT of the reference's Cmp.
 DERIVED. CONTRACTS of the reference's Int, and of the statements' own 'is'.
 DERIVED. The whole numbers' reference in namespace R1: Parse, any text. Written by mkr1b.
-/
import Derived.Test.YtndjcmclmhoigaaGreatDoorPA1
import Derived.WalkSpells
import Derived.Deep.RegionLaw
import Derived.Deep.RegionHeld
import Derived.Deep.Cut
import Derived.Deep.RegionHeld3
import Derived.Deep.DeepCutAuto
namespace Go.Proofs.YtndjcmclmhoigaaGreatDoor.R1
open Go.RowKit

def dgs (l : List UInt8) (k : Nat) : List Nat := (l.drop k).reverse.map fun c => c.toNat - 48
end Go.Proofs.YtndjcmclmhoigaaGreatDoor.R1
namespace Go.Proofs.YtndjcmclmhoigaaGreatDoor.R1
open Go.RowKit

end Go.Proofs.YtndjcmclmhoigaaGreatDoor.R1
namespace Go.Proofs.YtndjcmclmhoigaaGreatDoor.R1
open Go.RowKit

def cmpI (x y : Int) : Int := if x < y then -1 else if y < x then 1 else 0

end Go.Proofs.YtndjcmclmhoigaaGreatDoor.R1
namespace Go.Proofs.YtndjcmclmhoigaaGreatDoor.R1
open Go.RowKit

end Go.Proofs.YtndjcmclmhoigaaGreatDoor.R1
namespace Go.Proofs.YtndjcmclmhoigaaGreatDoor.R1
open Go.RowKit

end Go.Proofs.YtndjcmclmhoigaaGreatDoor.R1
