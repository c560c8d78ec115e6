/-
  DERIVED. THE FRAME's SHARED FACTS for layer 6: what the listed package-level variables give the walks.
-/
import Derived.Test.YtoafigehcgledaaGreatDoorMoBase
import Derived.Test.YtoafigehcgledaaGreatDoorI1Base
import Derived.Test.YtoafigehcgledaaGreatDoorCvText
namespace Go.Proofs.YtoafigehcgledaaGreatDoor
open Go.ChangeShapes Go.WideShapes Go.ChangeAt Go.RowKit
theorem laid_cv {W : World} {r1 r2 r3 r4 : List (String × DataW Unit)} (h1 : laidMet Tryz.prog (("circa/months.common", Rows.laid_circa_months_common) :: r1) W) (h2 : laidMet Tryz.prog (("circa/years.rules", Rows.laid_circa_years_rules) :: r2) W)
    (h3 : laidMet Tryz.prog (("strconv.ErrRange", Rows.laid_strconv_ErrRange) :: r3) W) (h4 : laidMet Tryz.prog (("internal/strconv.uint64pow10", Rows.laid_internal_strconv_uint64pow10) :: r4) W) : LaidCv W := ⟨laid_of h1 h2, I1.laid_of h3 h4⟩
end Go.Proofs.YtoafigehcgledaaGreatDoor
