/-
  DERIVED. THE FRAME's SHARED FACTS: what the listed package-level variables give the walks.
-/
import Derived.Test.YteddfolhpoikcaaDoorTie
import Derived.Test.YteddfolhpoikcaaDoorCards
import Derived.Test.YteddfolhpoikcaaDoorPI1Txt
import Derived.ProofKit
import Derived.LaidMore
import Derived.OpenShut
import Derived.Lay
import Derived.Lib.LaidTab
import Derived.Stop.LaidErr
import Derived.SevenTiedAt
import Derived.Stop.Joined
import Derived.Lib.AtoiErrMem
namespace Go.Proofs.YteddfolhpoikcaaDoor.I1
open Go.ChangeShapes Go.WideShapes Go.ChangeAt Go.RowKit
set_option maxRecDepth 100000

theorem gRangeType : (Tryd.prog.globals[4]?).map (·.type) = some 86 := by kernel_rfl
theorem gPowType : (Tryd.prog.globals[2]?).map (·.type) = some 134 := by kernel_rfl
theorem star : "*" ++ "errors.errorString" = "*errors.errorString" := by decide
theorem rowErr (u : TypeId) (h : Tryd.prog.typeName? 3 u = some "*errors.errorString") : u = 153 :=
  typeName_ptr_named (nm := "errors.errorString") (by rw [star]; kernel_rfl) (by kernel_rfl) (by decide) u (by rw [star]; exact h)
/-- the variables' data, as the laid list of a row has them, give what the walks ask -/
theorem laid_of {W : World} {r1 r2 : List (String × DataW Unit)}
    (h1 : laidMet Tryd.prog (("strconv.ErrRange", Rows.laid_strconv_ErrRange) :: r1) W)
    (h2 : laidMet Tryd.prog (("internal/strconv.uint64pow10", Rows.laid_internal_strconv_uint64pow10) :: r2) W) : Laid W := by
  obtain ⟨a, s, hv, _⟩ := laid_sentinel h1 gRange gRangeType Tryd.underlying86 rowErr Tryd.underlying153 Tryd.underlying155 rfl rfl Tryd.underlying9 (by kernel_rfl) (by kernel_rfl)
  have h3 : laidMet Tryd.prog (("internal/strconv.uint64pow10", Lib.tabData .u64 Lib.pow10Tab) :: r2) W := h2
  have hp := Lib.tabIs_of_head gPow gPowType Tryd.underlying134 Tryd.underlying110 (by kernel_rfl) (by kernel_rfl) h3
  refine ⟨⟨_, _, hv⟩, hp, ?_, ?_⟩
  · have := World.var?_cell gRange hv 0
    exact Lib.lt_of_cell (a := ⟨4, 0, none⟩) (by simpa using this)
  · have := Lib.TabIs.cell hp gPow 0 (by decide)
    exact Lib.lt_of_cell (a := ⟨2, 0, none⟩) this
end Go.Proofs.YteddfolhpoikcaaDoor.I1
