/-
  DERIVED. ARGUMENTS OF TYPE api.End, BY VALUE, OPENED: their numbers.
  DERIVED. ARGUMENTS OF TYPE circalaw09.R, BY VALUE, OPENED: their numbers.
-/
import Derived.Test.YteddfolhpoikcaaDoorRows
import Derived.Test.YteddfolhpoikcaaDoorPPa
import Derived.ProofKit
import Derived.OpenShut
import Derived.Carry
import Derived.Lay
import Derived.Lib.LaidTab
import Derived.Lib.SmallJoins
import Derived.Deep.Strs
import Derived.LaidMore
import Derived.SevenTiedAt
import Derived.Stop.Joined
namespace Go.Proofs.YteddfolhpoikcaaDoor
open Go.ChangeShapes Go.WideShapes Go.ChangeAt Go.RowKit
set_option maxRecDepth 100000
theorem laidOutEn : laidOutB Tryd.prog = true := by kernel_rfl
theorem cells_en64 : Tryd.prog.cellsOf 2 = 1 := by kernel_rfl
theorem cells_en8 : Tryd.prog.cellsOf 22 = 1 := by kernel_rfl
theorem cells_End : Tryd.prog.cellsOf 24 = 2 := by kernel_rfl
theorem i64_wfEn {n : Int} (h : (Lit.int .i64 n).wf = true) : -9223372036854775808 ≤ n ∧ n ≤ 9223372036854775807 := by
  simpa [Lit.wf, IntKind.min, IntKind.max, IntKind.signed, IntKind.bits] using h
theorem end_of {H : Type} {enc : TypeId × Value → H} {w : World} {base : Nat} {sp : Nat → Bool} {held : Bool} {fuel : Nat} {c0 c1 : Value} {y : DataW H × List MemPlace}
    (h : DataW.trod enc Tryd.prog w base sp held fuel 24 [c0, c1] = some y) : ∃ f d, c0 = .int .i8 f ∧ c1 = .int .i64 d ∧ (-9223372036854775808 ≤ d ∧ d ≤ 9223372036854775807) := by
  obtain ⟨y0, y1, n, _, _, h0, h1⟩ := trod_struct2 Tryd.underlying24 h
  simp only [cells_en64, cells_en8] at h0 h1
  obtain ⟨a, e0, _, _⟩ := DataW.trod_int Tryd.underlying22 h0
  obtain ⟨b, e1, _, w1⟩ := DataW.trod_int Tryd.underlying2 h1
  simp at e0 e1
  exact ⟨a, b, e0, e1, i64_wfEn w1⟩
theorem open_End {H : Type} {enc : TypeId × Value → H} {W : World} {base : Nat} {v : Value} {d : DataW H} {p : List MemPlace}
    (hv : Value.okWide Tryd.prog W .any base 24 v) (h : DataW.Trod enc Tryd.prog W 0 (fun _ => true) true 24 v d p) :
    ∃ f d, v = .agg #[.int .i8 f, .int .i64 d] ∧ (-9223372036854775808 ≤ d ∧ d ≤ 9223372036854775807) := by
  obtain ⟨cs, rfl, hsz⟩ := okWide_struct Tryd.underlying24 hv
  rw [cells_End] at hsz
  obtain ⟨c0, c1, rfl⟩ : ∃ c0 c1, cs = #[c0, c1] := by
    obtain ⟨l⟩ := cs
    match l, hsz with
    | [c0, c1], _ => exact ⟨c0, c1, rfl⟩
  obtain ⟨fuel, hf⟩ := h
  obtain ⟨f, d, rfl, rfl, hb⟩ := end_of (c0 := c0) (c1 := c1) hf
  exact ⟨f, d, rfl, hb⟩
end Go.Proofs.YteddfolhpoikcaaDoor
namespace Go.Proofs.YteddfolhpoikcaaDoor
open Go.ChangeShapes Go.WideShapes Go.ChangeAt Go.RowKit
set_option maxRecDepth 100000
theorem cells_u8R : Tryd.prog.cellsOf 5 = 1 := by kernel_rfl
theorem cells_i16R : Tryd.prog.cellsOf 47 = 1 := by kernel_rfl
theorem cells_RR : Tryd.prog.cellsOf 49 = 3 := by kernel_rfl
theorem u8_wfR {n : Int} (h : (Lit.int .u8 n).wf = true) : 0 ≤ n ∧ n ≤ 255 := by
  simpa [Lit.wf, IntKind.min, IntKind.max, IntKind.signed, IntKind.bits] using h
theorem open_RR {H : Type} {enc : TypeId × Value → H} {W : World} {base : Nat} {v : Value} {d : DataW H} {p : List MemPlace}
    (hv : Value.okWide Tryd.prog W .any base 49 v) (h : DataW.Trod enc Tryd.prog W 0 (fun _ => true) true 49 v d p) :
    ∃ k l x, v = .agg #[.int .u8 k, .int .u8 l, .int .i16 x] ∧ 0 ≤ k ∧ 0 ≤ l := by
  obtain ⟨cs, rfl, hsz⟩ := okWide_struct Tryd.underlying49 hv
  rw [cells_RR] at hsz
  obtain ⟨c0, c1, c2, rfl⟩ : ∃ c0 c1 c2, cs = #[c0, c1, c2] := by
    obtain ⟨l⟩ := cs
    match l, hsz with
    | [c0, c1, c2], _ => exact ⟨c0, c1, c2, rfl⟩
  obtain ⟨fuel, hf⟩ := h
  obtain ⟨y0, y1, y2, n, _, _, h0, h1, h2⟩ := Go.Deep.trod_struct3 Tryd.underlying49 hf
  simp only [cells_u8R, cells_i16R] at h0 h1 h2
  obtain ⟨a, e0, _, w0⟩ := DataW.trod_int Tryd.underlying5 h0
  obtain ⟨b, e1, _, w1⟩ := DataW.trod_int Tryd.underlying5 h1
  obtain ⟨c, e2, _, _⟩ := DataW.trod_int Tryd.underlying47 h2
  simp [Value.cells] at e0 e1 e2
  subst e0 e1 e2
  exact ⟨a, b, c, rfl, (u8_wfR w0).1, (u8_wfR w1).1⟩
end Go.Proofs.YteddfolhpoikcaaDoor
