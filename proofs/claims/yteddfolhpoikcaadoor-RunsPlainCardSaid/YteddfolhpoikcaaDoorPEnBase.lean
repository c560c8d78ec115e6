/-
  DERIVED. WHAT THE LISTED VARIABLES (the two infinities, and those of package ints) give the walks.
-/
import Derived.Test.YteddfolhpoikcaaDoorPI1Base
import Derived.Test.YteddfolhpoikcaaDoorPEnDev
import Derived.Lib.SmallJoins
namespace Go.Proofs.YteddfolhpoikcaaDoor
open Go.ChangeShapes Go.WideShapes Go.ChangeAt Go.RowKit
set_option maxRecDepth 100000

theorem own : ownKnob Tryd.prog.godebug = none := by kernel_rfl
theorem gLeast : Tryd.prog.globalNamed "circa/ends.least" = some 0 := by kernel_rfl
theorem gGreatest : Tryd.prog.globalNamed "circa/ends.greatest" = some 1 := by kernel_rfl
theorem gLeastType : (Tryd.prog.globals[0]?).map (·.type) = some 24 := by kernel_rfl
theorem gGreatestType : (Tryd.prog.globals[1]?).map (·.type) = some 24 := by kernel_rfl
theorem cells_i8 : Tryd.prog.cellsOf 22 = 1 := by kernel_rfl
theorem cells_i64 : Tryd.prog.cellsOf 2 = 1 := by kernel_rfl
theorem cells_end : Tryd.prog.cellsOf 24 = 2 := by kernel_rfl
/-- an end, as it lies -/
theorem lend_of {H : Type} {enc : TypeId × Value → H} {w : World} {base : Nat} {sp : Nat → Bool} {held : Bool} {fuel : Nat} {cs : Array Value} {y : DataW H × List MemPlace} {a b : Int}
    (h : DataW.trod enc Tryd.prog w base sp held fuel 24 cs.toList = some y) (hy : y.1 = .agg [.lit (.int .i8 a), .lit (.int .i64 b)]) :
    cs = #[.int .i8 a, .int .i64 b] := by
  obtain ⟨y0, y1, n, rfl, hl, a0, a1⟩ := trod_struct2 Tryd.underlying24 h
  rw [cells_end] at hl
  obtain ⟨u, v, rfl⟩ : ∃ u v, cs = #[u, v] := by
    obtain ⟨l⟩ := cs
    match l, hl with
    | [u, v], _ => exact ⟨u, v, rfl⟩
  obtain ⟨k, c0, rfl, _⟩ := DataW.trod_int Tryd.underlying22 a0
  obtain ⟨l, c1, rfl, _⟩ := DataW.trod_int Tryd.underlying2 a1
  rw [cells_i8] at c0
  rw [cells_i64] at c1
  simp at c0 c1 hy
  obtain ⟨rfl, rfl⟩ := hy
  rw [c0, c1]
theorem heap_of_var {P : Program} {w : World} {n : String} {g : Nat} {cs : Array Value} (hg : P.globalNamed n = some g) (h : w.var? P n = some cs) : ∃ t fr, w.heap[g]? = some (.cells cs t fr) := by
  unfold World.var? at h
  rw [hg] at h
  simp only [Option.bind_some] at h
  split at h
  · rename_i c t fr e
    cases h
    exact ⟨_, _, e⟩
  · cases h
theorem laid_least {W : World} {r1 : List (String × DataW Unit)} (h : laidMet Tryd.prog (("circa/ends.least", Rows.laid_circa_ends_least) :: r1) W) :
    ∃ t fr, W.heap[0]? = some (.cells #[.int .i8 (-1), .int .i64 0] t fr) := by
  obtain ⟨ps, ⟨g', t', cs, fuel, p, q, hg', ht', hvar, hd, _, _⟩, _⟩ := h
  obtain rfl := Option.some.inj (gLeast.symm.trans hg')
  obtain rfl := Option.some.inj (gLeastType.symm.trans ht')
  obtain rfl := lend_of hd rfl
  exact heap_of_var gLeast hvar
theorem laid_greatest {W : World} {r1 : List (String × DataW Unit)} (h : laidMet Tryd.prog (("circa/ends.greatest", Rows.laid_circa_ends_greatest) :: r1) W) :
    ∃ t fr, W.heap[1]? = some (.cells #[.int .i8 1, .int .i64 0] t fr) := by
  obtain ⟨ps, ⟨g', t', cs, fuel, p, q, hg', ht', hvar, hd, _, _⟩, _⟩ := h
  obtain rfl := Option.some.inj (gGreatest.symm.trans hg')
  obtain rfl := Option.some.inj (gGreatestType.symm.trans ht')
  obtain rfl := lend_of hd rfl
  exact heap_of_var gGreatest hvar
theorem laid_en {W : World} {r1 r2 r3 r4 : List (String × DataW Unit)} (h1 : laidMet Tryd.prog (("circa/ends.greatest", Rows.laid_circa_ends_greatest) :: r1) W) (h2 : laidMet Tryd.prog (("circa/ends.least", Rows.laid_circa_ends_least) :: r2) W)
    (h3 : laidMet Tryd.prog (("strconv.ErrRange", Rows.laid_strconv_ErrRange) :: r3) W) (h4 : laidMet Tryd.prog (("internal/strconv.uint64pow10", Rows.laid_internal_strconv_uint64pow10) :: r4) W) : LaidEn W := by
  obtain ⟨_, _, a⟩ := laid_greatest h1
  obtain ⟨_, _, b⟩ := laid_least h2
  exact ⟨I1.laid_of h3 h4, by rw [cell_of_row _ _ 0 _ _ _ b]; rfl, by rw [cell_of_row _ _ 1 _ _ _ b]; rfl, by rw [cell_of_row _ _ 0 _ _ _ a]; rfl, by rw [cell_of_row _ _ 1 _ _ _ a]; rfl,
    (Array.getElem?_eq_some_iff.1 b).1, (Array.getElem?_eq_some_iff.1 a).1⟩
end Go.Proofs.YteddfolhpoikcaaDoor
