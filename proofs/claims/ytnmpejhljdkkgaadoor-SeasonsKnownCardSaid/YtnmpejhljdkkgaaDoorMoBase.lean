/-
  DERIVED. WHAT THE LISTED TABLES (years' and months') give the walks.
-/
import Derived.Test.YtnmpejhljdkkgaaDoorYrTab
import Derived.Test.YtnmpejhljdkkgaaDoorMoDev
namespace Go.Proofs.YtnmpejhljdkkgaaDoor
open Go.ChangeShapes Go.WideShapes Go.ChangeAt Go.RowKit
set_option maxRecDepth 100000

theorem gCommon : Tryd.prog.globalNamed "circa/months.common" = some 1 := by kernel_rfl
theorem gCommonType : (Tryd.prog.globals[1]?).map (·.type) = some 74 := by kernel_rfl
theorem cells_common : Tryd.prog.cellsOf 74 = 12 := by kernel_rfl
theorem cells_int : Tryd.prog.cellsOf 3 = 1 := by kernel_rfl
theorem int_of {H : Type} {enc : TypeId × Value → H} {w : World} {base : Nat} {sp : Nat → Bool} {held : Bool} {fuel : Nat} {u : Value} {y : DataW H × List MemPlace} {a : Int}
    (h : DataW.trod enc Tryd.prog w base sp held fuel 3 [u] = some y) (hy : y.1 = .lit (.int .i64 a)) : u = .int .i64 a := by
  obtain ⟨k, c0, rfl, _⟩ := DataW.trod_int Tryd.underlying3 h
  simp at c0 hy
  obtain rfl := hy
  exact c0
theorem heap_of_var {P : Program} {w : World} {n : String} {g : Nat} {cs : Array Value} (hg : P.globalNamed n = some g) (h : w.var? P n = some cs) : ∃ t fr, w.heap[g]? = some (.cells cs t fr) := by
  unfold World.var? at h
  rw [hg] at h
  simp only [Option.bind_some] at h
  split at h
  · rename_i c t fr e
    cases h
    exact ⟨_, _, e⟩
  · cases h
theorem laid_mo {W : World} {r1 : List (String × DataW Unit)} (h : laidMet Tryd.prog (("circa/months.common", Rows.laid_circa_months_common) :: r1) W) :
    ∃ t fr, W.heap[1]? = some (.cells (cln 12 cmF) t fr) := by
  obtain ⟨ps, ⟨g', t', cs, fuel, p, q, hg', ht', hvar, hd, _, _⟩, _⟩ := h
  obtain rfl := Option.some.inj (gCommon.symm.trans hg')
  obtain rfl := Option.some.inj (gCommonType.symm.trans ht')
  obtain ⟨xs, m, _, hx, hl, hlen, hel⟩ := DataW.trod_array Tryd.underlying74 hd
  obtain ⟨x0, x1, x2, x3, x4, x5, x6, x7, x8, x9, x10, x11, rfl⟩ : ∃ x0 x1 x2 x3 x4 x5 x6 x7 x8 x9 x10 x11, xs = [x0, x1, x2, x3, x4, x5, x6, x7, x8, x9, x10, x11] := by
    match xs, hlen with
    | [x0, x1, x2, x3, x4, x5, x6, x7, x8, x9, x10, x11], _ => exact ⟨x0, x1, x2, x3, x4, x5, x6, x7, x8, x9, x10, x11, rfl⟩
  rw [cells_common] at hl
  obtain ⟨v0, v1, v2, v3, v4, v5, v6, v7, v8, v9, v10, v11, rfl⟩ : ∃ v0 v1 v2 v3 v4 v5 v6 v7 v8 v9 v10 v11, cs = #[v0, v1, v2, v3, v4, v5, v6, v7, v8, v9, v10, v11] := by
    obtain ⟨l⟩ := cs
    match l, hl with
    | [v0, v1, v2, v3, v4, v5, v6, v7, v8, v9, v10, v11], _ => exact ⟨v0, v1, v2, v3, v4, v5, v6, v7, v8, v9, v10, v11, rfl⟩
  have hx1 := congrArg Prod.fst hx
  unfold Rows.laid_circa_months_common at hx1
  simp at hx1
  obtain ⟨f0, f1, f2, f3, f4, f5, f6, f7, f8, f9, f10, f11⟩ := hx1
  have e0 := hel 0 (by decide)
  rw [cells_int] at e0
  obtain rfl := int_of (u := v0) (y := x0) e0 f0.symm
  have e1 := hel 1 (by decide)
  rw [cells_int] at e1
  obtain rfl := int_of (u := v1) (y := x1) e1 f1.symm
  have e2 := hel 2 (by decide)
  rw [cells_int] at e2
  obtain rfl := int_of (u := v2) (y := x2) e2 f2.symm
  have e3 := hel 3 (by decide)
  rw [cells_int] at e3
  obtain rfl := int_of (u := v3) (y := x3) e3 f3.symm
  have e4 := hel 4 (by decide)
  rw [cells_int] at e4
  obtain rfl := int_of (u := v4) (y := x4) e4 f4.symm
  have e5 := hel 5 (by decide)
  rw [cells_int] at e5
  obtain rfl := int_of (u := v5) (y := x5) e5 f5.symm
  have e6 := hel 6 (by decide)
  rw [cells_int] at e6
  obtain rfl := int_of (u := v6) (y := x6) e6 f6.symm
  have e7 := hel 7 (by decide)
  rw [cells_int] at e7
  obtain rfl := int_of (u := v7) (y := x7) e7 f7.symm
  have e8 := hel 8 (by decide)
  rw [cells_int] at e8
  obtain rfl := int_of (u := v8) (y := x8) e8 f8.symm
  have e9 := hel 9 (by decide)
  rw [cells_int] at e9
  obtain rfl := int_of (u := v9) (y := x9) e9 f9.symm
  have e10 := hel 10 (by decide)
  rw [cells_int] at e10
  obtain rfl := int_of (u := v10) (y := x10) e10 f10.symm
  have e11 := hel 11 (by decide)
  rw [cells_int] at e11
  obtain rfl := int_of (u := v11) (y := x11) e11 f11.symm
  exact heap_of_var gCommon hvar
theorem laid_of {W : World} {r1 r2 : List (String × DataW Unit)} (h : laidMet Tryd.prog (("circa/months.common", Rows.laid_circa_months_common) :: r1) W)
    (g : laidMet Tryd.prog (("circa/years.rules", Rows.laid_circa_years_rules) :: r2) W) : LaidMo W := ⟨laid_yr g, laid_mo h⟩
end Go.Proofs.YtnmpejhljdkkgaaDoor
