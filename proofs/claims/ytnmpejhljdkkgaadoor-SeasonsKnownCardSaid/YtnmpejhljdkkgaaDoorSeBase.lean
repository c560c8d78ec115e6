/-
  DERIVED. WHAT THE LISTED TABLES (years', months' and the table of codes) give the walks.
-/
import Derived.Test.YtnmpejhljdkkgaaDoorMoBase
import Derived.Test.YtnmpejhljdkkgaaDoorSeDev
namespace Go.Proofs.YtnmpejhljdkkgaaDoor
open Go.ChangeShapes Go.WideShapes Go.ChangeAt Go.RowKit
set_option maxRecDepth 100000

theorem gParts : Tryd.prog.globalNamed "circa/seasons.parts" = some 0 := by kernel_rfl
theorem gPartsType : (Tryd.prog.globals[0]?).map (·.type) = some 55 := by kernel_rfl
theorem cells_parts : Tryd.prog.cellsOf 55 = 42 := by kernel_rfl
theorem cells_part : Tryd.prog.cellsOf 54 = 2 := by kernel_rfl
/-- a row of the table -/
theorem part_of {H : Type} {enc : TypeId × Value → H} {w : World} {base : Nat} {sp : Nat → Bool} {held : Bool} {fuel : Nat} {u v : Value} {y : DataW H × List MemPlace} {a b : Int}
    (h : DataW.trod enc Tryd.prog w base sp held fuel 54 [u, v] = some y) (hy : y.1 = .agg [.lit (.int .i64 a), .lit (.int .i64 b)]) :
    u = .int .i64 a ∧ v = .int .i64 b := by
  obtain ⟨y0, y1, n, rfl, _, a0, a1⟩ := trod_struct2 Tryd.underlying54 h
  obtain ⟨k, c0, rfl, _⟩ := DataW.trod_int Tryd.underlying3 a0
  obtain ⟨l, c1, rfl, _⟩ := DataW.trod_int Tryd.underlying3 a1
  rw [cells_int] at c0 c1
  simp at c0 c1 hy
  obtain ⟨rfl, rfl⟩ := hy
  exact ⟨c0, c1⟩
theorem laid_se {W : World} {r1 : List (String × DataW Unit)} (h : laidMet Tryd.prog (("circa/seasons.parts", Rows.laid_circa_seasons_parts) :: r1) W) (hm : LaidMo W) : LaidSe W := by
  obtain ⟨ps, ⟨g', t', cs, fuel, p, q, hg', ht', hvar, hd, _, _⟩, _⟩ := h
  obtain rfl := Option.some.inj (gParts.symm.trans hg')
  obtain rfl := Option.some.inj (gPartsType.symm.trans ht')
  obtain ⟨xs, m, _, hx, hl, hlen, hel⟩ := DataW.trod_array Tryd.underlying55 hd
  obtain ⟨x0, x1, x2, x3, x4, x5, x6, x7, x8, x9, x10, x11, x12, x13, x14, x15, x16, x17, x18, x19, x20, rfl⟩ : ∃ x0 x1 x2 x3 x4 x5 x6 x7 x8 x9 x10 x11 x12 x13 x14 x15 x16 x17 x18 x19 x20, xs = [x0, x1, x2, x3, x4, x5, x6, x7, x8, x9, x10, x11, x12, x13, x14, x15, x16, x17, x18, x19, x20] := by
    match xs, hlen with
    | [x0, x1, x2, x3, x4, x5, x6, x7, x8, x9, x10, x11, x12, x13, x14, x15, x16, x17, x18, x19, x20], _ => exact ⟨x0, x1, x2, x3, x4, x5, x6, x7, x8, x9, x10, x11, x12, x13, x14, x15, x16, x17, x18, x19, x20, rfl⟩
  rw [cells_parts] at hl
  obtain ⟨v0, v1, v2, v3, v4, v5, v6, v7, v8, v9, v10, v11, v12, v13, v14, v15, v16, v17, v18, v19, v20, v21, v22, v23, v24, v25, v26, v27, v28, v29, v30, v31, v32, v33, v34, v35, v36, v37, v38, v39, v40, v41, rfl⟩ : ∃ v0 v1 v2 v3 v4 v5 v6 v7 v8 v9 v10 v11 v12 v13 v14 v15 v16 v17 v18 v19 v20 v21 v22 v23 v24 v25 v26 v27 v28 v29 v30 v31 v32 v33 v34 v35 v36 v37 v38 v39 v40 v41, cs = List.toArray (v0 :: v1 :: v2 :: v3 :: v4 :: v5 :: v6 :: v7 :: v8 :: v9 :: v10 :: v11 :: v12 :: v13 :: v14 :: v15 :: v16 :: v17 :: v18 :: v19 :: v20 :: v21 :: v22 :: v23 :: v24 :: v25 :: v26 :: v27 :: v28 :: v29 :: v30 :: v31 :: v32 :: v33 :: v34 :: v35 :: v36 :: v37 :: v38 :: v39 :: v40 :: v41 :: []) := by
    obtain ⟨l⟩ := cs
    match l, hl with
    | v0 :: v1 :: v2 :: v3 :: v4 :: v5 :: v6 :: v7 :: v8 :: v9 :: v10 :: v11 :: v12 :: v13 :: v14 :: v15 :: v16 :: v17 :: v18 :: v19 :: v20 :: v21 :: v22 :: v23 :: v24 :: v25 :: v26 :: v27 :: v28 :: v29 :: v30 :: v31 :: v32 :: v33 :: v34 :: v35 :: v36 :: v37 :: v38 :: v39 :: v40 :: v41 :: [], _ => exact ⟨v0, v1, v2, v3, v4, v5, v6, v7, v8, v9, v10, v11, v12, v13, v14, v15, v16, v17, v18, v19, v20, v21, v22, v23, v24, v25, v26, v27, v28, v29, v30, v31, v32, v33, v34, v35, v36, v37, v38, v39, v40, v41, rfl⟩
  have hx1 := congrArg Prod.fst hx
  unfold Rows.laid_circa_seasons_parts at hx1
  simp at hx1
  obtain ⟨f0, f1, f2, f3, f4, f5, f6, f7, f8, f9, f10, f11, f12, f13, f14, f15, f16, f17, f18, f19, f20⟩ := hx1
  have e0 := hel 0 (by decide)
  rw [cells_part] at e0
  obtain ⟨rfl, rfl⟩ := part_of (u := v0) (v := v1) (y := x0) e0 f0.symm
  have e1 := hel 1 (by decide)
  rw [cells_part] at e1
  obtain ⟨rfl, rfl⟩ := part_of (u := v2) (v := v3) (y := x1) e1 f1.symm
  have e2 := hel 2 (by decide)
  rw [cells_part] at e2
  obtain ⟨rfl, rfl⟩ := part_of (u := v4) (v := v5) (y := x2) e2 f2.symm
  have e3 := hel 3 (by decide)
  rw [cells_part] at e3
  obtain ⟨rfl, rfl⟩ := part_of (u := v6) (v := v7) (y := x3) e3 f3.symm
  have e4 := hel 4 (by decide)
  rw [cells_part] at e4
  obtain ⟨rfl, rfl⟩ := part_of (u := v8) (v := v9) (y := x4) e4 f4.symm
  have e5 := hel 5 (by decide)
  rw [cells_part] at e5
  obtain ⟨rfl, rfl⟩ := part_of (u := v10) (v := v11) (y := x5) e5 f5.symm
  have e6 := hel 6 (by decide)
  rw [cells_part] at e6
  obtain ⟨rfl, rfl⟩ := part_of (u := v12) (v := v13) (y := x6) e6 f6.symm
  have e7 := hel 7 (by decide)
  rw [cells_part] at e7
  obtain ⟨rfl, rfl⟩ := part_of (u := v14) (v := v15) (y := x7) e7 f7.symm
  have e8 := hel 8 (by decide)
  rw [cells_part] at e8
  obtain ⟨rfl, rfl⟩ := part_of (u := v16) (v := v17) (y := x8) e8 f8.symm
  have e9 := hel 9 (by decide)
  rw [cells_part] at e9
  obtain ⟨rfl, rfl⟩ := part_of (u := v18) (v := v19) (y := x9) e9 f9.symm
  have e10 := hel 10 (by decide)
  rw [cells_part] at e10
  obtain ⟨rfl, rfl⟩ := part_of (u := v20) (v := v21) (y := x10) e10 f10.symm
  have e11 := hel 11 (by decide)
  rw [cells_part] at e11
  obtain ⟨rfl, rfl⟩ := part_of (u := v22) (v := v23) (y := x11) e11 f11.symm
  have e12 := hel 12 (by decide)
  rw [cells_part] at e12
  obtain ⟨rfl, rfl⟩ := part_of (u := v24) (v := v25) (y := x12) e12 f12.symm
  have e13 := hel 13 (by decide)
  rw [cells_part] at e13
  obtain ⟨rfl, rfl⟩ := part_of (u := v26) (v := v27) (y := x13) e13 f13.symm
  have e14 := hel 14 (by decide)
  rw [cells_part] at e14
  obtain ⟨rfl, rfl⟩ := part_of (u := v28) (v := v29) (y := x14) e14 f14.symm
  have e15 := hel 15 (by decide)
  rw [cells_part] at e15
  obtain ⟨rfl, rfl⟩ := part_of (u := v30) (v := v31) (y := x15) e15 f15.symm
  have e16 := hel 16 (by decide)
  rw [cells_part] at e16
  obtain ⟨rfl, rfl⟩ := part_of (u := v32) (v := v33) (y := x16) e16 f16.symm
  have e17 := hel 17 (by decide)
  rw [cells_part] at e17
  obtain ⟨rfl, rfl⟩ := part_of (u := v34) (v := v35) (y := x17) e17 f17.symm
  have e18 := hel 18 (by decide)
  rw [cells_part] at e18
  obtain ⟨rfl, rfl⟩ := part_of (u := v36) (v := v37) (y := x18) e18 f18.symm
  have e19 := hel 19 (by decide)
  rw [cells_part] at e19
  obtain ⟨rfl, rfl⟩ := part_of (u := v38) (v := v39) (y := x19) e19 f19.symm
  have e20 := hel 20 (by decide)
  rw [cells_part] at e20
  obtain ⟨rfl, rfl⟩ := part_of (u := v40) (v := v41) (y := x20) e20 f20.symm
  have hc := fun i => World.var?_cell gParts hvar i
  refine ⟨hm, World.block_lt_of_cell? _ _ (hc 0), fun k hk => ?_, fun k hk => ?_⟩
  · rw [hc (k * 2)]
    clear hc hel hvar hd
    match k, hk with
    | 0, _ => rfl
    | 1, _ => rfl
    | 2, _ => rfl
    | 3, _ => rfl
    | 4, _ => rfl
    | 5, _ => rfl
    | 6, _ => rfl
    | 7, _ => rfl
    | 8, _ => rfl
    | 9, _ => rfl
    | 10, _ => rfl
    | 11, _ => rfl
    | 12, _ => rfl
    | 13, _ => rfl
    | 14, _ => rfl
    | 15, _ => rfl
    | 16, _ => rfl
    | 17, _ => rfl
    | 18, _ => rfl
    | 19, _ => rfl
    | 20, _ => rfl
    | k + 21, hk => exact absurd hk (by omega)
  · rw [hc (k * 2 + 1)]
    clear hc hel hvar hd
    match k, hk with
    | 0, _ => rfl
    | 1, _ => rfl
    | 2, _ => rfl
    | 3, _ => rfl
    | 4, _ => rfl
    | 5, _ => rfl
    | 6, _ => rfl
    | 7, _ => rfl
    | 8, _ => rfl
    | 9, _ => rfl
    | 10, _ => rfl
    | 11, _ => rfl
    | 12, _ => rfl
    | 13, _ => rfl
    | 14, _ => rfl
    | 15, _ => rfl
    | 16, _ => rfl
    | 17, _ => rfl
    | 18, _ => rfl
    | 19, _ => rfl
    | 20, _ => rfl
    | k + 21, hk => exact absurd hk (by omega)
theorem laid_of7 {W : World} {r1 r2 r3 : List (String × DataW Unit)} (h : laidMet Tryd.prog (("circa/months.common", Rows.laid_circa_months_common) :: r1) W)
    (k : laidMet Tryd.prog (("circa/seasons.parts", Rows.laid_circa_seasons_parts) :: r2) W)
    (g : laidMet Tryd.prog (("circa/years.rules", Rows.laid_circa_years_rules) :: r3) W) : LaidSe W := laid_se k (laid_of h g)
end Go.Proofs.YtnmpejhljdkkgaaDoor
