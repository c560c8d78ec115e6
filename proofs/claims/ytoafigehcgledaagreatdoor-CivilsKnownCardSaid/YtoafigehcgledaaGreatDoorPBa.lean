/-
  DERIVED. WHAT THE LISTED TABLE OF YEARS gives the walks.
  DERIVED. WHAT THE LISTED TABLES (years' and months') give the walks.
  DERIVED. THE FRAME's SHARED FACTS: what the listed package-level variables give the walks.
  DERIVED. THE FRAME's SHARED FACTS for layer 6: what the listed package-level variables give the walks.
  DERIVED. ARGUMENTS OF TYPE api.Civil, BY VALUE, OPENED: their numbers.
-/
import Derived.Test.YtoafigehcgledaaGreatDoorTie
import Derived.Test.YtoafigehcgledaaGreatDoorCards
import Derived.Test.YtoafigehcgledaaGreatDoorPYr
import Derived.ProofKit
import Derived.LaidMore
import Derived.OpenShut
import Derived.Lay
import Derived.Lib.LaidTab
import Derived.Lib.SmallJoins
import Derived.Stop.LaidErr
import Derived.SevenTiedAt
import Derived.Stop.Joined
import Derived.Test.YtoafigehcgledaaGreatDoorPMo
import Derived.Test.YtoafigehcgledaaGreatDoorPI1Txt
import Derived.Lib.AtoiErrMem
import Derived.Test.YtoafigehcgledaaGreatDoorPCvText
import Derived.Test.YtoafigehcgledaaGreatDoorRows
import Derived.Test.YtoafigehcgledaaGreatDoorPPa
import Derived.Carry
import Derived.Deep.Strs
namespace Go.Proofs.YtoafigehcgledaaGreatDoor
open Go.ChangeShapes Go.WideShapes Go.ChangeAt Go.RowKit
set_option maxRecDepth 100000

theorem own : ownKnob Tryz.prog.godebug = none := by kernel_rfl
theorem cells_i64 : Tryz.prog.cellsOf 2 = 1 := by kernel_rfl
theorem gRules : Tryz.prog.globalNamed "circa/years.rules" = some 1 := by kernel_rfl
theorem gRulesType : (Tryz.prog.globals[1]?).map (·.type) = some 141 := by kernel_rfl
theorem cells_rules : Tryz.prog.cellsOf 141 = 6 := by kernel_rfl
theorem cells_rule : Tryz.prog.cellsOf 140 = 2 := by kernel_rfl
/-- a row of the table -/
theorem rule_of {H : Type} {enc : TypeId × Value → H} {w : World} {base : Nat} {sp : Nat → Bool} {held : Bool} {fuel : Nat} {u v : Value} {y : DataW H × List MemPlace} {a b : Int}
    (h : DataW.trod enc Tryz.prog w base sp held fuel 140 [u, v] = some y) (hy : y.1 = .agg [.lit (.int .i64 a), .lit (.int .i64 b)]) :
    u = .int .i64 a ∧ v = .int .i64 b := by
  obtain ⟨y0, y1, n, rfl, _, a0, a1⟩ := trod_struct2 Tryz.underlying140 h
  obtain ⟨k, c0, rfl, _⟩ := DataW.trod_int Tryz.underlying2 a0
  obtain ⟨l, c1, rfl, _⟩ := DataW.trod_int Tryz.underlying2 a1
  rw [cells_i64] at c0 c1
  simp at c0 c1 hy
  obtain ⟨rfl, rfl⟩ := hy
  exact ⟨c0, c1⟩
/-- the variable's datum, as the laid list of a row has it, gives what the walks ask -/
theorem laid_yr {W : World} {r1 : List (String × DataW Unit)} (h : laidMet Tryz.prog (("circa/years.rules", Rows.laid_circa_years_rules) :: r1) W) : Laid W := by
  obtain ⟨ps, ⟨g', t', cs, fuel, p, q, hg', ht', hvar, hd, _, _⟩, _⟩ := h
  obtain rfl := Option.some.inj (gRules.symm.trans hg')
  obtain rfl := Option.some.inj (gRulesType.symm.trans ht')
  obtain ⟨xs, m, _, hx, hl, hlen, hel⟩ := DataW.trod_array Tryz.underlying141 hd
  obtain ⟨x0, x1, x2, rfl⟩ : ∃ x0 x1 x2, xs = [x0, x1, x2] := by
    match xs, hlen with
    | [x0, x1, x2], _ => exact ⟨x0, x1, x2, rfl⟩
  rw [cells_rules] at hl
  obtain ⟨v0, v1, v2, v3, v4, v5, rfl⟩ : ∃ v0 v1 v2 v3 v4 v5, cs = #[v0, v1, v2, v3, v4, v5] := by
    obtain ⟨l⟩ := cs
    match l, hl with
    | [v0, v1, v2, v3, v4, v5], _ => exact ⟨v0, v1, v2, v3, v4, v5, rfl⟩
  have e0 := hel 0 (by decide)
  have e1 := hel 1 (by decide)
  have e2 := hel 2 (by decide)
  rw [cells_rule] at e0 e1 e2
  have hx1 := congrArg Prod.fst hx
  unfold Rows.laid_circa_years_rules at hx1
  simp at hx1
  obtain ⟨f0, f1, f2⟩ := hx1
  obtain ⟨rfl, rfl⟩ := rule_of (u := v0) (v := v1) (y := x0) e0 f0.symm
  obtain ⟨rfl, rfl⟩ := rule_of (u := v2) (v := v3) (y := x1) e1 f1.symm
  obtain ⟨rfl, rfl⟩ := rule_of (u := v4) (v := v5) (y := x2) e2 f2.symm
  have hc := fun i => World.var?_cell gRules hvar i
  exact ⟨World.block_lt_of_cell? _ _ (hc 0), hc 0, hc 1, hc 2, hc 3, hc 4, hc 5⟩
end Go.Proofs.YtoafigehcgledaaGreatDoor
namespace Go.Proofs.YtoafigehcgledaaGreatDoor
open Go.ChangeShapes Go.WideShapes Go.ChangeAt Go.RowKit
set_option maxRecDepth 100000

theorem gCommon : Tryz.prog.globalNamed "circa/months.common" = some 0 := by kernel_rfl
theorem gCommonType : (Tryz.prog.globals[0]?).map (·.type) = some 98 := by kernel_rfl
theorem cells_common : Tryz.prog.cellsOf 98 = 12 := by kernel_rfl
theorem cells_int : Tryz.prog.cellsOf 3 = 1 := by kernel_rfl
theorem int_of {H : Type} {enc : TypeId × Value → H} {w : World} {base : Nat} {sp : Nat → Bool} {held : Bool} {fuel : Nat} {u : Value} {y : DataW H × List MemPlace} {a : Int}
    (h : DataW.trod enc Tryz.prog w base sp held fuel 3 [u] = some y) (hy : y.1 = .lit (.int .i64 a)) : u = .int .i64 a := by
  obtain ⟨k, c0, rfl, _⟩ := DataW.trod_int Tryz.underlying3 h
  simp at c0 hy
  obtain rfl := hy
  exact c0
theorem heap_of_var {P : Program} {w : World} {n : String} {g : Nat} {cs : Array Value} (hg : P.globalNamed n = some g) (h : w.var? P n = some cs) : ∃ t fr, w.heap[g]? = some (.cells cs t fr) := by
  unfold World.var? at h
  rw [hg] at h
  simp only [Option.bind_some] at h
  split at h
  · rename_i c t fr e
    cases h
    exact ⟨_, _, e⟩
  · cases h
theorem laid_mo {W : World} {r1 : List (String × DataW Unit)} (h : laidMet Tryz.prog (("circa/months.common", Rows.laid_circa_months_common) :: r1) W) :
    ∃ t fr, W.heap[0]? = some (.cells (cln 12 cmF) t fr) := by
  obtain ⟨ps, ⟨g', t', cs, fuel, p, q, hg', ht', hvar, hd, _, _⟩, _⟩ := h
  obtain rfl := Option.some.inj (gCommon.symm.trans hg')
  obtain rfl := Option.some.inj (gCommonType.symm.trans ht')
  obtain ⟨xs, m, _, hx, hl, hlen, hel⟩ := DataW.trod_array Tryz.underlying98 hd
  obtain ⟨x0, x1, x2, x3, x4, x5, x6, x7, x8, x9, x10, x11, rfl⟩ : ∃ x0 x1 x2 x3 x4 x5 x6 x7 x8 x9 x10 x11, xs = [x0, x1, x2, x3, x4, x5, x6, x7, x8, x9, x10, x11] := by
    match xs, hlen with
    | [x0, x1, x2, x3, x4, x5, x6, x7, x8, x9, x10, x11], _ => exact ⟨x0, x1, x2, x3, x4, x5, x6, x7, x8, x9, x10, x11, rfl⟩
  rw [cells_common] at hl
  obtain ⟨v0, v1, v2, v3, v4, v5, v6, v7, v8, v9, v10, v11, rfl⟩ : ∃ v0 v1 v2 v3 v4 v5 v6 v7 v8 v9 v10 v11, cs = #[v0, v1, v2, v3, v4, v5, v6, v7, v8, v9, v10, v11] := by
    obtain ⟨l⟩ := cs
    match l, hl with
    | [v0, v1, v2, v3, v4, v5, v6, v7, v8, v9, v10, v11], _ => exact ⟨v0, v1, v2, v3, v4, v5, v6, v7, v8, v9, v10, v11, rfl⟩
  have hx1 := congrArg Prod.fst hx
  unfold Rows.laid_circa_months_common at hx1
  simp at hx1
  obtain ⟨f0, f1, f2, f3, f4, f5, f6, f7, f8, f9, f10, f11⟩ := hx1
  have e0 := hel 0 (by decide)
  rw [cells_int] at e0
  obtain rfl := int_of (u := v0) (y := x0) e0 f0.symm
  have e1 := hel 1 (by decide)
  rw [cells_int] at e1
  obtain rfl := int_of (u := v1) (y := x1) e1 f1.symm
  have e2 := hel 2 (by decide)
  rw [cells_int] at e2
  obtain rfl := int_of (u := v2) (y := x2) e2 f2.symm
  have e3 := hel 3 (by decide)
  rw [cells_int] at e3
  obtain rfl := int_of (u := v3) (y := x3) e3 f3.symm
  have e4 := hel 4 (by decide)
  rw [cells_int] at e4
  obtain rfl := int_of (u := v4) (y := x4) e4 f4.symm
  have e5 := hel 5 (by decide)
  rw [cells_int] at e5
  obtain rfl := int_of (u := v5) (y := x5) e5 f5.symm
  have e6 := hel 6 (by decide)
  rw [cells_int] at e6
  obtain rfl := int_of (u := v6) (y := x6) e6 f6.symm
  have e7 := hel 7 (by decide)
  rw [cells_int] at e7
  obtain rfl := int_of (u := v7) (y := x7) e7 f7.symm
  have e8 := hel 8 (by decide)
  rw [cells_int] at e8
  obtain rfl := int_of (u := v8) (y := x8) e8 f8.symm
  have e9 := hel 9 (by decide)
  rw [cells_int] at e9
  obtain rfl := int_of (u := v9) (y := x9) e9 f9.symm
  have e10 := hel 10 (by decide)
  rw [cells_int] at e10
  obtain rfl := int_of (u := v10) (y := x10) e10 f10.symm
  have e11 := hel 11 (by decide)
  rw [cells_int] at e11
  obtain rfl := int_of (u := v11) (y := x11) e11 f11.symm
  exact heap_of_var gCommon hvar
theorem laid_of {W : World} {r1 r2 : List (String × DataW Unit)} (h : laidMet Tryz.prog (("circa/months.common", Rows.laid_circa_months_common) :: r1) W)
    (g : laidMet Tryz.prog (("circa/years.rules", Rows.laid_circa_years_rules) :: r2) W) : LaidMo W := ⟨laid_yr g, laid_mo h⟩
end Go.Proofs.YtoafigehcgledaaGreatDoor
namespace Go.Proofs.YtoafigehcgledaaGreatDoor.I1
open Go.ChangeShapes Go.WideShapes Go.ChangeAt Go.RowKit
set_option maxRecDepth 100000

theorem gRangeType : (Tryz.prog.globals[7]?).map (·.type) = some 110 := by kernel_rfl
theorem gPowType : (Tryz.prog.globals[3]?).map (·.type) = some 172 := by kernel_rfl
theorem star : "*" ++ "errors.errorString" = "*errors.errorString" := by decide
theorem rowErr (u : TypeId) (h : Tryz.prog.typeName? 3 u = some "*errors.errorString") : u = 188 :=
  typeName_ptr_named (nm := "errors.errorString") (by rw [star]; kernel_rfl) (by kernel_rfl) (by decide) u (by rw [star]; exact h)
/-- the variables' data, as the laid list of a row has them, give what the walks ask -/
theorem laid_of {W : World} {r1 r2 : List (String × DataW Unit)}
    (h1 : laidMet Tryz.prog (("strconv.ErrRange", Rows.laid_strconv_ErrRange) :: r1) W)
    (h2 : laidMet Tryz.prog (("internal/strconv.uint64pow10", Rows.laid_internal_strconv_uint64pow10) :: r2) W) : Laid W := by
  obtain ⟨a, s, hv, _⟩ := laid_sentinel h1 gRange gRangeType Tryz.underlying110 rowErr Tryz.underlying188 Tryz.underlying190 rfl rfl Tryz.underlying9 (by kernel_rfl) (by kernel_rfl)
  have h3 : laidMet Tryz.prog (("internal/strconv.uint64pow10", Lib.tabData .u64 Lib.pow10Tab) :: r2) W := h2
  have hp := Lib.tabIs_of_head gPow gPowType Tryz.underlying172 Tryz.underlying145 (by kernel_rfl) (by kernel_rfl) h3
  refine ⟨⟨_, _, hv⟩, hp, ?_, ?_⟩
  · have := World.var?_cell gRange hv 0
    exact Lib.lt_of_cell (a := ⟨7, 0, none⟩) (by simpa using this)
  · have := Lib.TabIs.cell hp gPow 0 (by decide)
    exact Lib.lt_of_cell (a := ⟨3, 0, none⟩) this
end Go.Proofs.YtoafigehcgledaaGreatDoor.I1
namespace Go.Proofs.YtoafigehcgledaaGreatDoor
open Go.ChangeShapes Go.WideShapes Go.ChangeAt Go.RowKit
theorem laid_cv {W : World} {r1 r2 r3 r4 : List (String × DataW Unit)} (h1 : laidMet Tryz.prog (("circa/months.common", Rows.laid_circa_months_common) :: r1) W) (h2 : laidMet Tryz.prog (("circa/years.rules", Rows.laid_circa_years_rules) :: r2) W)
    (h3 : laidMet Tryz.prog (("strconv.ErrRange", Rows.laid_strconv_ErrRange) :: r3) W) (h4 : laidMet Tryz.prog (("internal/strconv.uint64pow10", Rows.laid_internal_strconv_uint64pow10) :: r4) W) : LaidCv W := ⟨laid_of h1 h2, I1.laid_of h3 h4⟩
end Go.Proofs.YtoafigehcgledaaGreatDoor
namespace Go.Proofs.YtoafigehcgledaaGreatDoor
open Go.ChangeShapes Go.WideShapes Go.ChangeAt Go.RowKit
set_option maxRecDepth 100000
theorem laidOutCv : laidOutB Tryz.prog = true := by kernel_rfl
theorem cells_cv64 : Tryz.prog.cellsOf 2 = 1 := by kernel_rfl
theorem cells_cvint : Tryz.prog.cellsOf 3 = 1 := by kernel_rfl
theorem cells_Civil : Tryz.prog.cellsOf 23 = 3 := by kernel_rfl
theorem i64_wfCv {n : Int} (h : (Lit.int .i64 n).wf = true) : -9223372036854775808 ≤ n ∧ n ≤ 9223372036854775807 := by
  simpa [Lit.wf, IntKind.min, IntKind.max, IntKind.signed, IntKind.bits] using h
theorem open_Civil {H : Type} {enc : TypeId × Value → H} {W : World} {base : Nat} {v : Value} {d : DataW H} {p : List MemPlace}
    (hv : Value.okWide Tryz.prog W .any base 23 v) (h : DataW.Trod enc Tryz.prog W 0 (fun _ => true) true 23 v d p) :
    ∃ y m n, v = .agg #[.int .i64 y, .int .i64 m, .int .i64 n] ∧ (-9223372036854775808 ≤ y ∧ y ≤ 9223372036854775807) ∧ (-9223372036854775808 ≤ m ∧ m ≤ 9223372036854775807) ∧ (-9223372036854775808 ≤ n ∧ n ≤ 9223372036854775807) := by
  obtain ⟨cs, rfl, hsz⟩ := okWide_struct Tryz.underlying23 hv
  rw [cells_Civil] at hsz
  obtain ⟨c0, c1, c2, rfl⟩ : ∃ c0 c1 c2, cs = #[c0, c1, c2] := by
    obtain ⟨l⟩ := cs
    match l, hsz with
    | [c0, c1, c2], _ => exact ⟨c0, c1, c2, rfl⟩
  obtain ⟨fuel, hf⟩ := h
  obtain ⟨y0, y1, y2, n, _, _, h0, h1, h2⟩ := Go.Deep.trod_struct3 Tryz.underlying23 hf
  simp only [cells_cv64, cells_cvint] at h0 h1 h2
  obtain ⟨a, e0, _, w0⟩ := DataW.trod_int Tryz.underlying2 h0
  obtain ⟨b, e1, _, w1⟩ := DataW.trod_int Tryz.underlying3 h1
  obtain ⟨c, e2, _, w2⟩ := DataW.trod_int Tryz.underlying3 h2
  simp [Value.cells] at e0 e1 e2
  subst e0 e1 e2
  exact ⟨a, b, c, rfl, i64_wfCv w0, i64_wfCv w1, i64_wfCv w2⟩
end Go.Proofs.YtoafigehcgledaaGreatDoor
