/-
  DERIVED. WHAT THE LISTED TABLE OF YEARS gives the walks.
-/
import Derived.Test.YtnmpejhljdkkgaaDoorTie
import Derived.Test.YtnmpejhljdkkgaaDoorCards
import Derived.Test.YtnmpejhljdkkgaaDoorYrDev
import Derived.ProofKit
import Derived.LaidMore
import Derived.OpenShut
import Derived.Lay
import Derived.Lib.LaidTab
import Derived.Lib.SmallJoins
import Derived.Stop.LaidErr
import Derived.SevenTiedAt
import Derived.Stop.Joined
namespace Go.Proofs.YtnmpejhljdkkgaaDoor
open Go.ChangeShapes Go.WideShapes Go.ChangeAt Go.RowKit
set_option maxRecDepth 100000

theorem own : ownKnob Tryd.prog.godebug = none := by kernel_rfl
theorem cells_i64 : Tryd.prog.cellsOf 2 = 1 := by kernel_rfl
theorem gRules : Tryd.prog.globalNamed "circa/years.rules" = some 2 := by kernel_rfl
theorem gRulesType : (Tryd.prog.globals[2]?).map (·.type) = some 84 := by kernel_rfl
theorem cells_rules : Tryd.prog.cellsOf 84 = 6 := by kernel_rfl
theorem cells_rule : Tryd.prog.cellsOf 83 = 2 := by kernel_rfl
/-- a row of the table -/
theorem rule_of {H : Type} {enc : TypeId × Value → H} {w : World} {base : Nat} {sp : Nat → Bool} {held : Bool} {fuel : Nat} {u v : Value} {y : DataW H × List MemPlace} {a b : Int}
    (h : DataW.trod enc Tryd.prog w base sp held fuel 83 [u, v] = some y) (hy : y.1 = .agg [.lit (.int .i64 a), .lit (.int .i64 b)]) :
    u = .int .i64 a ∧ v = .int .i64 b := by
  obtain ⟨y0, y1, n, rfl, _, a0, a1⟩ := trod_struct2 Tryd.underlying83 h
  obtain ⟨k, c0, rfl, _⟩ := DataW.trod_int Tryd.underlying2 a0
  obtain ⟨l, c1, rfl, _⟩ := DataW.trod_int Tryd.underlying2 a1
  rw [cells_i64] at c0 c1
  simp at c0 c1 hy
  obtain ⟨rfl, rfl⟩ := hy
  exact ⟨c0, c1⟩
/-- the variable's datum, as the laid list of a row has it, gives what the walks ask -/
theorem laid_yr {W : World} {r1 : List (String × DataW Unit)} (h : laidMet Tryd.prog (("circa/years.rules", Rows.laid_circa_years_rules) :: r1) W) : Laid W := by
  obtain ⟨ps, ⟨g', t', cs, fuel, p, q, hg', ht', hvar, hd, _, _⟩, _⟩ := h
  obtain rfl := Option.some.inj (gRules.symm.trans hg')
  obtain rfl := Option.some.inj (gRulesType.symm.trans ht')
  obtain ⟨xs, m, _, hx, hl, hlen, hel⟩ := DataW.trod_array Tryd.underlying84 hd
  obtain ⟨x0, x1, x2, rfl⟩ : ∃ x0 x1 x2, xs = [x0, x1, x2] := by
    match xs, hlen with
    | [x0, x1, x2], _ => exact ⟨x0, x1, x2, rfl⟩
  rw [cells_rules] at hl
  obtain ⟨v0, v1, v2, v3, v4, v5, rfl⟩ : ∃ v0 v1 v2 v3 v4 v5, cs = #[v0, v1, v2, v3, v4, v5] := by
    obtain ⟨l⟩ := cs
    match l, hl with
    | [v0, v1, v2, v3, v4, v5], _ => exact ⟨v0, v1, v2, v3, v4, v5, rfl⟩
  have e0 := hel 0 (by decide)
  have e1 := hel 1 (by decide)
  have e2 := hel 2 (by decide)
  rw [cells_rule] at e0 e1 e2
  have hx1 := congrArg Prod.fst hx
  unfold Rows.laid_circa_years_rules at hx1
  simp at hx1
  obtain ⟨f0, f1, f2⟩ := hx1
  obtain ⟨rfl, rfl⟩ := rule_of (u := v0) (v := v1) (y := x0) e0 f0.symm
  obtain ⟨rfl, rfl⟩ := rule_of (u := v2) (v := v3) (y := x1) e1 f1.symm
  obtain ⟨rfl, rfl⟩ := rule_of (u := v4) (v := v5) (y := x2) e2 f2.symm
  have hc := fun i => World.var?_cell gRules hvar i
  exact ⟨World.block_lt_of_cell? _ _ (hc 0), hc 0, hc 1, hc 2, hc 3, hc 4, hc 5⟩
end Go.Proofs.YtnmpejhljdkkgaaDoor
