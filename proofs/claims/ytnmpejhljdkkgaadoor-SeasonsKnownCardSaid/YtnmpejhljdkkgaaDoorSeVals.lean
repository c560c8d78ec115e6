/-
  DERIVED. The examples of chapter 7, given the contracts of package seasons. Written by mkse2.py.
-/
import Derived.Test.YtnmpejhljdkkgaaDoorSeCore
namespace Go.Proofs.YtnmpejhljdkkgaaDoor
open Go.RowKit
set_option maxRecDepth 100000

theorem sl_new {w W : World} (L : List Int) (t : TypeId) (hb : Below w.heap.size w W) (hl : L.length ≤ 1000) : SlI (W.alloc (.cells (L.map fun x => Value.int .i64 x).toArray t)) (.slice (some ⟨W.heap.size, 0, none⟩) L.length L.length) L L.length :=
  .inr ⟨W.heap.size, 0, rfl, by simp, hl, fun j hj => by rw [Nat.zero_add]; exact (nums_new L t hb).ints j hj⟩
theorem run_at {y c lo hi e : Int} (h : runE y c = e) (g : runR y c = .agg #[.int .i8 0, .int .i64 lo, .int .i8 0, .int .i64 hi]) : RunIs y c lo hi e := ⟨h, g⟩
theorem val1 : RunIs 2000 21 730545 730636 0 := ⟨by decide +kernel, by unfold runR; rw [if_pos (by decide +kernel), show loR 2000 21 = 730545 by decide +kernel, show hiR 2000 21 = 730636 by decide +kernel]⟩
theorem val2 : RunIs 1999 24 730454 730544 0 := ⟨by decide +kernel, by unfold runR; rw [if_pos (by decide +kernel), show loR 1999 24 = 730454 by decide +kernel, show hiR 1999 24 = 730544 by decide +kernel]⟩
theorem val3 : RunIs 10000000000000000 24 0 0 6 := ⟨by decide +kernel, by unfold runR; rw [if_neg (by decide +kernel)]⟩
theorem val4 : RunIs 10000000000000000 36 3652425000000000274 3652425000000000365 0 := ⟨by decide +kernel, by unfold runR; rw [if_pos (by decide +kernel), show loR 10000000000000000 36 = 3652425000000000274 by decide +kernel, show hiR 10000000000000000 36 = 3652425000000000365 by decide +kernel]⟩
theorem day_at : YearHas 2000 730485 ∧ isY 2000 = true := ⟨by unfold YearHas; decide +kernel, by decide +kernel⟩
theorem of1 : ofY 2000 24 730485 = 1999 ∧ ofB 2000 24 730485 = true := by decide +kernel
theorem of2 : ofY 2000 33 730485 = 2000 ∧ ofB 2000 33 730485 = true := by decide +kernel
theorem of3 : ofY 2000 21 730485 = 0 ∧ ofB 2000 21 730485 = false := by decide +kernel
theorem codes_at : codesL 2000 730485 = [24, 28, 30, 33, 37, 40] := by decide +kernel
theorem mon : (fromI 24 = 12 ∧ manyI 24 = 3 ∧ chkS 24 = 0) ∧ (fromI 38 = 5 ∧ manyI 38 = 4 ∧ chkS 38 = 0) ∧ (fromI 41 = 7 ∧ manyI 41 = 6 ∧ chkS 41 = 0) ∧ fromI 20 = 0 ∧ manyI 20 = 0 ∧ chkS 20 = 7 := by decide +kernel
end Go.Proofs.YtnmpejhljdkkgaaDoor
