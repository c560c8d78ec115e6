/-
  DERIVED. CONTRACTS of package ints that later layers call: differ.
-/
import Derived.Test.YtbnlomjlapnoaaaDoorKp
import Derived.Test.YtbnlomjlapnoaaaDoorMath
import Derived.Lib.Hide
import Derived.BigQuiet
import Derived.Deep.QuietTactic
namespace Go.Proofs.YtbnlomjlapnoaaaDoor
open Go.RowKit

set_option maxHeartbeats 400000 in
theorem differ_any (a b : Int) (w : World) :
    Calls Tryd.prog 41 #[.int .i64 a, .int .i64 b] w fun e w' => e = .returned (.bool (differB a b)) ∧ w = w' := by
  go_enter Tryd.func41, Tryd.ntmps41
  go_wp2
  go_ret
  exact ⟨ret_bool (by unfold differB; cases decide (a < 0) <;> cases decide (b < 0) <;> rfl), rfl⟩
theorem differ_is {a b : Int} {c : Bool} (h : differB a b = c) (w : World) :
    Calls Tryd.prog 41 #[.int .i64 a, .int .i64 b] w fun e w' => e = .returned (.bool c) ∧ w = w' := h ▸ differ_any a b w
end Go.Proofs.YtbnlomjlapnoaaaDoor
