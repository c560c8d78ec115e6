/-
  DERIVED. CONTRACTS of the own functions of the statements of layer 6: civil, gives.
-/
import Derived.Test.YtoafigehcgledaaGreatDoorCvRefs
namespace Go.Proofs.YtoafigehcgledaaGreatDoor
open Go.RowKit

theorem civil_is (y m d : Int) (w : World) :
    Calls Tryz.prog 23 #[.int .i64 y, .int .i64 m, .int .i64 d] w fun e w' => e = .returned (.agg #[.int .i64 y, .int .i64 m, .int .i64 d]) ∧ Below w.heap.size w w' := by
  go_enter Tryz.func23, Tryz.ntmps23
  go_wp2_with fail
  refine bodyPost_ret (results_cell_row (p := 6) (ty := 23) rfl _ _ w.heap.size 23 #[.int .i64 y, .int .i64 m, .int .i64 d] (0, 0) _ rfl (heap_alloc_new _ _) Tryz.underlying23 rfl infoCv) rfl ?_
  exact ⟨rfl, (Below.refl w.heap.size w).alloc (Nat.le_refl _) _⟩
theorem gives_ok (y m d : Int) (w : World) :
    Calls Tryz.prog 19 #[.agg #[.int .i64 y, .int .i64 m, .int .i64 d], .int .i64 0, .agg #[.int .i64 y, .int .i64 m, .int .i64 d], .int .i64 0] w fun e w' => e = .returned (.bool true) ∧ Below w.heap.size w w' := by
  have HB := Kp.mk (((Below.refl w.heap.size w).alloc (Nat.le_refl _) (.cells #[.int .i64 y, .int .i64 m, .int .i64 d] 23)).alloc (by simp) (.cells #[.int .i64 y, .int .i64 m, .int .i64 d] 23))
  go_enter Tryz.func19, Tryz.ntmps19
  go_wp2_with fail
  go_ret
  exact ⟨rfl, HB.out⟩
theorem gives_bad {e : Int} (h : ¬ e = 0) (y m d : Int) (w : World) :
    Calls Tryz.prog 19 #[.agg #[.int .i64 0, .int .i64 0, .int .i64 0], .int .i64 e, .agg #[.int .i64 y, .int .i64 m, .int .i64 d], .int .i64 e] w fun e w' => e = .returned (.bool true) ∧ Below w.heap.size w w' := by
  have HB := Kp.mk (((Below.refl w.heap.size w).alloc (Nat.le_refl _) (.cells #[.int .i64 0, .int .i64 0, .int .i64 0] 23)).alloc (by simp) (.cells #[.int .i64 y, .int .i64 m, .int .i64 d] 23))
  have t : (e != 0) = true := by rw [bne_iff_ne]; exact h
  clear h
  go_enter Tryz.func19, Tryz.ntmps19
  go_wp2_with fail
  go_ret
  exact ⟨rfl, HB.out⟩
theorem num_ok (a : Int) (w : World) :
    Calls Tryz.prog 33 #[.int .i64 a, .int .i64 0, .int .i64 a] w fun x w' => x = .returned (.bool true) ∧ w = w' := by
  go_enter Tryz.func33, Tryz.ntmps33
  go_wp2_with fail
  go_ret
  exact ⟨rfl, rfl⟩
end Go.Proofs.YtoafigehcgledaaGreatDoor
