/-
  DERIVED. WALK of the law IntsDivs.
-/
import Derived.Test.YtadnehnhgnfclaaDoorLawSums
namespace Go.Proofs.YtadnehnhgnfclaaDoor
open Go.RowKit Go.Deep

def Gives (f : FuncId) (a b s e : Int) : Prop := ∀ w, Calls Tryd.prog f #[.int .i64 a, .int .i64 b] w fun x w' => x = .returned (two s e) ∧ w = w'
set_option maxRecDepth 100000 in
set_option maxHeartbeats 1000000 in
theorem divs_zero (a c : Int) (w : World) (hw : Laid w) :
    Calls Tryd.prog 4 #[.int .i64 a, .int .i64 0, .int .i64 c] w fun e w' => e = .returned (.bool true) ∧ Below w.heap.size w w' := by
  have HW := Lib.hid hw; clear hw
  go_enter Tryd.func4, Tryd.ntmps4
  go_wp2_with fail
  refine (div_zero a _).mono ?_
  rintro e w' ⟨rfl, rfl⟩
  go_wp2_with fail
  refine (mod_zero a _).mono ?_
  rintro e w' ⟨rfl, rfl⟩
  go_wp2_with fail
  refine (fails_same _ _).mono ?_
  rintro e w' ⟨rfl, rfl⟩
  go_wp2_with fail
  refine (fails_same _ _).mono ?_
  rintro e w' ⟨rfl, rfl⟩
  go_wp2_with fail
  refine (lives_any _ HW.out).mono ?_
  rintro e w5 ⟨rfl, hc⟩
  go_wp2_with fail
  go_ret
  exact ⟨rfl, hc⟩
set_option maxRecDepth 100000 in
set_option maxHeartbeats 1000000 in
theorem divs_most (c : Int) (w : World) (hw : Laid w) :
    Calls Tryd.prog 4 #[.int .i64 (-9223372036854775808), .int .i64 (-1), .int .i64 c] w fun e w' => e = .returned (.bool true) ∧ Below w.heap.size w w' := by
  have HW := Lib.hid hw; clear hw
  have hm : Gives 20 (-9223372036854775808) (-1) 0 0 := fun w1 => by
    have h := mod_any (-9223372036854775808) (-1) w1 (by decide) (by decide) (by decide) (by decide) (by decide)
    rw [show fmd (-9223372036854775808) (-1) = 0 by decide] at h
    exact h
  have HM := Lib.hid hm; clear hm
  go_enter Tryd.func4, Tryd.ntmps4
  go_wp2_with fail
  refine (div_most _).mono ?_
  rintro e w' ⟨rfl, rfl⟩
  go_wp2_with fail
  refine (HM.out _).mono ?_
  rintro e w' ⟨rfl, rfl⟩
  go_wp2_with fail
  refine (fails_same _ _).mono ?_
  rintro e w' ⟨rfl, rfl⟩
  go_wp2_with fail
  refine (gives_same _ _).mono ?_
  rintro e w' ⟨rfl, rfl⟩
  go_wp2_with fail
  refine (lives_any _ HW.out).mono ?_
  rintro e w5 ⟨rfl, hc⟩
  go_wp2_with fail
  go_ret
  exact ⟨rfl, hc⟩
end Go.Proofs.YtadnehnhgnfclaaDoor
