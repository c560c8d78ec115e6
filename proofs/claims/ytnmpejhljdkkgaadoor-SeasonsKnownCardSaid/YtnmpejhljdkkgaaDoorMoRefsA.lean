/-
  DERIVED. CONTRACTS of the reference of layer 5 (months): Len, Start, End.
-/
import Derived.Test.YtnmpejhljdkkgaaDoorYrRefs
import Derived.Test.YtnmpejhljdkkgaaDoorMoMath
import Derived.OwnWalk
namespace Go.Proofs.YtnmpejhljdkkgaaDoor
open Go.RowKit
set_option maxRecDepth 100000

set_option maxHeartbeats 1000000 in
theorem refMLen_is {y m v : Int} (w : World) (hv : lenM y m = v) :
    Calls Tryd.prog 36 #[.int .i64 y, .int .i64 m] w fun e w' => e = .returned (.int .i64 v) ∧ w = w' := by
  obtain ⟨l, hl⟩ : ∃ l, lenI y = l := ⟨_, rfl⟩
  have r1 := Kp.mk (fun w => refLen_is w hl)
  have htwo := lenI_two y
  unfold lenM at hv
  rw [hl] at hv htwo
  have w1 : IntKind.i64.wrap l = l := IntWalk.i64_in _ (by omega)
  have w2 : IntKind.i64.wrap (l - 337) = l - 337 := IntWalk.i64_in _ (by omega)
  have hcase : m = 4 ∨ m = 6 ∨ m = 9 ∨ m = 11 ∨ m = 2 ∨ (¬ m = 4 ∧ ¬ m = 6 ∧ ¬ m = 9 ∧ ¬ m = 11 ∧ ¬ m = 2) := by omega
  subst hv
  clear hl htwo
  rcases hcase with rfl | rfl | rfl | rfl | rfl | ⟨h4, h6, h9, h11, h2⟩
  · go_enter Tryd.func36, Tryd.ntmps36
    go_wp2_with fail
    go_ret
    exact ⟨rfl, rfl⟩
  · go_enter Tryd.func36, Tryd.ntmps36
    go_wp2_with fail
    go_ret
    exact ⟨rfl, rfl⟩
  · go_enter Tryd.func36, Tryd.ntmps36
    go_wp2_with fail
    go_ret
    exact ⟨rfl, rfl⟩
  · go_enter Tryd.func36, Tryd.ntmps36
    go_wp2_with fail
    go_ret
    exact ⟨rfl, rfl⟩
  · go_enter Tryd.func36, Tryd.ntmps36
    go_wp2_with fail
    refine (r1.out _).mono ?_
    rintro e w' ⟨rfl, rfl⟩
    go_wp2_with fail
    go_ret
    exact ⟨rfl, rfl⟩
  · have t4 : (m == 4) = false := by rw [beq_eq_false_iff_ne]; exact h4
    have t6 : (m == 6) = false := by rw [beq_eq_false_iff_ne]; exact h6
    have t9 : (m == 9) = false := by rw [beq_eq_false_iff_ne]; exact h9
    have t11 : (m == 11) = false := by rw [beq_eq_false_iff_ne]; exact h11
    have t2 : (m == 2) = false := by rw [beq_eq_false_iff_ne]; exact h2
    have HV := Kp.mk (show mlen l m = 31 by unfold mlen; rw [if_neg (by omega), if_neg h2])
    clear h4 h6 h9 h11 h2
    go_enter Tryd.func36, Tryd.ntmps36
    go_wp2_with fail
    go_ret
    exact ⟨by rw [HV.out]; rfl, rfl⟩
set_option maxHeartbeats 1000000 in
theorem refMStart_is {y m v : Int} (w : World) (hy : isY y = true) (h1 : 1 ≤ m) (h2 : m ≤ 12) (hv : Sm y m = v) :
    Calls Tryd.prog 25 #[.int .i64 y, .int .i64 m] w fun e w' => e = .returned (.int .i64 v) ∧ w = w' := by
  have hyr := (isY_iff y).1 hy
  have hsi := Kp.mk (Sd_in hy)
  have r1 := Kp.mk (fun w => refStart_is w (by omega) (by omega) (Sm_one y).symm)
  have HV := Kp.mk hv
  clear hv hy hyr
  go_enter Tryd.func25, Tryd.ntmps25
  go_wp2_with fail
  refine (r1.out _).mono ?_
  rintro e w' ⟨rfl, rfl⟩
  go_wp2_with fail
  go_loop [5, 6] (fun d k => ∃ j : Int, 1 ≤ j ∧ j ≤ m ∧ k = .int .i64 j ∧ d = .int .i64 (Sm y j)) (fun _ k => (m - intOf k).toNat)
  case atStart => exact ⟨1, by omega, by omega, rfl, rfl⟩
  case round =>
    obtain ⟨j, hj0, hj1, rfl, rfl⟩ := hrel
    by_cases hlt : j < m
    · obtain ⟨l, hl⟩ : ∃ l, lenM y j = l := ⟨_, rfl⟩
      have hss := Sm_succ (y := y) hj0 (show j ≤ 12 by omega)
      have hin := Sm_in (y := y) hj0 (show j ≤ 13 by omega)
      have hll := lenM_in y j
      rw [hl] at hss hll
      have r2 := Kp.mk (fun w => refMLen_is w hl)
      have w1 : IntKind.i64.wrap l = l := IntWalk.i64_in _ (by omega)
      have w2 : IntKind.i64.wrap (Sm y j + l) = Sm y (j + 1) := by rw [hss]; exact IntWalk.i64_in _ (by have := hsi.out; omega)
      have w3 : IntKind.i64.wrap (j + 1) = j + 1 := IntWalk.i64_in _ (by omega)
      clear hl hss hin hll
      go_wp2_with fail
      refine (r2.out _).mono ?_
      rintro e w' ⟨rfl, rfl⟩
      go_wp2_with fail
      go_round
      case rel => exact ⟨j + 1, by omega, by omega, rfl, rfl⟩
      case measure => simp [intOf]; omega
    · obtain rfl : j = m := by omega
      go_wp2_with fail
      go_ret
      exact ⟨by rw [← HV.out]; rfl, rfl⟩
set_option maxHeartbeats 1000000 in
theorem refMEnd_is {y m v : Int} (w : World) (hy : isY y = true) (h1 : 1 ≤ m) (h2 : m ≤ 12) (hv : Sm y (m + 1) - 1 = v) :
    Calls Tryd.prog 26 #[.int .i64 y, .int .i64 m] w fun e w' => e = .returned (.int .i64 v) ∧ w = w' := by
  have hsi := Sd_in hy
  have hin := Sm_in (y := y) h1 (show m ≤ 13 by omega)
  have hss := Sm_succ (y := y) h1 h2
  have hll := lenM_in y m
  obtain ⟨l, hl⟩ : ∃ l, lenM y m = l := ⟨_, rfl⟩
  obtain ⟨s, hs⟩ : ∃ s, Sm y m = s := ⟨_, rfl⟩
  have r1 := Kp.mk (fun w => refMStart_is w hy h1 h2 hs)
  have r2 := Kp.mk (fun w => refMLen_is w hl)
  rw [hl] at hss hll
  rw [hs] at hss hin
  have w1 : IntKind.i64.wrap l = l := IntWalk.i64_in _ (by omega)
  have w2 : IntKind.i64.wrap (s + l) = s + l := IntWalk.i64_in _ (by omega)
  have w3 : IntKind.i64.wrap (s + l - 1) = v := by rw [show s + l - 1 = v by omega]; exact IntWalk.i64_in _ (by omega)
  clear hsi hin hss hll hl hs hv hy h1 h2
  go_enter Tryd.func26, Tryd.ntmps26
  go_wp2_with fail
  refine (r1.out _).mono ?_
  rintro e w' ⟨rfl, rfl⟩
  go_wp2_with fail
  refine (r2.out _).mono ?_
  rintro e w' ⟨rfl, rfl⟩
  go_wp2_with fail
  go_ret
  exact ⟨rfl, rfl⟩
end Go.Proofs.YtnmpejhljdkkgaaDoor
